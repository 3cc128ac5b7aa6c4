/-
  The checked code answers as the plain functions do; written by program. Conditions: none.
-/
import Derived.Test.YtihgceegapfngadGreatDoorKFnReadJournala
import Derived.Test.YtihgceegapfngadGreatDoorFB
import Derived.Test.YtihgceegapfngadGreatDoorFB
import Derived.Test.YtihgceegapfngadGreatDoorProg
set_option linter.unusedVariables false
set_option linter.unusedSimpArgs false
set_option linter.defProp false
set_option maxRecDepth 100000
namespace Go.Rv
open Go.Proofs
def Ne4:Ann:=(.seq (.leaf [0,3]) (.seq (.leaf [0,3,5]) (.seq (.block (.seq (.leaf [0,3,5,9]) (.cond (.seq (.leaf [5]) (.seq (.leaf [4]) (.leafF [⟨0,4,true,none,none⟩] [4]))) (.seq (.leaf [0,3,5,28]) (.cond (.seq (.leaf [4]) (.leafF [⟨0,4,true,none,none⟩] [4])) (.seq (.leaf [0,3,5,39]) (.cond (.seq (.leaf [4]) (.leaf [4])) (.seq (.leaf [0,3,48]) (.cond (.seq (.leaf [4]) (.leafF [⟨0,4,true,none,none⟩] [4])) (.seq (.leaf [0,54]) (.cond (.seq (.leaf [4]) (.leafF [⟨0,4,true,none,none⟩] [4])) (.leaf [])))))))))))) (.seq (.leaf [4]) (.leafF [⟨0,4,true,none,none⟩] [4])))))
noncomputable def Neo:Ctx:=⟨tlook tys,olook [(51,N3p),(113,Nha),(114,Nfe)],ioF,0,false,[]⟩
theorem N156 (a:List Int) (b c d:Int):Link Neo LL (bodyOf Tryz.f73) Ne4 ⟨mkE 61 0 [(0,dL a),(1,.agg [dI b,dI c,dI d])],[]⟩ (N6b a b c d) (fun(t:Nat×(List Int))=>(Exit.ret,⟨mkE 61 0 [(4,.win 0 0 t.1)],[some (sI t.2)]⟩)):= .of fun K h=>by
 simp only[N6b,wpW] at h
 exact .of (by kernel_rfl) h
theorem N17y (a:List Int) (b c d:Int) {r:AV} {H':Heap} (h:(Ans.mk _ (N1u a b c d) (fun(t:Nat×(List Int))=>(.win 0 0 t.1,[some (sI t.2)])) [] none).run=some (r,H')):Awp Neo LL (bodyOf Tryz.f73) Ne4 ⟨mkE 61 0 [(0,dL a),(1,.agg [dI b,dI c,dI d])],[]⟩ (Ret (tlook tys) Tryz.f73.results.toList r H'):=
 ret_of' (N156 a b c d) (by unfold N1u;kernel_rfl) (by
 intro t
 exact ret_mk [.win 0 0 t.1] (by kernel_rfl) (by kernel_rfl) (by kernel_rfl) (by kernel_rfl)) h
def Ndy:Fun:=fun avs H=>
 match avs,H with
 |[.dat (.list (.int .i64)) a,.agg [.dat (.int .i64) b,.dat (.int .i64) c,.dat (.int .i64) d]],[]=>⟨_,N1u a b c d,fun(t:Nat×(List Int))=>(.win 0 0 t.1,[some (sI t.2)]),[],none⟩
 |_,_=>Ans.no
theorem Nui:Sound Tryz.prog 73 Ndy:=by
 refine fn_sound' (C:=Neo) (c:=bodyOf Tryz.f73) (cok_of tys_ok (allc N7m (allc N189 (allc Nqq alln))) (allc Tryz.call51 (allc Tryz.call113 (allc Tryz.call114 alln))) (by kernel_rfl)) Tryz.func73 (by kernel_rfl) LL Ne4 ?_
 intro avs H r H' h
 unfold Ndy at h
 split at h
 ·refine Awp.cast ?_ ?_ ?_ (N17y _ _ _ _ h)<;>kernel_rfl
 ·simp[Ans.no,Ans.run] at h
def N6:Ann:=(.seq (.leaf [2,3,4]) (.seq (.seq (.leaf [2,3,4,13]) (.cond (.seq (.leaf [4,5]) (.leafF [⟨0,4,false,some 0,some (.int .i64)⟩,⟨0,4,true,some 1,some (.int .i64)⟩] [4,5])) (.leaf [2,3,4]))) (.seq (.leaf [2,3,4,6]) (.seq (.seq (.leaf [2,3,4,6,25]) (.cond (.seq (.leaf [4,6,7]) (.seq (.leaf [4,6,7]) (.seq (.leaf [4,6]) (.seq (.leaf [4,5]) (.leaf [4,5]))))) (.leaf [2,3,4,6]))) (.seq (.leaf [2,4,6,8]) (.seq (.leaf [2,4,6,8,9]) (.seq (.seq (.leaf [2,4,6,8,9,10]) (.block (.loop (.seq (.seq (.leaf [2,4,6,8,9,10,58]) (.cond (.leaf [2,4,6,8,10]) (.leaf [4,6,8,9]))) (.seq (.block (.draw [] [0,1,2,3,4,5,6,7,8,9,10] [] [2,4,6,8,9,10])) (.leaf [2,4,6,8,9,10])))))) (.seq (.seq (.leaf [4,6,8,76]) (.cond (.seq (.leaf [4,5]) (.leaf [4,5])) (.leaf [4,6,8]))) (.seq (.leaf [4,6,8]) (.seq (.seq (.leaf [4,6,8,88]) (.cond (.leaf [4,6,8]) (.leaf [4,6,8]))) (.seq (.leaf [4,6]) (.seq (.leaf [4,5]) (.leaf [4,5])))))))))))))
noncomputable def N5n:Ctx:=⟨tlook tys,olook [(9,Ncn),(72,Ng4),(73,Ndy),(27,N1b)],ioF,0,true,[]⟩
theorem Nw4 (a:List Int) (b:List (List Int)) (c d g:Int):Link N5n LL (Code.seq (cq [0] (bodyOf Tryz.f49)) (Code.seq (cq [0,1] (bodyOf Tryz.f49)) (Code.seq (cq [0,1,1] (bodyOf Tryz.f49)) (Code.seq (cq [0,1,1,1] (bodyOf Tryz.f49)) (Code.seq (cq [0,1,1,1,1] (bodyOf Tryz.f49)) (cq [0,1,1,1,1,1] (bodyOf Tryz.f49))))))) (Ann.seq (aq [0] N6) (Ann.seq (aq [0,1] N6) (Ann.seq (aq [0,1,1] N6) (Ann.seq (aq [0,1,1,1] N6) (Ann.seq (aq [0,1,1,1,1] N6) (aq [0,1,1,1,1,1] N6)))))) ⟨mkE 98 0 [(0,.agg [dL a,.dat (.list (.list (.int .i64))) b]),(1,.agg [dI c,dI d,dI g])],[]⟩ (Nbf a b c d g) (Sum.elim (fun(t:Nat×Bool×(List Int)×(List Int)×(List (List Int)))=>(Exit.normal,⟨mkE 98 0 [(2,.ptr 0 0),(4,.ptr 1 0),(6,.ptr 2 0),(8,.win 3 0 t.1),(9,dB t.2.1)],[some (.box [dL a,.dat (.list (.list (.int .i64))) b]),some (.box [.nils,.nils]),some (.box [.slc 4,.slc 5]),some (sI t.2.2.1),some (sI t.2.2.2.1),some (.nest (.int .i64) t.2.2.2.2 0 [])]⟩)) (fun(t:Bool×(List Int)×(List (List Int)))=>(Exit.ret,⟨mkE 98 0 [(4,.ptr 0 0),(5,dB t.1)],[some (.box [.slc 1,.slc 2]),some (sI t.2.1),some (.nest (.int .i64) t.2.2 0 [])]⟩))):= .of fun K h=>by
 simp only[Nbf,wpW] at h
 exact .of (by kernel_rfl) h
theorem Nts (a:Nat) (b:Bool) (c:List Int) (d:List (List Int)) (g i:List Int) (j:List (List Int)):Link N5n LL (cq [0,0,1,1,1,1,1,1] (bodyOf Tryz.f49)) (aq [0,0,1,1,1,1,1,1] N6) ⟨mkE 98 0 [(2,.ptr 0 0),(4,.ptr 1 0),(6,.ptr 2 0),(8,.win 3 0 a),(9,dB b)],[some (.box [dL c,.dat (.list (.list (.int .i64))) d]),some (.box [.nils,.nils]),some (.box [.slc 4,.slc 5]),some (sI g),some (sI i),some (.nest (.int .i64) j 0 [])]⟩ (N8g) (fun(t:Unit)=>(Exit.normal,⟨mkE 98 0 [(2,.ptr 0 0),(4,.ptr 1 0),(6,.ptr 2 0),(8,.win 3 0 a),(9,dB b),(10,dI 0)],[some (.box [dL c,.dat (.list (.list (.int .i64))) d]),some (.box [.nils,.nils]),some (.box [.slc 4,.slc 5]),some (sI g),some (sI i),some (.nest (.int .i64) j 0 [])]⟩)):= .of fun K h=>by
 simp only[N8g,wpW] at h
 exact .of (by kernel_rfl) h
theorem Nwc (a:Nat) (b:Bool) (c:Int) (d:List Int) (g:List (List Int)) (i j:List Int) (k:List (List Int)):Link N5n LL (cq [0,0,1,0,1,1,1,1,1,1] (bodyOf Tryz.f49)) (aq [0,0,1,0,1,1,1,1,1,1] N6) ⟨mkE 98 0 [(2,.ptr 0 0),(4,.ptr 1 0),(6,.ptr 2 0),(8,.win 3 0 a),(9,dB b),(10,dI c)],[some (.box [dL d,.dat (.list (.list (.int .i64))) g]),some (.box [.nils,.nils]),some (.box [.slc 4,.slc 5]),some (sI i),some (sI j),some (.nest (.int .i64) k 0 [])]⟩ (N31 a b c d i) (Sum.elim (fun(t:Bool×Int)=>(Exit.normal,⟨mkE 98 0 [(2,.ptr 0 0),(4,.ptr 1 0),(6,.ptr 2 0),(8,.win 3 0 a),(9,dB t.1),(10,dI t.2)],[some (.box [dL d,.dat (.list (.list (.int .i64))) g]),some (.box [.nils,.nils]),some (.box [.slc 4,.slc 5]),some (sI i),some (sI j),some (.nest (.int .i64) k 0 [])]⟩)) (fun(t:Bool)=>((Exit.exit 0),⟨mkE 98 0 [(4,.ptr 0 0),(6,.ptr 1 0),(8,.win 2 0 a),(9,dB t)],[some (.box [.nils,.nils]),some (.box [.slc 3,.slc 4]),some (sI i),some (sI j),some (.nest (.int .i64) k 0 [])]⟩))):= .of fun K h=>by
 simp only[N31,wpW] at h
 exact .of (by kernel_rfl) h
theorem N12y (a:Nat) (b:Bool) (c d:List Int) (g:List (List Int)):Link N5n LL (cq [1,1,1,1,1,1,1] (bodyOf Tryz.f49)) (aq [1,1,1,1,1,1,1] N6) ⟨mkE 98 0 [(4,.ptr 0 0),(6,.ptr 1 0),(8,.win 2 0 a),(9,dB b)],[some (.box [.nils,.nils]),some (.box [.slc 3,.slc 4]),some (sI c),some (sI d),some (.nest (.int .i64) g 0 [])]⟩ (N9j a b c d g) (fun(t:Bool×(List Int)×(List (List Int)))=>(Exit.ret,⟨mkE 98 0 [(4,.ptr 0 0),(5,dB t.1)],[some (.box [.slc 1,.slc 2]),some (sI t.2.1),some (.nest (.int .i64) t.2.2 0 [])]⟩)):= .of fun K h=>by
 simp only[N9j,wpW] at h
 exact .of (by kernel_rfl) h
theorem Nxf (b:List Int) (d:List (List Int)) (g i j:Int) {r:AV} {H':Heap} (h:(Ans.mk _ (N3o b d g i j) (fun(t:Bool×(List Int)×(List (List Int)))=>(.tup [.agg [.slc 1,.slc 2],dB t.1],[some (.box [.slc 1,.slc 2]),some (sI t.2.1),some (.nest (.int .i64) t.2.2 0 [])])) [] none).run=some (r,H')):Awp N5n LL (bodyOf Tryz.f49) N6 ⟨mkE 98 0 [(0,.agg [dL b,.dat (.list (.list (.int .i64))) d]),(1,.agg [dI g,dI i,dI j])],[]⟩ (Ret (tlook tys) Tryz.f49.results.toList r H'):=
 ret_of' (Link.cast (by kernel_rfl) (by kernel_rfl) (link_group (c:=(cq [0,1,1,1,1,1] (bodyOf Tryz.f49))) (a:=(aq [0,1,1,1,1,1] N6)) [(cq [0] (bodyOf Tryz.f49)),(cq [0,1] (bodyOf Tryz.f49)),(cq [0,1,1] (bodyOf Tryz.f49)),(cq [0,1,1,1] (bodyOf Tryz.f49)),(cq [0,1,1,1,1] (bodyOf Tryz.f49))] [(aq [0] N6),(aq [0,1] N6),(aq [0,1,1] N6),(aq [0,1,1,1] N6),(aq [0,1,1,1,1] N6)] rfl (link_seq2 (Nw4 b d g i j) (fun(t:Nat×Bool×(List Int)×(List Int)×(List (List Int)))=>(link_seq (link_seq (Nts t.1 t.2.1 b d t.2.2.1 t.2.2.2.1 t.2.2.2.2) (fun(t30:Unit)=>(link_block (fin2:=(fun(t30:Bool)=>(Exit.normal,⟨mkE 98 0 [(4,.ptr 0 0),(6,.ptr 1 0),(8,.win 2 0 t.1),(9,dB t30)],[some (.box [.nils,.nils]),some (.box [.slc 3,.slc 4]),some (sI t.2.2.1),some (sI t.2.2.2.1),some (.nest (.int .i64) t.2.2.2.2 0 [])]⟩))) (id:=0) (link_loop (mk:=fun(s:Bool×Int)=>⟨mkE 98 0 [(2,.ptr 0 0),(4,.ptr 1 0),(6,.ptr 2 0),(8,.win 3 0 t.1),(9,dB s.1),(10,dI s.2)],[some (.box [dL b,.dat (.list (.list (.int .i64))) d]),some (.box [.nils,.nils]),some (.box [.slc 4,.slc 5]),some (sI t.2.2.1),some (sI t.2.2.2.1),some (.nest (.int .i64) t.2.2.2.2 0 [])]⟩) (fin:=(fun(t30:Bool)=>((Exit.exit 0),⟨mkE 98 0 [(4,.ptr 0 0),(6,.ptr 1 0),(8,.win 2 0 t.1),(9,dB t30)],[some (.box [.nils,.nils]),some (.box [.slc 3,.slc 4]),some (sI t.2.2.1),some (sI t.2.2.2.1),some (.nest (.int .i64) t.2.2.2.2 0 [])]⟩))) (by
 rintro t30 f K h
 ·exact h) (fun s=>link_map (Nwc t.1 s.1 s.2 b d t.2.2.1 t.2.2.2.1 t.2.2.2.2) (Sum.elim (fun(t30:Bool×Int)=>Sum.inl (t30.1,t30.2)) (fun(t30:Bool)=>Sum.inr t30)) (by
 rintro(t30|t30)
 ·kernel_rfl
 ·kernel_rfl)) (t.2.1,0)) (fun(t30:Bool)=>t30) (by
 rintro t30 K h
 ·exact Eq.mp (by kernel_rfl) h)))) (fun(t30:Bool)=>(N12y t.1 t30 t.2.2.1 t.2.2.2.1 t.2.2.2.2)))) (fun(t:Bool×(List Int)×(List (List Int)))=>t) (by
 rintro t
 ·kernel_rfl) (by
 rintro t f K h
 ·exact h)))) (by unfold N3o;kernel_rfl) (by
 intro t
 exact ret_mk [.agg [.slc 1,.slc 2],dB t.1] (by kernel_rfl) (by kernel_rfl) (by kernel_rfl) (by kernel_rfl)) h
def Neq:Fun:=fun avs H=>
 match avs,H with
 |[.agg [.dat (.list (.int .i64)) a,.dat (.list (.list (.int .i64))) b],.agg [.dat (.int .i64) c,.dat (.int .i64) d,.dat (.int .i64) g]],[]=>⟨_,N3o a b c d g,fun(t:Bool×(List Int)×(List (List Int)))=>(.tup [.agg [.slc 1,.slc 2],dB t.1],[some (.box [.slc 1,.slc 2]),some (sI t.2.1),some (.nest (.int .i64) t.2.2 0 [])]),[],none⟩
 |_,_=>Ans.no
theorem Nwo:Sound Tryz.prog 49 Neq:=by
 refine fn_sound' (C:=N5n) (c:=bodyOf Tryz.f49) (cok_of tys_ok (allc Nke (allc Nzx (allc Nui (allc N2q alln)))) (allc Tryz.call9 (allc Tryz.call72 (allc Tryz.call73 (allc Tryz.call27 alln)))) (by kernel_rfl)) Tryz.func49 (by kernel_rfl) LL N6 ?_
 intro avs H r H' h
 unfold Neq at h
 split at h
 ·refine Awp.cast ?_ ?_ ?_ (Nxf _ _ _ _ _ h)<;>kernel_rfl
 ·simp[Ans.no,Ans.run] at h
def N1s:Ann:=(.seq (.leaf [0,1,4]) (.seq (.leaf [0,1,4,5]) (.seq (.seq (.leafF [⟨3,5,false,some 0,none⟩,⟨3,5,true,some 1,some (.int .i64)⟩] [0,1,4,5,7]) (.block (.loop (.seq (.seq (.leaf [0,1,4,5,7,19]) (.cond (.leafF [⟨0,5,false,some 0,none⟩] [0,1,4,5,7]) (.leaf [0,1,4,5]))) (.seq (.block (.seq (.draw [5,200002,300000] [0,1,2,3,4,5,6,7,8,9,10,11] [] [0,1,4,5,7,8,9]) (.seq (.leaf [0,1,4,5,7,8,31]) (.cond (.leaf [0,1,4,5,7]) (.leaf [0,1,4,5,7]))))) (.leafF [⟨3,5,false,some 0,none⟩,⟨3,5,true,some 1,some (.int .i64)⟩] [0,1,4,5,7])))))) (.seq (.seq (.leaf [0,4,5,35]) (.cond (.seq (.leaf [4,5,37]) (.block (.seq (.leaf [4,5,37,39]) (.cond (.leaf [4,5]) (.seq (.leaf [4,5,43]) (.cond (.leaf [4,5]) (.seq (.leaf [4]) (.leafF [⟨0,4,false,some 0,some (.int .i64)⟩,⟨0,4,false,some 0,none⟩,⟨0,4,true,some 1,some (.int .i64)⟩] [4])))))))) (.leaf [4,5]))) (.seq (.leaf [4]) (.leafF [⟨0,4,false,some 0,none⟩] [4]))))))
noncomputable def N4a:Ctx:=⟨tlook tys,olook [(41,Naa),(48,Nif),(19,Nk),(50,N7q),(49,Neq),(25,N49)],ioF,1,true,[]⟩
theorem N16n (a:Int) (b:List Int) (c:Int):Link N4a LL (Code.seq (cq [0] (bodyOf Tryz.f24)) (cq [0,1] (bodyOf Tryz.f24))) (Ann.seq (aq [0] N1s) (aq [0,1] N1s)) ⟨mkE 52 0 [(0,.ptr 0 0),(1,dI a)],[some (.box [dV b,dI c])]⟩ (Na3 b c) (fun(t:Int×(List Int))=>(Exit.normal,⟨mkE 52 0 [(0,.ptr 0 0),(1,dI a),(4,.ptr 1 0),(5,.ptr 2 0)],[some (.box [dV b,dI t.1]),some (.box [.nils,.nils]),some (.box [.slc 3,.nils]),some (sI t.2)]⟩)):= .of fun K h=>by
 simp only[Na3,wpW] at h
 exact .of (by kernel_rfl) h
theorem Nzt (a:Int) (b:List Int) (c:Int) (d:List Int):Link N4a LL (cq [0,0,1,1] (bodyOf Tryz.f24)) (aq [0,0,1,1] N1s) ⟨mkE 52 0 [(0,.ptr 0 0),(1,dI a),(4,.ptr 1 0),(5,.ptr 2 0)],[some (.box [dV b,dI c]),some (.box [.nils,.nils]),some (.box [.slc 3,.nils]),some (sI d)]⟩ (Nap b c) (fun(t:Int×Int)=>(Exit.normal,⟨mkE 52 0 [(0,.ptr 0 0),(1,dI a),(4,.ptr 1 0),(5,.ptr 2 0),(7,dI t.1)],[some (.box [dV b,dI t.2]),some (.box [.nils,.nils]),some (.box [dL d,.slc 3]),some (.nest (.int .i64) ([]:List (List Int)) 0 [])]⟩)):= .of fun K h=>by
 simp only[Nap,wpW] at h
 exact .of (by kernel_rfl) h
theorem Nul (a b:Int) (c:List Int) (d:Int) (g:List Int) (i:List (List Int)):Link N4a LL (cq [0,0,1,0,1,1] (bodyOf Tryz.f24)) (aq [0,0,1,0,1,1] N1s) ⟨mkE 52 0 [(0,.ptr 0 0),(1,dI a),(4,.ptr 1 0),(5,.ptr 2 0),(7,dI b)],[some (.box [dV c,dI d]),some (.box [.nils,.nils]),some (.box [dL g,.slc 3]),some (.nest (.int .i64) i 0 [])]⟩ (N6d b c d g i) (Sum.elim (fun(t:Int×Int×(List Int)×(List (List Int)))=>(Exit.normal,⟨mkE 52 0 [(0,.ptr 0 0),(1,dI a),(4,.ptr 1 0),(5,.ptr 2 0),(7,dI t.1)],[some (.box [dV c,dI t.2.1]),some (.box [.nils,.nils]),some (.box [dL t.2.2.1,.slc 3]),some (.nest (.int .i64) t.2.2.2 0 [])]⟩)) (fun(t:Int×(List Int)×(List (List Int)))=>((Exit.exit 0),⟨mkE 52 0 [(0,.ptr 0 0),(1,dI a),(4,.ptr 1 0),(5,.ptr 2 0)],[some (.box [dV c,dI t.1]),some (.box [.nils,.nils]),some (.box [dL t.2.1,.slc 3]),some (.nest (.int .i64) t.2.2 0 [])]⟩))):= .of fun K h=>by
 simp only[N6d,wpW] at h
 exact .of (by kernel_rfl) h
theorem Nxa (a:Int) (b:List Int) (c:Int) (d:List Int) (g:List (List Int)):Link N4a LL (cq [1,1,1] (bodyOf Tryz.f24)) (aq [1,1,1] N1s) ⟨mkE 52 0 [(0,.ptr 0 0),(1,dI a),(4,.ptr 1 0),(5,.ptr 2 0)],[some (.box [dV b,dI c]),some (.box [.nils,.nils]),some (.box [dL d,.slc 3]),some (.nest (.int .i64) g 0 [])]⟩ (N7z a b c d g) (fun(t:Int×(List Int)×(List (List Int)))=>(Exit.ret,⟨mkE 52 0 [(4,.ptr 1 0)],[some (.box [dV b,dI t.1]),some (.box [dL t.2.1,.slc 2]),some (.nest (.int .i64) t.2.2 0 [])]⟩)):= .of fun K h=>by
 simp only[N7z,wpW] at h
 exact .of (by kernel_rfl) h
theorem Nun (b:Int) (d:List Int) (g:Int) {r:AV} {H':Heap} (h:(Ans.mk _ (N45 b d g) (fun(t:Int×(List Int)×(List (List Int)))=>(.agg [dL t.2.1,.slc 2],[some (.box [dV d,dI t.1]),some (.box [dL t.2.1,.slc 2]),some (.nest (.int .i64) t.2.2 0 [])])) [] none).run=some (r,H')):Awp N4a LL (bodyOf Tryz.f24) N1s ⟨mkE 52 0 [(0,.ptr 0 0),(1,dI b)],[some (.box [dV d,dI g])]⟩ (Ret (tlook tys) Tryz.f24.results.toList r H'):=
 ret_of' (Link.cast (by kernel_rfl) (by kernel_rfl) (link_group (c:=(cq [0,1] (bodyOf Tryz.f24))) (a:=(aq [0,1] N1s)) [(cq [0] (bodyOf Tryz.f24))] [(aq [0] N1s)] rfl (link_seq (N16n b d g) (fun(t:Int×(List Int))=>(link_seq (link_seq (Nzt b d t.1 t.2) (fun(t31:Int×Int)=>(link_block (fin2:=(fun(t8:Int×(List Int)×(List (List Int)))=>(Exit.normal,⟨mkE 52 0 [(0,.ptr 0 0),(1,dI b),(4,.ptr 1 0),(5,.ptr 2 0)],[some (.box [dV d,dI t8.1]),some (.box [.nils,.nils]),some (.box [dL t8.2.1,.slc 3]),some (.nest (.int .i64) t8.2.2 0 [])]⟩))) (id:=0) (link_loop (mk:=fun(s:Int×Int×(List Int)×(List (List Int)))=>⟨mkE 52 0 [(0,.ptr 0 0),(1,dI b),(4,.ptr 1 0),(5,.ptr 2 0),(7,dI s.1)],[some (.box [dV d,dI s.2.1]),some (.box [.nils,.nils]),some (.box [dL s.2.2.1,.slc 3]),some (.nest (.int .i64) s.2.2.2 0 [])]⟩) (fin:=(fun(t8:Int×(List Int)×(List (List Int)))=>((Exit.exit 0),⟨mkE 52 0 [(0,.ptr 0 0),(1,dI b),(4,.ptr 1 0),(5,.ptr 2 0)],[some (.box [dV d,dI t8.1]),some (.box [.nils,.nils]),some (.box [dL t8.2.1,.slc 3]),some (.nest (.int .i64) t8.2.2 0 [])]⟩))) (by
 rintro t8 f K h
 ·exact h) (fun s=>link_map (Nul b s.1 d s.2.1 s.2.2.1 s.2.2.2) (Sum.elim (fun(t8:Int×Int×(List Int)×(List (List Int)))=>Sum.inl (t8.1,t8.2.1,t8.2.2.1,t8.2.2.2)) (fun(t8:Int×(List Int)×(List (List Int)))=>Sum.inr t8)) (by
 rintro(t8|t8)
 ·kernel_rfl
 ·kernel_rfl)) (t31.1,t31.2,t.2,([]:List (List Int)))) (fun(t8:Int×(List Int)×(List (List Int)))=>(t8.1,t8.2.1,t8.2.2)) (by
 rintro t8 K h
 ·exact Eq.mp (by kernel_rfl) h)))) (fun(t31:Int×(List Int)×(List (List Int)))=>(Nxa b d t31.1 t31.2.1 t31.2.2))))))) (by unfold N45;kernel_rfl) (by
 intro t
 exact ret_mk [.agg [dL t.2.1,.slc 2]] (by kernel_rfl) (by kernel_rfl) (by kernel_rfl) (by kernel_rfl)) h
def Nft:Fun:=fun avs H=>
 match avs,H with
 |[.ptr 0 0,.dat (.int .i64) a],[some (.box [.dat (.list (.int .u8)) b,.dat (.int .i64) c])]=>⟨_,N45 a b c,fun(t:Int×(List Int)×(List (List Int)))=>(.agg [dL t.2.1,.slc 2],[some (.box [dV b,dI t.1]),some (.box [dL t.2.1,.slc 2]),some (.nest (.int .i64) t.2.2 0 [])]),[],none⟩
 |_,_=>Ans.no
theorem N16d:Sound Tryz.prog 24 Nft:=by
 refine fn_sound' (C:=N4a) (c:=bodyOf Tryz.f24) (cok_of tys_ok (allc Nn5 (allc Nph (allc Nu (allc No2 (allc Nwo (allc Nb8 alln)))))) (allc Tryz.call41 (allc Tryz.call48 (allc Tryz.call19 (allc Tryz.call50 (allc Tryz.call49 (allc Tryz.call25 alln)))))) (by kernel_rfl)) Tryz.func24 (by kernel_rfl) LL N1s ?_
 intro avs H r H' h
 unfold Nft at h
 split at h
 ·refine Awp.cast ?_ ?_ ?_ (Nun _ _ _ h)<;>kernel_rfl
 ·simp[Ans.no,Ans.run] at h
def Nei:Ann:=(.seq (.leaf [0,2]) (.seq (.leaf [2,4]) (.seq (.leaf [2,4,5]) (.seq (.seq (.leaf [2,4,5,11]) (.cond (.seq (.draw [] [0,2,1,3] [] [2,3]) (.leaf [2,3])) (.leaf [2,4,5]))) (.seq (.draw [200002,300000] [0,1,2,3,4,5,6] [] [2,3]) (.leaf [2,3]))))))
noncomputable def Ngf:Ctx:=⟨tlook tys,olook [(16,N7t),(24,Nft),(25,N49),(26,N8w)],ioF,0,true,[]⟩
theorem N17b (a:List Int):Link Ngf LL (bodyOf Tryz.f8) Nei ⟨mkE 19 0 [(0,dV a)],[]⟩ (Na8 a) (fun(t:(List Int)×(List (Int×Int×Int×Unit))×(List (List Int)))=>(Exit.ret,⟨mkE 19 0 [(2,.ptr 0 0),(3,.slc 1)],[some (.box [dL t.1,.slc 2]),some (.seq (.pair (.int .i64) (.pair (.int .i64) (.pair (.int .i64) .unit))) t.2.1),some (.nest (.int .i64) t.2.2 0 [])]⟩)):= .of fun K h=>by
 simp only[Na8,wpW] at h
 exact .of (by kernel_rfl) h
theorem Ns5 (a:List Int) {r:AV} {H':Heap} (h:(Ans.mk _ (N4e a) (fun(t:(List Int)×(List (Int×Int×Int×Unit))×(List (List Int)))=>(.tup [.agg [dL t.1,.slc 2],.slc 1],[some (.box [dL t.1,.slc 2]),some (.seq (.pair (.int .i64) (.pair (.int .i64) (.pair (.int .i64) .unit))) t.2.1),some (.nest (.int .i64) t.2.2 0 [])])) [] none).run=some (r,H')):Awp Ngf LL (bodyOf Tryz.f8) Nei ⟨mkE 19 0 [(0,dV a)],[]⟩ (Ret (tlook tys) Tryz.f8.results.toList r H'):=
 ret_of' (N17b a) (by unfold N4e;kernel_rfl) (by
 intro t
 exact ret_mk [.agg [dL t.1,.slc 2],.slc 1] (by kernel_rfl) (by kernel_rfl) (by kernel_rfl) (by kernel_rfl)) h
def Ngr:Fun:=fun avs H=>
 match avs,H with
 |[.dat (.list (.int .u8)) a],[]=>⟨_,N4e a,fun(t:(List Int)×(List (Int×Int×Int×Unit))×(List (List Int)))=>(.tup [.agg [dL t.1,.slc 2],.slc 1],[some (.box [dL t.1,.slc 2]),some (.seq (.pair (.int .i64) (.pair (.int .i64) (.pair (.int .i64) .unit))) t.2.1),some (.nest (.int .i64) t.2.2 0 [])]),[],none⟩
 |_,_=>Ans.no
theorem Nv5:Sound Tryz.prog 8 Ngr:=by
 refine fn_sound' (C:=Ngf) (c:=bodyOf Tryz.f8) (cok_of tys_ok (allc Nn9 (allc N16d (allc Nb8 (allc Nm6 alln)))) (allc Tryz.call16 (allc Tryz.call24 (allc Tryz.call25 (allc Tryz.call26 alln)))) (by kernel_rfl)) Tryz.func8 (by kernel_rfl) LL Nei ?_
 intro avs H r H' h
 unfold Ngr at h
 split at h
 ·refine Awp.cast ?_ ?_ ?_ (Ns5 _ h)<;>kernel_rfl
 ·simp[Ans.no,Ans.run] at h
def N1q:Ann:=(.seq (.leaf [0]) (.seq (.leaf [0,3]) (.seq (.seq (.leaf [0,3,6,7,8]) (.block (.loop (.seq (.leaf [0,3,6,7,8,9]) (.seq (.cond (.leaf [0,3,6,7,8]) (.leaf [3])) (.seq (.block (.seq (.leaf [0,3,5,6,7,8]) (.seq (.seq (.leaf [0,3,5,6,7,8,19]) (.cond (.seq (.leaf [2]) (.leaf [2])) (.leaf [0,3,5,6,7,8]))) (.seq (.leaf [0,3,6,7,8,21]) (.cond (.leaf [0,3,6,7,8]) (.leaf [0,3,6,7,8])))))) (.leaf [0,3,6,7,8]))))))) (.seq (.leaf [2]) (.leaf [2])))))
noncomputable def N5v:Ctx:=⟨tlook tys,olook [],ioF,0,false,[]⟩
theorem N13p (a:List Int):Link N5v LL (Code.seq (cq [0] (bodyOf Tryz.f61)) (cq [0,1] (bodyOf Tryz.f61))) (Ann.seq (aq [0] N1q) (aq [0,1] N1q)) ⟨mkE 27 0 [(0,dL a)],[]⟩ (Nbi) (fun(t:Unit)=>(Exit.normal,⟨mkE 27 0 [(0,dL a),(3,dI 0)],[]⟩)):= .of fun K h=>by
 simp only[Nbi,wpW] at h
 exact .of (by kernel_rfl) h
theorem N17s (a:List Int):Link N5v LL (cq [0,0,1,1] (bodyOf Tryz.f61)) (aq [0,0,1,1] N1q) ⟨mkE 27 0 [(0,dL a),(3,dI 0)],[]⟩ (N85 a) (fun(t:Int)=>(Exit.normal,⟨mkE 27 0 [(0,dL a),(3,dI 0),(6,dL a),(7,dI t),(8,dI 0)],[]⟩)):= .of fun K h=>by
 simp only[N85,wpW] at h
 exact .of (by kernel_rfl) h
theorem N11o (a:List Int) (b c d:Int):Link N5v LL (cq [0,0,1,0,1,1] (bodyOf Tryz.f61)) (aq [0,0,1,0,1,1] N1q) ⟨mkE 27 0 [(0,dL a),(3,dI b),(6,dL a),(7,dI c),(8,dI d)],[]⟩ (N5b a b c d) (Sum.elim (fun(t:Int×Int)=>(Exit.normal,⟨mkE 27 0 [(0,dL a),(3,dI t.1),(6,dL a),(7,dI c),(8,dI t.2)],[]⟩)) (Sum.elim (fun(t:Bool)=>(Exit.ret,⟨mkE 27 0 [(2,dB t)],[]⟩)) (fun(t:Int)=>((Exit.exit 0),⟨mkE 27 0 [(3,dI t)],[]⟩)))):= .of fun K h=>by
 simp only[N5b,wpW] at h
 exact .of (by kernel_rfl) h
theorem Nq3 (a:Int):Link N5v LL (cq [1,1,1] (bodyOf Tryz.f61)) (aq [1,1,1] N1q) ⟨mkE 27 0 [(3,dI a)],[]⟩ (Na7 a) (fun(t:Bool)=>(Exit.ret,⟨mkE 27 0 [(2,dB t)],[]⟩)):= .of fun K h=>by
 simp only[Na7,wpW] at h
 exact .of (by kernel_rfl) h
theorem Nu3 (b:List Int) {r:AV} {H':Heap} (h:(Ans.mk _ (N4l b) (fun(t:Bool)=>(dB t,[])) [] none).run=some (r,H')):Awp N5v LL (bodyOf Tryz.f61) N1q ⟨mkE 27 0 [(0,dL b)],[]⟩ (Ret (tlook tys) Tryz.f61.results.toList r H'):=
 ret_of' (Link.cast (by kernel_rfl) (by kernel_rfl) (link_group (c:=(cq [0,1] (bodyOf Tryz.f61))) (a:=(aq [0,1] N1q)) [(cq [0] (bodyOf Tryz.f61))] [(aq [0] N1q)] rfl (link_seq (N13p b) (fun(t:Unit)=>(link_seq2 (link_seq (N17s b) (fun(t:Int)=>(link_block (fin2:=(Sum.elim (fun(t9:Int)=>(Exit.normal,⟨mkE 27 0 [(3,dI t9)],[]⟩)) (fun(t9:Bool)=>(Exit.ret,⟨mkE 27 0 [(2,dB t9)],[]⟩)))) (id:=0) (link_loop (mk:=fun(s:Int×Int)=>⟨mkE 27 0 [(0,dL b),(3,dI s.1),(6,dL b),(7,dI t),(8,dI s.2)],[]⟩) (fin:=(Sum.elim (fun(t9:Bool)=>(Exit.ret,⟨mkE 27 0 [(2,dB t9)],[]⟩)) (fun(t9:Int)=>((Exit.exit 0),⟨mkE 27 0 [(3,dI t9)],[]⟩)))) (by
 rintro(t9|t9) f K h
 ·exact h
 ·exact h) (fun s=>link_map (N11o b s.1 t s.2) (Sum.elim (fun(t9:Int×Int)=>Sum.inl (t9.1,t9.2)) (Sum.elim (fun(t9:Bool)=>Sum.inr (Sum.inl t9)) (fun(t9:Int)=>Sum.inr (Sum.inr t9)))) (by
 rintro(t9|t9|t9)
 ·kernel_rfl
 ·kernel_rfl
 ·kernel_rfl)) (0,0)) (Sum.elim (fun(t9:Bool)=>(Sum.inr t9)) (fun(t9:Int)=>(Sum.inl t9))) (by
 rintro(t9|t9) K h
 ·exact Eq.mp (by kernel_rfl) h
 ·exact Eq.mp (by kernel_rfl) h)))) (fun(t:Int)=>(Nq3 t)) (fun(t:Bool)=>t) (by
 rintro t
 ·kernel_rfl) (by
 rintro t f K h
 ·exact h)))))) (by unfold N4l;kernel_rfl) (by
 intro t
 exact ret_mk [dB t] (by kernel_rfl) (by kernel_rfl) (by kernel_rfl) (by kernel_rfl)) h
def Ncv:Fun:=fun avs H=>
 match avs,H with
 |[.dat (.list (.int .i64)) a],[]=>⟨_,N4l a,fun(t:Bool)=>(dB t,[]),[],none⟩
 |_,_=>Ans.no
theorem Nst:Sound Tryz.prog 61 Ncv:=by
 refine fn_sound' (C:=N5v) (c:=bodyOf Tryz.f61) (cok_of tys_ok (alln) (alln) (by kernel_rfl)) Tryz.func61 (by kernel_rfl) LL N1q ?_
 intro avs H r H' h
 unfold Ncv at h
 split at h
 ·refine Awp.cast ?_ ?_ ?_ (Nu3 _ h)<;>kernel_rfl
 ·simp[Ans.no,Ans.run] at h
def Nez:Ann:=(.seq (.leaf [0]) (.seq (.draw [] [0,1,2,3,4,5,6,7,8,9,10,11] [] [0,3]) (.seq (.seq (.leaf [0,3,16]) (.cond (.seq (.leaf [2]) (.leaf [2])) (.leaf [0,3]))) (.seq (.leaf [0]) (.seq (.leaf []) (.seq (.leaf [2]) (.leaf [2])))))))
noncomputable def Nhz:Ctx:=⟨tlook tys,olook [],ioF,1,false,[]⟩
theorem N13j (a:List Int) (b c:Int):Link Nhz LL (bodyOf Tryz.f98) Nez ⟨mkE 28 0 [(0,.ptr 0 0)],[some (.box [dL a,dI b,dI c])]⟩ (Na5 a b c) (fun(t:Bool×Int×Int)=>(Exit.ret,⟨mkE 28 0 [(2,dB t.1)],[some (.box [dL a,dI t.2.1,dI t.2.2])]⟩)):= .of fun K h=>by
 simp only[Na5,wpW] at h
 exact .of (by kernel_rfl) h
theorem Nrg (a:List Int) (b c:Int) {r:AV} {H':Heap} (h:(Ans.mk _ (N2z a b c) (fun(t:Bool×Int×Int)=>(dB t.1,[some (.box [dL a,dI t.2.1,dI t.2.2])])) [] none).run=some (r,H')):Awp Nhz LL (bodyOf Tryz.f98) Nez ⟨mkE 28 0 [(0,.ptr 0 0)],[some (.box [dL a,dI b,dI c])]⟩ (Ret (tlook tys) Tryz.f98.results.toList r H'):=
 ret_of' (N13j a b c) (by unfold N2z;kernel_rfl) (by
 intro t
 exact ret_mk [dB t.1] (by kernel_rfl) (by kernel_rfl) (by kernel_rfl) (by kernel_rfl)) h
def Nau:Fun:=fun avs H=>
 match avs,H with
 |[.ptr 0 0],[some (.box [.dat (.list (.int .i64)) a,.dat (.int .i64) b,.dat (.int .i64) c])]=>⟨_,N2z a b c,fun(t:Bool×Int×Int)=>(dB t.1,[some (.box [dL a,dI t.2.1,dI t.2.2])]),[],none⟩
 |_,_=>Ans.no
theorem Nj3:Sound Tryz.prog 98 Nau:=by
 refine fn_sound' (C:=Nhz) (c:=bodyOf Tryz.f98) (cok_of tys_ok (alln) (alln) (by kernel_rfl)) Tryz.func98 (by kernel_rfl) LL Nez ?_
 intro avs H r H' h
 unfold Nau at h
 split at h
 ·refine Awp.cast ?_ ?_ ?_ (Nrg _ _ _ h)<;>kernel_rfl
 ·simp[Ans.no,Ans.run] at h
def N2p:Ann:=(.seq (.leaf [0,1]) (.seq (.leaf [0,6]) (.seq (.block (.loop (.seq (.seq (.leaf [0,6,10]) (.cond (.leaf [0,6]) (.leaf [6]))) (.block (.seq (.leaf [0,6,15]) (.cond (.seq (.leaf [4,5]) (.leaf [4,5])) (.leaf [0,6]))))))) (.seq (.leaf [4,5]) (.leaf [4,5])))))
noncomputable def N6y:Ctx:=⟨tlook tys,olook [(98,Nau)],ioF,0,false,[]⟩
theorem Nxb (a:List Int) (b:Int):Link N6y LL (Code.seq (cq [0] (bodyOf Tryz.f62)) (cq [0,1] (bodyOf Tryz.f62))) (Ann.seq (aq [0] N2p) (aq [0,1] N2p)) ⟨mkE 18 0 [(0,dL a),(1,dI b)],[]⟩ (N7x) (fun(t:Unit)=>(Exit.normal,⟨mkE 18 0 [(0,dL a),(6,.ptr 0 0)],[some (.box [dL a,dI b,dI 0])]⟩)):= .of fun K h=>by
 simp only[N7x,wpW] at h
 exact .of (by kernel_rfl) h
theorem N13u (a:List Int) (b c:Int):Link N6y LL (cq [0,0,0,1,1] (bodyOf Tryz.f62)) (aq [0,0,0,1,1] N2p) ⟨mkE 18 0 [(0,dL a),(6,.ptr 0 0)],[some (.box [dL a,dI b,dI c])]⟩ (N6g a b c) (Sum.elim (fun(t:Int×Int)=>(Exit.normal,⟨mkE 18 0 [(0,dL a),(6,.ptr 0 0)],[some (.box [dL a,dI t.1,dI t.2])]⟩)) (Sum.elim (fun(t:Int×Bool)=>(Exit.ret,⟨mkE 18 0 [(4,dI t.1),(5,dB t.2)],[]⟩)) (fun(t:Int×Int)=>((Exit.exit 0),⟨mkE 18 0 [(6,.ptr 0 0)],[some (.box [dL a,dI t.1,dI t.2])]⟩)))):= .of fun K h=>by
 simp only[N6g,wpW] at h
 exact .of (by kernel_rfl) h
theorem Nxh (a:List Int) (b c:Int):Link N6y LL (cq [1,1,1] (bodyOf Tryz.f62)) (aq [1,1,1] N2p) ⟨mkE 18 0 [(6,.ptr 0 0)],[some (.box [dL a,dI b,dI c])]⟩ (Nb4 c) (fun(t:Int×Bool)=>(Exit.ret,⟨mkE 18 0 [(4,dI t.1),(5,dB t.2)],[]⟩)):= .of fun K h=>by
 simp only[Nb4,wpW] at h
 exact .of (by kernel_rfl) h
theorem Nqv (b:List Int) (d:Int) {r:AV} {H':Heap} (h:(Ans.mk _ (N4k b d) (fun(t:Int×Bool)=>(.tup [dI t.1,dB t.2],[])) [] none).run=some (r,H')):Awp N6y LL (bodyOf Tryz.f62) N2p ⟨mkE 18 0 [(0,dL b),(1,dI d)],[]⟩ (Ret (tlook tys) Tryz.f62.results.toList r H'):=
 ret_of' (Link.cast (by kernel_rfl) (by kernel_rfl) (link_group (c:=(cq [0,1] (bodyOf Tryz.f62))) (a:=(aq [0,1] N2p)) [(cq [0] (bodyOf Tryz.f62))] [(aq [0] N2p)] rfl (link_seq (Nxb b d) (fun(t:Unit)=>(link_seq2 (link_block (fin2:=(Sum.elim (fun(t:Int×Int)=>(Exit.normal,⟨mkE 18 0 [(6,.ptr 0 0)],[some (.box [dL b,dI t.1,dI t.2])]⟩)) (fun(t:Int×Bool)=>(Exit.ret,⟨mkE 18 0 [(4,dI t.1),(5,dB t.2)],[]⟩)))) (id:=0) (link_loop (mk:=fun(s:Int×Int)=>⟨mkE 18 0 [(0,dL b),(6,.ptr 0 0)],[some (.box [dL b,dI s.1,dI s.2])]⟩) (fin:=(Sum.elim (fun(t:Int×Bool)=>(Exit.ret,⟨mkE 18 0 [(4,dI t.1),(5,dB t.2)],[]⟩)) (fun(t:Int×Int)=>((Exit.exit 0),⟨mkE 18 0 [(6,.ptr 0 0)],[some (.box [dL b,dI t.1,dI t.2])]⟩)))) (by
 rintro(t|t) f K h
 ·exact h
 ·exact h) (fun s=>link_map (N13u b s.1 s.2) (Sum.elim (fun(t:Int×Int)=>Sum.inl (t.1,t.2)) (Sum.elim (fun(t:Int×Bool)=>Sum.inr (Sum.inl t)) (fun(t:Int×Int)=>Sum.inr (Sum.inr t)))) (by
 rintro(t|t|t)
 ·kernel_rfl
 ·kernel_rfl
 ·kernel_rfl)) (d,0)) (Sum.elim (fun(t:Int×Bool)=>(Sum.inr t)) (fun(t:Int×Int)=>(Sum.inl (t.1,t.2)))) (by
 rintro(t|t) K h
 ·exact Eq.mp (by kernel_rfl) h
 ·exact Eq.mp (by kernel_rfl) h)) (fun(t:Int×Int)=>(Nxh b t.1 t.2)) (fun(t:Int×Bool)=>t) (by
 rintro t
 ·kernel_rfl) (by
 rintro t f K h
 ·exact h)))))) (by unfold N4k;kernel_rfl) (by
 intro t
 exact ret_mk [dI t.1,dB t.2] (by kernel_rfl) (by kernel_rfl) (by kernel_rfl) (by kernel_rfl)) h
def Ndp:Fun:=fun avs H=>
 match avs,H with
 |[.dat (.list (.int .i64)) a,.dat (.int .i64) b],[]=>⟨_,N4k a b,fun(t:Int×Bool)=>(.tup [dI t.1,dB t.2],[]),[],none⟩
 |_,_=>Ans.no
theorem N176:Sound Tryz.prog 62 Ndp:=by
 refine fn_sound' (C:=N6y) (c:=bodyOf Tryz.f62) (cok_of tys_ok (allc Nj3 alln) (allc Tryz.call98 alln) (by kernel_rfl)) Tryz.func62 (by kernel_rfl) LL N2p ?_
 intro avs H r H' h
 unfold Ndp at h
 split at h
 ·refine Awp.cast ?_ ?_ ?_ (Nqv _ _ h)<;>kernel_rfl
 ·simp[Ans.no,Ans.run] at h
def N22:Ann:=(.seq (.leaf [0]) (.seq (.seq (.leaf [0,18]) (.cond (.seq (.leaf [2]) (.leaf [2])) (.leaf [0]))) (.seq (.seq (.leaf [0,20,21]) (.block (.loop (.seq (.leaf [0,20,21,22]) (.seq (.cond (.leaf [0,20,21]) (.leaf [])) (.seq (.block (.seq (.leaf [0,3,20,21]) (.seq (.leaf [0,5,20,21]) (.seq (.leaf [0,20,21,32]) (.cond (.seq (.leaf [2]) (.leaf [2])) (.leaf [0,20,21])))))) (.leaf [0,20,21]))))))) (.seq (.leaf [2]) (.leaf [2])))))
noncomputable def N4g:Ctx:=⟨tlook tys,olook [(61,Ncv),(62,Ndp)],ioF,0,false,[]⟩
theorem Npn (a:List Int):Link N4g LL (Code.seq (cq [0] (bodyOf Tryz.f39)) (cq [0,1] (bodyOf Tryz.f39))) (Ann.seq (aq [0] N22) (aq [0,1] N22)) ⟨mkE 34 0 [(0,dL a)],[]⟩ (Nak a) (Sum.elim (fun(t:Unit)=>(Exit.normal,⟨mkE 34 0 [(0,dL a)],[]⟩)) (fun(t:Bool)=>(Exit.ret,⟨mkE 34 0 [(2,dB t)],[]⟩))):= .of fun K h=>by
 simp only[Nak,wpW] at h
 exact .of (by kernel_rfl) h
theorem Nsx (a:List Int):Link N4g LL (cq [0,0,1,1] (bodyOf Tryz.f39)) (aq [0,0,1,1] N22) ⟨mkE 34 0 [(0,dL a)],[]⟩ (Nbc a) (fun(t:Int)=>(Exit.normal,⟨mkE 34 0 [(0,dL a),(20,dI t),(21,dI 0)],[]⟩)):= .of fun K h=>by
 simp only[Nbc,wpW] at h
 exact .of (by kernel_rfl) h
theorem Nyt (a:List Int) (b c:Int):Link N4g LL (cq [0,0,1,0,1,1] (bodyOf Tryz.f39)) (aq [0,0,1,0,1,1] N22) ⟨mkE 34 0 [(0,dL a),(20,dI b),(21,dI c)],[]⟩ (N5x a b c) (Sum.elim (fun(t:Int)=>(Exit.normal,⟨mkE 34 0 [(0,dL a),(20,dI b),(21,dI t)],[]⟩)) (Sum.elim (fun(t:Bool)=>(Exit.ret,⟨mkE 34 0 [(2,dB t)],[]⟩)) (fun(t:Unit)=>((Exit.exit 0),⟨mkE 34 0 [],[]⟩)))):= .of fun K h=>by
 simp only[N5x,wpW] at h
 exact .of (by kernel_rfl) h
theorem Nqj:Link N4g LL (cq [1,1,1] (bodyOf Tryz.f39)) (aq [1,1,1] N22) ⟨mkE 34 0 [],[]⟩ (Ng7) (fun(t:Bool)=>(Exit.ret,⟨mkE 34 0 [(2,dB t)],[]⟩)):= .of fun K h=>by
 simp only[Ng7,wpW] at h
 exact .of (by kernel_rfl) h
theorem Nuu (b:List Int) {r:AV} {H':Heap} (h:(Ans.mk _ (Nb b) (fun(t:Bool)=>(dB t,[])) [] none).run=some (r,H')):Awp N4g LL (bodyOf Tryz.f39) N22 ⟨mkE 34 0 [(0,dL b)],[]⟩ (Ret (tlook tys) Tryz.f39.results.toList r H'):=
 ret_of' (Link.cast (by kernel_rfl) (by kernel_rfl) (link_group (c:=(cq [0,1] (bodyOf Tryz.f39))) (a:=(aq [0,1] N22)) [(cq [0] (bodyOf Tryz.f39))] [(aq [0] N22)] rfl (link_seq2 (Npn b) (fun(t:Unit)=>(link_seq2 (link_seq (Nsx b) (fun(t:Int)=>(link_block (fin2:=(Sum.elim (fun(t10:Unit)=>(Exit.normal,⟨mkE 34 0 [],[]⟩)) (fun(t10:Bool)=>(Exit.ret,⟨mkE 34 0 [(2,dB t10)],[]⟩)))) (id:=0) (link_loop (mk:=fun(s:Int)=>⟨mkE 34 0 [(0,dL b),(20,dI t),(21,dI s)],[]⟩) (fin:=(Sum.elim (fun(t10:Bool)=>(Exit.ret,⟨mkE 34 0 [(2,dB t10)],[]⟩)) (fun(t10:Unit)=>((Exit.exit 0),⟨mkE 34 0 [],[]⟩)))) (by
 rintro(t10|t10) f K h
 ·exact h
 ·exact h) (fun s=>link_map (Nyt b t s) (Sum.elim (fun(t10:Int)=>Sum.inl t10) (Sum.elim (fun(t10:Bool)=>Sum.inr (Sum.inl t10)) (fun(t10:Unit)=>Sum.inr (Sum.inr t10)))) (by
 rintro(t10|t10|t10)
 ·kernel_rfl
 ·kernel_rfl
 ·kernel_rfl)) 0) (Sum.elim (fun(t10:Bool)=>(Sum.inr t10)) (fun(t10:Unit)=>(Sum.inl ()))) (by
 rintro(t10|t10) K h
 ·exact Eq.mp (by kernel_rfl) h
 ·exact Eq.mp (by kernel_rfl) h)))) (fun(t:Unit)=>(Nqj)) (fun(t:Bool)=>t) (by
 rintro t
 ·kernel_rfl) (by
 rintro t f K h
 ·exact h))) (fun(t:Bool)=>t) (by
 rintro t
 ·kernel_rfl) (by
 rintro t f K h
 ·exact h)))) (by unfold Nb;kernel_rfl) (by
 intro t
 exact ret_mk [dB t] (by kernel_rfl) (by kernel_rfl) (by kernel_rfl) (by kernel_rfl)) h
def N17:Fun:=fun avs H=>
 match avs,H with
 |[.dat (.list (.int .i64)) a],[]=>⟨_,Nb a,fun(t:Bool)=>(dB t,[]),[],none⟩
 |_,_=>Ans.no
theorem N2f:Sound Tryz.prog 39 N17:=by
 refine fn_sound' (C:=N4g) (c:=bodyOf Tryz.f39) (cok_of tys_ok (allc Nst (allc N176 alln)) (allc Tryz.call61 (allc Tryz.call62 alln)) (by kernel_rfl)) Tryz.func39 (by kernel_rfl) LL N22 ?_
 intro avs H r H' h
 unfold N17 at h
 split at h
 ·refine Awp.cast ?_ ?_ ?_ (Nuu _ h)<;>kernel_rfl
 ·simp[Ans.no,Ans.run] at h
def N21:Ann:=(.seq (.leaf [1]) (.seq (.seq (.leaf [1,14]) (.cond (.seq (.leaf [2]) (.leaf [2])) (.leaf [1]))) (.seq (.seq (.leaf [16,17,18]) (.block (.loop (.seq (.leaf [16,17,18,19]) (.seq (.cond (.leaf [16,17,18]) (.leaf [])) (.seq (.block (.seq (.leaf [4,16,17,18]) (.seq (.leaf [16,17,18,24]) (.cond (.seq (.leaf [2]) (.leaf [2])) (.leaf [16,17,18]))))) (.leaf [16,17,18]))))))) (.seq (.leaf [2]) (.leaf [2])))))
noncomputable def N51:Ctx:=⟨tlook tys,olook [(39,N17)],ioF,0,false,[]⟩
theorem Nuz (a:List Int) (b:List (List Int)):Link N51 LL (Code.seq (cq [0] (bodyOf Tryz.f28)) (cq [0,1] (bodyOf Tryz.f28))) (Ann.seq (aq [0] N21) (aq [0,1] N21)) ⟨mkE 26 0 [(0,.agg [dL a,.dat (.list (.list (.int .i64))) b])],[]⟩ (N84 a b) (Sum.elim (fun(t:Unit)=>(Exit.normal,⟨mkE 26 0 [(1,.ptr 0 0)],[some (.box [dL a,.dat (.list (.list (.int .i64))) b])]⟩)) (fun(t:Bool)=>(Exit.ret,⟨mkE 26 0 [(2,dB t)],[]⟩))):= .of fun K h=>by
 simp only[N84,wpW] at h
 exact .of (by kernel_rfl) h
theorem Nz9 (a:List Int) (b:List (List Int)):Link N51 LL (cq [0,0,1,1] (bodyOf Tryz.f28)) (aq [0,0,1,1] N21) ⟨mkE 26 0 [(1,.ptr 0 0)],[some (.box [dL a,.dat (.list (.list (.int .i64))) b])]⟩ (Ncd b) (fun(t:Int)=>(Exit.normal,⟨mkE 26 0 [(16,.dat (.list (.list (.int .i64))) b),(17,dI t),(18,dI 0)],[]⟩)):= .of fun K h=>by
 simp only[Ncd,wpW] at h
 exact .of (by kernel_rfl) h
theorem Nyc (a:List (List Int)) (b c:Int):Link N51 LL (cq [0,0,1,0,1,1] (bodyOf Tryz.f28)) (aq [0,0,1,0,1,1] N21) ⟨mkE 26 0 [(16,.dat (.list (.list (.int .i64))) a),(17,dI b),(18,dI c)],[]⟩ (N3y a b c) (Sum.elim (fun(t:Int)=>(Exit.normal,⟨mkE 26 0 [(16,.dat (.list (.list (.int .i64))) a),(17,dI b),(18,dI t)],[]⟩)) (Sum.elim (fun(t:Bool)=>(Exit.ret,⟨mkE 26 0 [(2,dB t)],[]⟩)) (fun(t:Unit)=>((Exit.exit 0),⟨mkE 26 0 [],[]⟩)))):= .of fun K h=>by
 simp only[N3y,wpW] at h
 exact .of (by kernel_rfl) h
theorem N16u:Link N51 LL (cq [1,1,1] (bodyOf Tryz.f28)) (aq [1,1,1] N21) ⟨mkE 26 0 [],[]⟩ (Nf0) (fun(t:Bool)=>(Exit.ret,⟨mkE 26 0 [(2,dB t)],[]⟩)):= .of fun K h=>by
 simp only[Nf0,wpW] at h
 exact .of (by kernel_rfl) h
theorem Nzw (b:List Int) (d:List (List Int)) {r:AV} {H':Heap} (h:(Ans.mk _ (N28 b d) (fun(t:Bool)=>(dB t,[])) [] none).run=some (r,H')):Awp N51 LL (bodyOf Tryz.f28) N21 ⟨mkE 26 0 [(0,.agg [dL b,.dat (.list (.list (.int .i64))) d])],[]⟩ (Ret (tlook tys) Tryz.f28.results.toList r H'):=
 ret_of' (Link.cast (by kernel_rfl) (by kernel_rfl) (link_group (c:=(cq [0,1] (bodyOf Tryz.f28))) (a:=(aq [0,1] N21)) [(cq [0] (bodyOf Tryz.f28))] [(aq [0] N21)] rfl (link_seq2 (Nuz b d) (fun(t:Unit)=>(link_seq2 (link_seq (Nz9 b d) (fun(t:Int)=>(link_block (fin2:=(Sum.elim (fun(t11:Unit)=>(Exit.normal,⟨mkE 26 0 [],[]⟩)) (fun(t11:Bool)=>(Exit.ret,⟨mkE 26 0 [(2,dB t11)],[]⟩)))) (id:=0) (link_loop (mk:=fun(s:Int)=>⟨mkE 26 0 [(16,.dat (.list (.list (.int .i64))) d),(17,dI t),(18,dI s)],[]⟩) (fin:=(Sum.elim (fun(t11:Bool)=>(Exit.ret,⟨mkE 26 0 [(2,dB t11)],[]⟩)) (fun(t11:Unit)=>((Exit.exit 0),⟨mkE 26 0 [],[]⟩)))) (by
 rintro(t11|t11) f K h
 ·exact h
 ·exact h) (fun s=>link_map (Nyc d t s) (Sum.elim (fun(t11:Int)=>Sum.inl t11) (Sum.elim (fun(t11:Bool)=>Sum.inr (Sum.inl t11)) (fun(t11:Unit)=>Sum.inr (Sum.inr t11)))) (by
 rintro(t11|t11|t11)
 ·kernel_rfl
 ·kernel_rfl
 ·kernel_rfl)) 0) (Sum.elim (fun(t11:Bool)=>(Sum.inr t11)) (fun(t11:Unit)=>(Sum.inl ()))) (by
 rintro(t11|t11) K h
 ·exact Eq.mp (by kernel_rfl) h
 ·exact Eq.mp (by kernel_rfl) h)))) (fun(t:Unit)=>(N16u)) (fun(t:Bool)=>t) (by
 rintro t
 ·kernel_rfl) (by
 rintro t f K h
 ·exact h))) (fun(t:Bool)=>t) (by
 rintro t
 ·kernel_rfl) (by
 rintro t f K h
 ·exact h)))) (by unfold N28;kernel_rfl) (by
 intro t
 exact ret_mk [dB t] (by kernel_rfl) (by kernel_rfl) (by kernel_rfl) (by kernel_rfl)) h
def N72:Fun:=fun avs H=>
 match avs,H with
 |[.agg [.dat (.list (.int .i64)) a,.dat (.list (.list (.int .i64))) b]],[]=>⟨_,N28 a b,fun(t:Bool)=>(dB t,[]),[],none⟩
 |_,_=>Ans.no
theorem Nej:Sound Tryz.prog 28 N72:=by
 refine fn_sound' (C:=N51) (c:=bodyOf Tryz.f28) (cok_of tys_ok (allc N2f alln) (allc Tryz.call39 alln) (by kernel_rfl)) Tryz.func28 (by kernel_rfl) LL N21 ?_
 intro avs H r H' h
 unfold N72 at h
 split at h
 ·refine Awp.cast ?_ ?_ ?_ (Nzw _ _ h)<;>kernel_rfl
 ·simp[Ans.no,Ans.run] at h
def ren_slices_Clone_int_int:Go.Shelf.Ren:=⟨fun|41=>52|n=>n,fun|4=>4|22=>28|23=>3|n=>n,fun n=>n⟩
theorem lay_slices_Clone_int_int:SlLaysE0.n41 Tryz.prog ren_slices_Clone_int_int:={
 mixed:=by kernel_rfl
 f41:=⟨Tryz.f52.name,by kernel_rfl,Tryz.func52.trans (congrArg some (by kernel_rfl))⟩
 t4:=Tryz.underlying4
 a4:=Tryz.isAgg4
 z4:=Tryz.sizeOf4
 v4:=Tryz.zeroValue4
 t22:=Tryz.underlying28
 a22:=Tryz.isAgg28
 z22:=Tryz.sizeOf28
 v22:=Tryz.zeroValue28}
def Nhm:Fun:=F_cloneD
theorem Nky:Sound Tryz.prog 52 Nhm:=cloneD_sound lay_slices_Clone_int_int (infoOf (Tryz.prog.info? 3)) (.int .i64 0) 8 (by kernel_rfl) (by kernel_rfl) (by kernel_rfl) (by kernel_rfl) (by kernel_rfl) (by decide) Tryz.sizeOf3
def N1f:Ann:=(.seq (.leaf [0,1,4]) (.seq (.leaf [1,4,5]) (.seq (.seq (.leafF [⟨3,5,true,some 1,some (.int .i64)⟩] [4,5,11,12,13]) (.block (.loop (.seq (.leaf [4,5,11,12,13,14]) (.seq (.cond (.leaf [4,5,11,12,13]) (.leaf [4,5])) (.seq (.block (.seq (.leaf [4,5,7,11,12,13]) (.draw [3,100005] [0,1,2,3,4,5,6,7] [] [4,5,11,12,13]))) (.leaf [4,5,11,12,13]))))))) (.seq (.leaf [4]) (.leaf [4])))))
noncomputable def N60:Ctx:=⟨tlook tys,olook [(52,Nhm)],ioF,0,true,[]⟩
theorem N11v (a:List Int) (b:List (List Int)):Link N60 LL (Code.seq (cq [0] (bodyOf Tryz.f29)) (cq [0,1] (bodyOf Tryz.f29))) (Ann.seq (aq [0] N1f) (aq [0,1] N1f)) ⟨mkE 26 0 [(0,dL a),(1,.dat (.list (.list (.int .i64))) b)],[]⟩ (N9w a) (fun(t:(List Int))=>(Exit.normal,⟨mkE 26 0 [(1,.dat (.list (.list (.int .i64))) b),(4,.ptr 0 0),(5,.ptr 1 0)],[some (.box [.nils,.nils]),some (.box [.slc 2,.nils]),some (sI t)]⟩)):= .of fun K h=>by
 simp only[N9w,wpW] at h
 exact .of (by kernel_rfl) h
theorem N180 (a:List (List Int)) (b:List Int):Link N60 LL (cq [0,0,1,1] (bodyOf Tryz.f29)) (aq [0,0,1,1] N1f) ⟨mkE 26 0 [(1,.dat (.list (.list (.int .i64))) a),(4,.ptr 0 0),(5,.ptr 1 0)],[some (.box [.nils,.nils]),some (.box [.slc 2,.nils]),some (sI b)]⟩ (Nc1 a) (fun(t:Int)=>(Exit.normal,⟨mkE 26 0 [(4,.ptr 0 0),(5,.ptr 1 0),(11,.dat (.list (.list (.int .i64))) a),(12,dI t),(13,dI 0)],[some (.box [.nils,.nils]),some (.box [.slc 2,.slc 3]),some (sI b),some (.nest (.int .i64) ([]:List (List Int)) 0 [])]⟩)):= .of fun K h=>by
 simp only[Nc1,wpW] at h
 exact .of (by kernel_rfl) h
theorem Npz (a:List (List Int)) (b c:Int) (d:List Int) (g:List (List Int)):Link N60 LL (cq [0,0,1,0,1,1] (bodyOf Tryz.f29)) (aq [0,0,1,0,1,1] N1f) ⟨mkE 26 0 [(4,.ptr 0 0),(5,.ptr 1 0),(11,.dat (.list (.list (.int .i64))) a),(12,dI b),(13,dI c)],[some (.box [.nils,.nils]),some (.box [.slc 2,.slc 3]),some (sI d),some (.nest (.int .i64) g 0 [])]⟩ (N5u a b c g) (Sum.elim (fun(t:Int×(List (List Int)))=>(Exit.normal,⟨mkE 26 0 [(4,.ptr 0 0),(5,.ptr 1 0),(11,.dat (.list (.list (.int .i64))) a),(12,dI b),(13,dI t.1)],[some (.box [.nils,.nils]),some (.box [.slc 2,.slc 3]),some (sI d),some (.nest (.int .i64) t.2 0 [])]⟩)) (fun(t:(List (List Int)))=>((Exit.exit 0),⟨mkE 26 0 [(4,.ptr 0 0),(5,.ptr 1 0)],[some (.box [.nils,.nils]),some (.box [.slc 2,.slc 3]),some (sI d),some (.nest (.int .i64) t 0 [])]⟩))):= .of fun K h=>by
 simp only[N5u,wpW] at h
 exact .of (by kernel_rfl) h
theorem Nps (a:List Int) (b:List (List Int)):Link N60 LL (cq [1,1,1] (bodyOf Tryz.f29)) (aq [1,1,1] N1f) ⟨mkE 26 0 [(4,.ptr 0 0),(5,.ptr 1 0)],[some (.box [.nils,.nils]),some (.box [.slc 2,.slc 3]),some (sI a),some (.nest (.int .i64) b 0 [])]⟩ (N93 a b) (fun(t:(List Int)×(List (List Int)))=>(Exit.ret,⟨mkE 26 0 [(4,.ptr 0 0)],[some (.box [.slc 1,.slc 2]),some (sI t.1),some (.nest (.int .i64) t.2 0 [])]⟩)):= .of fun K h=>by
 simp only[N93,wpW] at h
 exact .of (by kernel_rfl) h
theorem N13r (b:List Int) (d:List (List Int)) {r:AV} {H':Heap} (h:(Ans.mk _ (Nf b d) (fun(t:(List Int)×(List (List Int)))=>(.agg [.slc 1,.slc 2],[some (.box [.slc 1,.slc 2]),some (sI t.1),some (.nest (.int .i64) t.2 0 [])])) [] none).run=some (r,H')):Awp N60 LL (bodyOf Tryz.f29) N1f ⟨mkE 26 0 [(0,dL b),(1,.dat (.list (.list (.int .i64))) d)],[]⟩ (Ret (tlook tys) Tryz.f29.results.toList r H'):=
 ret_of' (Link.cast (by kernel_rfl) (by kernel_rfl) (link_group (c:=(cq [0,1] (bodyOf Tryz.f29))) (a:=(aq [0,1] N1f)) [(cq [0] (bodyOf Tryz.f29))] [(aq [0] N1f)] rfl (link_seq (N11v b d) (fun(t:(List Int))=>(link_seq (link_seq (N180 d t) (fun(t32:Int)=>(link_block (fin2:=(fun(t12:(List (List Int)))=>(Exit.normal,⟨mkE 26 0 [(4,.ptr 0 0),(5,.ptr 1 0)],[some (.box [.nils,.nils]),some (.box [.slc 2,.slc 3]),some (sI t),some (.nest (.int .i64) t12 0 [])]⟩))) (id:=0) (link_loop (mk:=fun(s:Int×(List (List Int)))=>⟨mkE 26 0 [(4,.ptr 0 0),(5,.ptr 1 0),(11,.dat (.list (.list (.int .i64))) d),(12,dI t32),(13,dI s.1)],[some (.box [.nils,.nils]),some (.box [.slc 2,.slc 3]),some (sI t),some (.nest (.int .i64) s.2 0 [])]⟩) (fin:=(fun(t12:(List (List Int)))=>((Exit.exit 0),⟨mkE 26 0 [(4,.ptr 0 0),(5,.ptr 1 0)],[some (.box [.nils,.nils]),some (.box [.slc 2,.slc 3]),some (sI t),some (.nest (.int .i64) t12 0 [])]⟩))) (by
 rintro t12 f K h
 ·exact h) (fun s=>link_map (Npz d t32 s.1 t s.2) (Sum.elim (fun(t12:Int×(List (List Int)))=>Sum.inl (t12.1,t12.2)) (fun(t12:(List (List Int)))=>Sum.inr t12)) (by
 rintro(t12|t12)
 ·kernel_rfl
 ·kernel_rfl)) (0,([]:List (List Int)))) (fun(t12:(List (List Int)))=>t12) (by
 rintro t12 K h
 ·exact Eq.mp (by kernel_rfl) h)))) (fun(t32:(List (List Int)))=>(Nps t t32))))))) (by unfold Nf;kernel_rfl) (by
 intro t
 exact ret_mk [.agg [.slc 1,.slc 2]] (by kernel_rfl) (by kernel_rfl) (by kernel_rfl) (by kernel_rfl)) h
def N3q:Fun:=fun avs H=>
 match avs,H with
 |[.dat (.list (.int .i64)) a,.dat (.list (.list (.int .i64))) b],[]=>⟨_,Nf a b,fun(t:(List Int)×(List (List Int)))=>(.agg [.slc 1,.slc 2],[some (.box [.slc 1,.slc 2]),some (sI t.1),some (.nest (.int .i64) t.2 0 [])]),[],none⟩
 |_,_=>Ans.no
theorem N6z:Sound Tryz.prog 29 N3q:=by
 refine fn_sound' (C:=N60) (c:=bodyOf Tryz.f29) (cok_of tys_ok (allc Nky alln) (allc Tryz.call52 alln) (by kernel_rfl)) Tryz.func29 (by kernel_rfl) LL N1f ?_
 intro avs H r H' h
 unfold N3q at h
 split at h
 ·refine Awp.cast ?_ ?_ ?_ (N13r _ _ h)<;>kernel_rfl
 ·simp[Ans.no,Ans.run] at h
def Ne5:Ann:=(.seq (.leaf [1,2]) (.seq (.leaf [1,2,4]) (.seq (.seq (.leaf [1,2,4,10]) (.cond (.seq (.leaf [2,3]) (.leaf [2,3])) (.leaf [1,2,4]))) (.seq (.draw [9] [0,1,2,3,4,5,6,7,8,9,10,11] [] [2,3]) (.leaf [2,3])))))
noncomputable def Ng6:Ctx:=⟨tlook tys,olook [(29,N3q)],ioF,0,true,[]⟩
theorem Nw1 (a:List Int) (b:List (List Int)):Link Ng6 LL (bodyOf Tryz.f57) Ne5 ⟨mkE 24 0 [(0,.agg [dL a,.dat (.list (.list (.int .i64))) b])],[]⟩ (N7l a b) (fun(t:Bool×(List Int)×(List (List Int)))=>(Exit.ret,⟨mkE 24 0 [(2,.ptr 0 0),(3,dB t.1)],[some (.box [.slc 1,.slc 2]),some (sI t.2.1),some (.nest (.int .i64) t.2.2 0 [])]⟩)):= .of fun K h=>by
 simp only[N7l,wpW] at h
 exact .of (by kernel_rfl) h
theorem Nyf (a:List Int) (b:List (List Int)) {r:AV} {H':Heap} (h:(Ans.mk _ (N3a a b) (fun(t:Bool×(List Int)×(List (List Int)))=>(.tup [.agg [.slc 1,.slc 2],dB t.1],[some (.box [.slc 1,.slc 2]),some (sI t.2.1),some (.nest (.int .i64) t.2.2 0 [])])) [] none).run=some (r,H')):Awp Ng6 LL (bodyOf Tryz.f57) Ne5 ⟨mkE 24 0 [(0,.agg [dL a,.dat (.list (.list (.int .i64))) b])],[]⟩ (Ret (tlook tys) Tryz.f57.results.toList r H'):=
 ret_of' (Nw1 a b) (by unfold N3a;kernel_rfl) (by
 intro t
 exact ret_mk [.agg [.slc 1,.slc 2],dB t.1] (by kernel_rfl) (by kernel_rfl) (by kernel_rfl) (by kernel_rfl)) h
def Nho:Fun:=fun avs H=>
 match avs,H with
 |[.agg [.dat (.list (.int .i64)) a,.dat (.list (.list (.int .i64))) b]],[]=>⟨_,N3a a b,fun(t:Bool×(List Int)×(List (List Int)))=>(.tup [.agg [.slc 1,.slc 2],dB t.1],[some (.box [.slc 1,.slc 2]),some (sI t.2.1),some (.nest (.int .i64) t.2.2 0 [])]),[],none⟩
 |_,_=>Ans.no
theorem N11c:Sound Tryz.prog 57 Nho:=by
 refine fn_sound' (C:=Ng6) (c:=bodyOf Tryz.f57) (cok_of tys_ok (allc N6z alln) (allc Tryz.call29 alln) (by kernel_rfl)) Tryz.func57 (by kernel_rfl) LL Ne5 ?_
 intro avs H r H' h
 unfold Nho at h
 split at h
 ·refine Awp.cast ?_ ?_ ?_ (Nyf _ _ h)<;>kernel_rfl
 ·simp[Ans.no,Ans.run] at h
def Nix:Ann:=(.seq (.leaf [0,1]) (.seq (.leaf [4]) (.leaf [4])))
noncomputable def Nfz:Ctx:=⟨tlook tys,olook [(39,N17)],ioF,0,false,[]⟩
theorem Nze (a:List Int) (b:Int):Link Nfz LL (bodyOf Tryz.f132) Nix ⟨mkE 17 0 [(0,dL a),(1,dI b)],[]⟩ (N6w a b) (fun(t:Bool)=>(Exit.ret,⟨mkE 17 0 [(4,dB t)],[]⟩)):= .of fun K h=>by
 simp only[N6w,wpW] at h
 exact .of (by kernel_rfl) h
theorem Nsr (a:List Int) (b:Int) {r:AV} {H':Heap} (h:(Ans.mk _ (N44 a b) (fun(t:Bool)=>(dB t,[])) [] none).run=some (r,H')):Awp Nfz LL (bodyOf Tryz.f132) Nix ⟨mkE 17 0 [(0,dL a),(1,dI b)],[]⟩ (Ret (tlook tys) Tryz.f132.results.toList r H'):=
 ret_of' (Nze a b) (by unfold N44;kernel_rfl) (by
 intro t
 exact ret_mk [dB t] (by kernel_rfl) (by kernel_rfl) (by kernel_rfl) (by kernel_rfl)) h
def Ngg:Fun:=fun avs H=>
 match avs,H with
 |[.dat (.list (.int .i64)) a,.dat (.int .i64) b],[]=>⟨_,N44 a b,fun(t:Bool)=>(dB t,[]),[],none⟩
 |_,_=>Ans.no
theorem N16e:Sound Tryz.prog 132 Ngg:=by
 refine fn_sound' (C:=Nfz) (c:=bodyOf Tryz.f132) (cok_of tys_ok (allc N2f alln) (allc Tryz.call39 alln) (by kernel_rfl)) Tryz.func132 (by kernel_rfl) LL Nix ?_
 intro avs H r H' h
 unfold Ngg at h
 split at h
 ·refine Awp.cast ?_ ?_ ?_ (Nsr _ _ h)<;>kernel_rfl
 ·simp[Ans.no,Ans.run] at h
def N1x:Ann:=(.seq (.leaf [0]) (.seq (.leaf [0,3]) (.seq (.seq (.leaf [0,3,8,9]) (.block (.loop (.seq (.leaf [0,3,8,9,10]) (.seq (.cond (.leaf [0,3,8,9]) (.leaf [3])) (.seq (.block (.seq (.leaf [0,3,4,8,9]) (.leaf [0,3,8,9]))) (.leaf [0,3,8,9]))))))) (.seq (.leaf [2]) (.leaf [2])))))
noncomputable def N4h:Ctx:=⟨tlook tys,olook [],ioF,0,false,[]⟩
theorem N142 (a:Int):Link N4h LL (Code.seq (cq [0] (bodyOf Tryz.f177)) (cq [0,1] (bodyOf Tryz.f177))) (Ann.seq (aq [0] N1x) (aq [0,1] N1x)) ⟨mkE 20 0 [(0,dI a)],[]⟩ (N96 a) (fun(t:(List Int))=>(Exit.normal,⟨mkE 20 0 [(0,dI a),(3,.slc 0)],[some (sI t)]⟩)):= .of fun K h=>by
 simp only[N96,wpW] at h
 exact .of (by kernel_rfl) h
theorem Nwa (a:Int) (b:List Int):Link N4h LL (cq [0,0,1,1] (bodyOf Tryz.f177)) (aq [0,0,1,1] N1x) ⟨mkE 20 0 [(0,dI a),(3,.slc 0)],[some (sI b)]⟩ (N95 b) (fun(t:Int)=>(Exit.normal,⟨mkE 20 0 [(0,dI a),(3,.slc 0),(8,dI t),(9,dI 0)],[some (sI b)]⟩)):= .of fun K h=>by
 simp only[N95,wpW] at h
 exact .of (by kernel_rfl) h
theorem N13t (a b c:Int) (d:List Int):Link N4h LL (cq [0,0,1,0,1,1] (bodyOf Tryz.f177)) (aq [0,0,1,0,1,1] N1x) ⟨mkE 20 0 [(0,dI a),(3,.slc 0),(8,dI b),(9,dI c)],[some (sI d)]⟩ (N5c a b c d) (Sum.elim (fun(t:Int×(List Int))=>(Exit.normal,⟨mkE 20 0 [(0,dI a),(3,.slc 0),(8,dI b),(9,dI t.1)],[some (sI t.2)]⟩)) (fun(t:(List Int))=>((Exit.exit 0),⟨mkE 20 0 [(3,.slc 0)],[some (sI t)]⟩))):= .of fun K h=>by
 simp only[N5c,wpW] at h
 exact .of (by kernel_rfl) h
theorem Nsh (a:List Int):Link N4h LL (cq [1,1,1] (bodyOf Tryz.f177)) (aq [1,1,1] N1x) ⟨mkE 20 0 [(3,.slc 0)],[some (sI a)]⟩ (Naq a) (fun(t:(List Int))=>(Exit.ret,⟨mkE 20 0 [(2,.slc 0)],[some (sI t)]⟩)):= .of fun K h=>by
 simp only[Naq,wpW] at h
 exact .of (by kernel_rfl) h
theorem N12d (b:Int) {r:AV} {H':Heap} (h:(Ans.mk _ (N3h b) (fun(t:(List Int))=>(.slc 0,[some (sI t)])) [] none).run=some (r,H')):Awp N4h LL (bodyOf Tryz.f177) N1x ⟨mkE 20 0 [(0,dI b)],[]⟩ (Ret (tlook tys) Tryz.f177.results.toList r H'):=
 ret_of' (Link.cast (by kernel_rfl) (by kernel_rfl) (link_group (c:=(cq [0,1] (bodyOf Tryz.f177))) (a:=(aq [0,1] N1x)) [(cq [0] (bodyOf Tryz.f177))] [(aq [0] N1x)] rfl (link_seq (N142 b) (fun(t:(List Int))=>(link_seq (link_seq (Nwa b t) (fun(t33:Int)=>(link_block (fin2:=(fun(t13:(List Int))=>(Exit.normal,⟨mkE 20 0 [(3,.slc 0)],[some (sI t13)]⟩))) (id:=0) (link_loop (mk:=fun(s:Int×(List Int))=>⟨mkE 20 0 [(0,dI b),(3,.slc 0),(8,dI t33),(9,dI s.1)],[some (sI s.2)]⟩) (fin:=(fun(t13:(List Int))=>((Exit.exit 0),⟨mkE 20 0 [(3,.slc 0)],[some (sI t13)]⟩))) (by
 rintro t13 f K h
 ·exact h) (fun s=>link_map (N13t b t33 s.1 s.2) (Sum.elim (fun(t13:Int×(List Int))=>Sum.inl (t13.1,t13.2)) (fun(t13:(List Int))=>Sum.inr t13)) (by
 rintro(t13|t13)
 ·kernel_rfl
 ·kernel_rfl)) (0,t)) (fun(t13:(List Int))=>t13) (by
 rintro t13 K h
 ·exact Eq.mp (by kernel_rfl) h)))) (fun(t33:(List Int))=>(Nsh t33))))))) (by unfold N3h;kernel_rfl) (by
 intro t
 exact ret_mk [.slc 0] (by kernel_rfl) (by kernel_rfl) (by kernel_rfl) (by kernel_rfl)) h
def Nhn:Fun:=fun avs H=>
 match avs,H with
 |[.dat (.int .i64) a],[]=>⟨_,N3h a,fun(t:(List Int))=>(.slc 0,[some (sI t)]),[],none⟩
 |_,_=>Ans.no
theorem N10p:Sound Tryz.prog 177 Nhn:=by
 refine fn_sound' (C:=N4h) (c:=bodyOf Tryz.f177) (cok_of tys_ok (alln) (alln) (by kernel_rfl)) Tryz.func177 (by kernel_rfl) LL N1x ?_
 intro avs H r H' h
 unfold Nhn at h
 split at h
 ·refine Awp.cast ?_ ?_ ?_ (N12d _ h)<;>kernel_rfl
 ·simp[Ans.no,Ans.run] at h
def N13:Ann:=(.seq (.leaf [0,1]) (.seq (.seq (.leaf [0,1,19]) (.cond (.seq (.leaf [4]) (.leaf [4])) (.leaf [0,1]))) (.seq (.leaf [0,1,5]) (.seq (.seq (.leaf [1,5,20,21,22]) (.block (.loop (.seq (.leaf [1,5,20,21,22,23]) (.seq (.cond (.leaf [1,5,20,21,22]) (.leaf [])) (.seq (.block (.seq (.leaf [1,5,7,20,21,22]) (.seq (.seq (.leaf [1,5,7,20,21,22,37]) (.cond (.seq (.leaf [4]) (.leaf [4])) (.leaf [1,5,7,20,21,22]))) (.leaf [1,5,20,21,22])))) (.leaf [1,5,20,21,22]))))))) (.seq (.leaf [4]) (.leaf [4]))))))
noncomputable def N5i:Ctx:=⟨tlook tys,olook [],ioF,0,false,[]⟩
theorem N11d (a:List Int) (b:Int):Link N5i LL (Code.seq (cq [0] (bodyOf Tryz.f193)) (Code.seq (cq [0,1] (bodyOf Tryz.f193)) (cq [0,1,1] (bodyOf Tryz.f193)))) (Ann.seq (aq [0] N13) (Ann.seq (aq [0,1] N13) (aq [0,1,1] N13))) ⟨mkE 41 0 [(0,dL a),(1,dI b)],[]⟩ (N8x a b) (Sum.elim (fun(t:Unit)=>(Exit.normal,⟨mkE 41 0 [(0,dL a),(1,dI b),(5,.ptr 0 0)],[some (.seq .bool (List.replicate 9 false))]⟩)) (fun(t:Bool)=>(Exit.ret,⟨mkE 41 0 [(4,dB t)],[]⟩))):= .of fun K h=>by
 simp only[N8x,wpW] at h
 exact .of (by kernel_rfl) h
theorem N121 (a:List Int) (b:Int):Link N5i LL (cq [0,0,1,1,1] (bodyOf Tryz.f193)) (aq [0,0,1,1,1] N13) ⟨mkE 41 0 [(0,dL a),(1,dI b),(5,.ptr 0 0)],[some (.seq .bool (List.replicate 9 false))]⟩ (N9a a) (fun(t:Int)=>(Exit.normal,⟨mkE 41 0 [(1,dI b),(5,.ptr 0 0),(20,dL a),(21,dI t),(22,dI 0)],[some (.seq .bool (List.replicate 9 false))]⟩)):= .of fun K h=>by
 simp only[N9a,wpW] at h
 exact .of (by kernel_rfl) h
theorem N10m (a:Int) (b:List Int) (c d:Int) (g:List Bool):Link N5i LL (cq [0,0,1,0,1,1,1] (bodyOf Tryz.f193)) (aq [0,0,1,0,1,1,1] N13) ⟨mkE 41 0 [(1,dI a),(5,.ptr 0 0),(20,dL b),(21,dI c),(22,dI d)],[some (.seq .bool g)]⟩ (N77 a b c d g) (Sum.elim (fun(t:Int×(List Bool))=>(Exit.normal,⟨mkE 41 0 [(1,dI a),(5,.ptr 0 0),(20,dL b),(21,dI c),(22,dI t.1)],[some (.seq .bool t.2)]⟩)) (Sum.elim (fun(t:Bool)=>(Exit.ret,⟨mkE 41 0 [(4,dB t)],[]⟩)) (fun(t:Unit)=>((Exit.exit 0),⟨mkE 41 0 [],[]⟩)))):= .of fun K h=>by
 simp only[N77,wpW] at h
 exact .of (by kernel_rfl) h
theorem N110:Link N5i LL (cq [1,1,1,1] (bodyOf Tryz.f193)) (aq [1,1,1,1] N13) ⟨mkE 41 0 [],[]⟩ (Nca) (fun(t:Bool)=>(Exit.ret,⟨mkE 41 0 [(4,dB t)],[]⟩)):= .of fun K h=>by
 simp only[Nca,wpW] at h
 exact .of (by kernel_rfl) h
theorem Nsd (b:List Int) (d:Int) {r:AV} {H':Heap} (h:(Ans.mk _ (N54 b d) (fun(t:Bool)=>(dB t,[])) [] none).run=some (r,H')):Awp N5i LL (bodyOf Tryz.f193) N13 ⟨mkE 41 0 [(0,dL b),(1,dI d)],[]⟩ (Ret (tlook tys) Tryz.f193.results.toList r H'):=
 ret_of' (Link.cast (by kernel_rfl) (by kernel_rfl) (link_group (c:=(cq [0,1,1] (bodyOf Tryz.f193))) (a:=(aq [0,1,1] N13)) [(cq [0] (bodyOf Tryz.f193)),(cq [0,1] (bodyOf Tryz.f193))] [(aq [0] N13),(aq [0,1] N13)] rfl (link_seq2 (N11d b d) (fun(t:Unit)=>(link_seq2 (link_seq (N121 b d) (fun(t:Int)=>(link_block (fin2:=(Sum.elim (fun(t14:Unit)=>(Exit.normal,⟨mkE 41 0 [],[]⟩)) (fun(t14:Bool)=>(Exit.ret,⟨mkE 41 0 [(4,dB t14)],[]⟩)))) (id:=0) (link_loop (mk:=fun(s:Int×(List Bool))=>⟨mkE 41 0 [(1,dI d),(5,.ptr 0 0),(20,dL b),(21,dI t),(22,dI s.1)],[some (.seq .bool s.2)]⟩) (fin:=(Sum.elim (fun(t14:Bool)=>(Exit.ret,⟨mkE 41 0 [(4,dB t14)],[]⟩)) (fun(t14:Unit)=>((Exit.exit 0),⟨mkE 41 0 [],[]⟩)))) (by
 rintro(t14|t14) f K h
 ·exact h
 ·exact h) (fun s=>link_map (N10m d b t s.1 s.2) (Sum.elim (fun(t14:Int×(List Bool))=>Sum.inl (t14.1,t14.2)) (Sum.elim (fun(t14:Bool)=>Sum.inr (Sum.inl t14)) (fun(t14:Unit)=>Sum.inr (Sum.inr t14)))) (by
 rintro(t14|t14|t14)
 ·kernel_rfl
 ·kernel_rfl
 ·kernel_rfl)) (0,(List.replicate 9 false))) (Sum.elim (fun(t14:Bool)=>(Sum.inr t14)) (fun(t14:Unit)=>(Sum.inl ()))) (by
 rintro(t14|t14) K h
 ·exact Eq.mp (by kernel_rfl) h
 ·exact Eq.mp (by kernel_rfl) h)))) (fun(t:Unit)=>(N110)) (fun(t:Bool)=>t) (by
 rintro t
 ·kernel_rfl) (by
 rintro t f K h
 ·exact h))) (fun(t:Bool)=>t) (by
 rintro t
 ·kernel_rfl) (by
 rintro t f K h
 ·exact h)))) (by unfold N54;kernel_rfl) (by
 intro t
 exact ret_mk [dB t] (by kernel_rfl) (by kernel_rfl) (by kernel_rfl) (by kernel_rfl)) h
def Ncs:Fun:=fun avs H=>
 match avs,H with
 |[.dat (.list (.int .i64)) a,.dat (.int .i64) b],[]=>⟨_,N54 a b,fun(t:Bool)=>(dB t,[]),[],none⟩
 |_,_=>Ans.no
theorem N116:Sound Tryz.prog 193 Ncs:=by
 refine fn_sound' (C:=N5i) (c:=bodyOf Tryz.f193) (cok_of tys_ok (alln) (alln) (by kernel_rfl)) Tryz.func193 (by kernel_rfl) LL N13 ?_
 intro avs H r H' h
 unfold Ncs at h
 split at h
 ·refine Awp.cast ?_ ?_ ?_ (Nsd _ _ h)<;>kernel_rfl
 ·simp[Ans.no,Ans.run] at h
def N26:Ann:=(.seq (.leaf [0]) (.seq (.leaf [0,3]) (.seq (.seq (.leaf [3,10,11,12]) (.block (.loop (.seq (.leaf [3,10,11,12,13]) (.seq (.cond (.leaf [3,10,11,12]) (.leaf [3])) (.seq (.block (.seq (.leaf [3,4,5,10,11,12]) (.leaf [3,10,11,12]))) (.leaf [3,10,11,12]))))))) (.seq (.leaf [2]) (.leaf [2])))))
noncomputable def N4u:Ctx:=⟨tlook tys,olook [],ioF,0,false,[]⟩
theorem N184 (a:List Int):Link N4u LL (Code.seq (cq [0] (bodyOf Tryz.f223)) (cq [0,1] (bodyOf Tryz.f223))) (Ann.seq (aq [0] N26) (aq [0,1] N26)) ⟨mkE 24 0 [(0,dL a)],[]⟩ (Nby a) (fun(t:(List Int))=>(Exit.normal,⟨mkE 24 0 [(0,dL a),(3,.slc 0)],[some (sI t)]⟩)):= .of fun K h=>by
 simp only[Nby,wpW] at h
 exact .of (by kernel_rfl) h
theorem Nsl (a b:List Int):Link N4u LL (cq [0,0,1,1] (bodyOf Tryz.f223)) (aq [0,0,1,1] N26) ⟨mkE 24 0 [(0,dL a),(3,.slc 0)],[some (sI b)]⟩ (Nb5 a) (fun(t:Int)=>(Exit.normal,⟨mkE 24 0 [(3,.slc 0),(10,dL a),(11,dI t),(12,dI 0)],[some (sI b)]⟩)):= .of fun K h=>by
 simp only[Nb5,wpW] at h
 exact .of (by kernel_rfl) h
theorem N16h (a:List Int) (b c:Int) (d:List Int):Link N4u LL (cq [0,0,1,0,1,1] (bodyOf Tryz.f223)) (aq [0,0,1,0,1,1] N26) ⟨mkE 24 0 [(3,.slc 0),(10,dL a),(11,dI b),(12,dI c)],[some (sI d)]⟩ (N4o a b c d) (Sum.elim (fun(t:Int×(List Int))=>(Exit.normal,⟨mkE 24 0 [(3,.slc 0),(10,dL a),(11,dI b),(12,dI t.1)],[some (sI t.2)]⟩)) (fun(t:(List Int))=>((Exit.exit 0),⟨mkE 24 0 [(3,.slc 0)],[some (sI t)]⟩))):= .of fun K h=>by
 simp only[N4o,wpW] at h
 exact .of (by kernel_rfl) h
theorem N13f (a:List Int):Link N4u LL (cq [1,1,1] (bodyOf Tryz.f223)) (aq [1,1,1] N26) ⟨mkE 24 0 [(3,.slc 0)],[some (sI a)]⟩ (N9n a) (fun(t:(List Int))=>(Exit.ret,⟨mkE 24 0 [(2,.slc 0)],[some (sI t)]⟩)):= .of fun K h=>by
 simp only[N9n,wpW] at h
 exact .of (by kernel_rfl) h
theorem Nq4 (b:List Int) {r:AV} {H':Heap} (h:(Ans.mk _ (N47 b) (fun(t:(List Int))=>(.slc 0,[some (sI t)])) [] none).run=some (r,H')):Awp N4u LL (bodyOf Tryz.f223) N26 ⟨mkE 24 0 [(0,dL b)],[]⟩ (Ret (tlook tys) Tryz.f223.results.toList r H'):=
 ret_of' (Link.cast (by kernel_rfl) (by kernel_rfl) (link_group (c:=(cq [0,1] (bodyOf Tryz.f223))) (a:=(aq [0,1] N26)) [(cq [0] (bodyOf Tryz.f223))] [(aq [0] N26)] rfl (link_seq (N184 b) (fun(t:(List Int))=>(link_seq (link_seq (Nsl b t) (fun(t34:Int)=>(link_block (fin2:=(fun(t15:(List Int))=>(Exit.normal,⟨mkE 24 0 [(3,.slc 0)],[some (sI t15)]⟩))) (id:=0) (link_loop (mk:=fun(s:Int×(List Int))=>⟨mkE 24 0 [(3,.slc 0),(10,dL b),(11,dI t34),(12,dI s.1)],[some (sI s.2)]⟩) (fin:=(fun(t15:(List Int))=>((Exit.exit 0),⟨mkE 24 0 [(3,.slc 0)],[some (sI t15)]⟩))) (by
 rintro t15 f K h
 ·exact h) (fun s=>link_map (N16h b t34 s.1 s.2) (Sum.elim (fun(t15:Int×(List Int))=>Sum.inl (t15.1,t15.2)) (fun(t15:(List Int))=>Sum.inr t15)) (by
 rintro(t15|t15)
 ·kernel_rfl
 ·kernel_rfl)) (0,t)) (fun(t15:(List Int))=>t15) (by
 rintro t15 K h
 ·exact Eq.mp (by kernel_rfl) h)))) (fun(t34:(List Int))=>(N13f t34))))))) (by unfold N47;kernel_rfl) (by
 intro t
 exact ret_mk [.slc 0] (by kernel_rfl) (by kernel_rfl) (by kernel_rfl) (by kernel_rfl)) h
def Nfy:Fun:=fun avs H=>
 match avs,H with
 |[.dat (.list (.int .i64)) a],[]=>⟨_,N47 a,fun(t:(List Int))=>(.slc 0,[some (sI t)]),[],none⟩
 |_,_=>Ans.no
theorem Nsg:Sound Tryz.prog 223 Nfy:=by
 refine fn_sound' (C:=N4u) (c:=bodyOf Tryz.f223) (cok_of tys_ok (alln) (alln) (by kernel_rfl)) Tryz.func223 (by kernel_rfl) LL N26 ?_
 intro avs H r H' h
 unfold Nfy at h
 split at h
 ·refine Awp.cast ?_ ?_ ?_ (Nq4 _ h)<;>kernel_rfl
 ·simp[Ans.no,Ans.run] at h
def Nge:Ann:=(.seq (.leaf [0,1]) (.seq (.leaf [3]) (.leaf [3])))
noncomputable def Nh0:Ctx:=⟨tlook tys,olook [],ioF,2,false,[]⟩
theorem Nrf (a:Int) (b:List Int):Link Nh0 LL (bodyOf Tryz.f225) Nge ⟨mkE 8 0 [(0,dI a),(1,.ptr 0 0)],[some (.box [.slc 1]),some (sI b)]⟩ (N94 a b) (fun(t:Int)=>(Exit.ret,⟨mkE 8 0 [(3,dI t)],[some (.box [.slc 1]),some (sI b)]⟩)):= .of fun K h=>by
 simp only[N94,wpW] at h
 exact .of (by kernel_rfl) h
theorem Nsk (a:Int) (b:List Int) {r:AV} {H':Heap} (h:(Ans.mk _ (N4z a b) (fun(t:Int)=>(dI t,[some (.box [.slc 1]),some (sI b)])) [] none).run=some (r,H')):Awp Nh0 LL (bodyOf Tryz.f225) Nge ⟨mkE 8 0 [(0,dI a),(1,.ptr 0 0)],[some (.box [.slc 1]),some (sI b)]⟩ (Ret (tlook tys) Tryz.f225.results.toList r H'):=
 ret_of' (Nrf a b) (by unfold N4z;kernel_rfl) (by
 intro t
 exact ret_mk [dI t] (by kernel_rfl) (by kernel_rfl) (by kernel_rfl) (by kernel_rfl)) h
def Nhl:Fun:=fun avs H=>
 match avs,H with
 |[.dat (.int .i64) a,.ptr 0 0],[some (.box [.slc 1]),some (.seq (.int .i64) b)]=>⟨_,N4z a b,fun(t:Int)=>(dI t,[some (.box [.slc 1]),some (sI b)]),[],none⟩
 |_,_=>Ans.no
theorem N16r:Sound Tryz.prog 225 Nhl:=by
 refine fn_sound' (C:=Nh0) (c:=bodyOf Tryz.f225) (cok_of tys_ok (alln) (alln) (by kernel_rfl)) Tryz.func225 (by kernel_rfl) LL Nge ?_
 intro avs H r H' h
 unfold Nhl at h
 split at h
 ·refine Awp.cast ?_ ?_ ?_ (Nsk _ _ h)<;>kernel_rfl
 ·simp[Ans.no,Ans.run] at h
def N1g:Ann:=(.seq (.leaf [0,1,2]) (.seq (.leaf [0,1,2,7]) (.seq (.seq (.leaf [0,2,7,13,14,15]) (.block (.loop (.seq (.leaf [0,2,7,13,14,15,16]) (.seq (.cond (.leaf [0,2,7,13,14,15]) (.leaf [7])) (.seq (.block (.seq (.leaf [0,2,7,8,9,13,14,15]) (.leaf [0,2,7,13,14,15]))) (.leaf [0,2,7,13,14,15]))))))) (.seq (.leaf [6]) (.leaf [6])))))
noncomputable def N5d:Ctx:=⟨tlook tys,olook [(225,Nhl)],ioF,2,false,[]⟩
theorem N119 (a b c:List Int):Link N5d LL (Code.seq (cq [0] (bodyOf Tryz.f224)) (cq [0,1] (bodyOf Tryz.f224))) (Ann.seq (aq [0] N1g) (aq [0,1] N1g)) ⟨mkE 32 0 [(0,dL a),(1,dL b),(2,.fn 225 [] [.ptr 0 0])],[some (.box [.slc 1]),some (sI c)]⟩ (Ncl b) (fun(t:(List Int))=>(Exit.normal,⟨mkE 32 0 [(0,dL a),(1,dL b),(2,.fn 225 [] [.ptr 0 0]),(7,.slc 2)],[some (.box [.slc 1]),some (sI c),some (sI t)]⟩)):= .of fun K h=>by
 simp only[Ncl,wpW] at h
 exact .of (by kernel_rfl) h
theorem Nsp (a b c d:List Int):Link N5d LL (cq [0,0,1,1] (bodyOf Tryz.f224)) (aq [0,0,1,1] N1g) ⟨mkE 32 0 [(0,dL a),(1,dL b),(2,.fn 225 [] [.ptr 0 0]),(7,.slc 2)],[some (.box [.slc 1]),some (sI c),some (sI d)]⟩ (Nb7 b) (fun(t:Int)=>(Exit.normal,⟨mkE 32 0 [(0,dL a),(2,.fn 225 [] [.ptr 0 0]),(7,.slc 2),(13,dL b),(14,dI t),(15,dI 0)],[some (.box [.slc 1]),some (sI c),some (sI d)]⟩)):= .of fun K h=>by
 simp only[Nb7,wpW] at h
 exact .of (by kernel_rfl) h
theorem N17w (a b:List Int) (c d:Int) (g i:List Int):Link N5d LL (cq [0,0,1,0,1,1] (bodyOf Tryz.f224)) (aq [0,0,1,0,1,1] N1g) ⟨mkE 32 0 [(0,dL a),(2,.fn 225 [] [.ptr 0 0]),(7,.slc 2),(13,dL b),(14,dI c),(15,dI d)],[some (.box [.slc 1]),some (sI g),some (sI i)]⟩ (N6c a b c d g i) (Sum.elim (fun(t:Int×(List Int))=>(Exit.normal,⟨mkE 32 0 [(0,dL a),(2,.fn 225 [] [.ptr 0 0]),(7,.slc 2),(13,dL b),(14,dI c),(15,dI t.1)],[some (.box [.slc 1]),some (sI g),some (sI t.2)]⟩)) (fun(t:(List Int))=>((Exit.exit 0),⟨mkE 32 0 [(7,.slc 2)],[some (.box [.slc 1]),some (sI g),some (sI t)]⟩))):= .of fun K h=>by
 simp only[N6c,wpW] at h
 exact .of (by kernel_rfl) h
theorem Nyn (a b:List Int):Link N5d LL (cq [1,1,1] (bodyOf Tryz.f224)) (aq [1,1,1] N1g) ⟨mkE 32 0 [(7,.slc 2)],[some (.box [.slc 1]),some (sI a),some (sI b)]⟩ (Ncf b) (fun(t:(List Int))=>(Exit.ret,⟨mkE 32 0 [(6,.slc 2)],[some (.box [.slc 1]),some (sI a),some (sI t)]⟩)):= .of fun K h=>by
 simp only[Ncf,wpW] at h
 exact .of (by kernel_rfl) h
theorem N13i (b d g:List Int) {r:AV} {H':Heap} (h:(Ans.mk _ (N6l b d g) (fun(t:(List Int))=>(.slc 2,[some (.box [.slc 1]),some (sI g),some (sI t)])) [] none).run=some (r,H')):Awp N5d LL (bodyOf Tryz.f224) N1g ⟨mkE 32 0 [(0,dL b),(1,dL d),(2,.fn 225 [] [.ptr 0 0])],[some (.box [.slc 1]),some (sI g)]⟩ (Ret (tlook tys) Tryz.f224.results.toList r H'):=
 ret_of' (Link.cast (by kernel_rfl) (by kernel_rfl) (link_group (c:=(cq [0,1] (bodyOf Tryz.f224))) (a:=(aq [0,1] N1g)) [(cq [0] (bodyOf Tryz.f224))] [(aq [0] N1g)] rfl (link_seq (N119 b d g) (fun(t:(List Int))=>(link_seq (link_seq (Nsp b d g t) (fun(t35:Int)=>(link_block (fin2:=(fun(t16:(List Int))=>(Exit.normal,⟨mkE 32 0 [(7,.slc 2)],[some (.box [.slc 1]),some (sI g),some (sI t16)]⟩))) (id:=0) (link_loop (mk:=fun(s:Int×(List Int))=>⟨mkE 32 0 [(0,dL b),(2,.fn 225 [] [.ptr 0 0]),(7,.slc 2),(13,dL d),(14,dI t35),(15,dI s.1)],[some (.box [.slc 1]),some (sI g),some (sI s.2)]⟩) (fin:=(fun(t16:(List Int))=>((Exit.exit 0),⟨mkE 32 0 [(7,.slc 2)],[some (.box [.slc 1]),some (sI g),some (sI t16)]⟩))) (by
 rintro t16 f K h
 ·exact h) (fun s=>link_map (N17w b d t35 s.1 g s.2) (Sum.elim (fun(t16:Int×(List Int))=>Sum.inl (t16.1,t16.2)) (fun(t16:(List Int))=>Sum.inr t16)) (by
 rintro(t16|t16)
 ·kernel_rfl
 ·kernel_rfl)) (0,t)) (fun(t16:(List Int))=>t16) (by
 rintro t16 K h
 ·exact Eq.mp (by kernel_rfl) h)))) (fun(t35:(List Int))=>(Nyn g t35))))))) (by unfold N6l;kernel_rfl) (by
 intro t
 exact ret_mk [.slc 2] (by kernel_rfl) (by kernel_rfl) (by kernel_rfl) (by kernel_rfl)) h
def Nht:Fun:=fun avs H=>
 match avs,H with
 |[.dat (.list (.int .i64)) a,.dat (.list (.int .i64)) b,.fn 225 [] [.ptr 0 0]],[some (.box [.slc 1]),some (.seq (.int .i64) c)]=>⟨_,N6l a b c,fun(t:(List Int))=>(.slc 2,[some (.box [.slc 1]),some (sI c),some (sI t)]),[],none⟩
 |_,_=>Ans.no
theorem N14w:Sound Tryz.prog 224 Nht:=by
 refine fn_sound' (C:=N5d) (c:=bodyOf Tryz.f224) (cok_of tys_ok (allc N16r alln) (allc Tryz.call225 alln) (by kernel_rfl)) Tryz.func224 (by kernel_rfl) LL N1g ?_
 intro avs H r H' h
 unfold Nht at h
 split at h
 ·refine Awp.cast ?_ ?_ ?_ (N13i _ _ _ h)<;>kernel_rfl
 ·simp[Ans.no,Ans.run] at h
def Nfj:Ann:=(.seq (.leaf [0,1]) (.seq (.seq (.leaf [0,1,16]) (.cond (.seq (.leaf [4,5]) (.leaf [4,5])) (.leaf [0,1]))) (.seq (.leaf [0,1,6]) (.seq (.leaf [4,5]) (.leaf [4,5])))))
noncomputable def Nel:Ctx:=⟨tlook tys,olook [(39,N17),(193,Ncs),(223,Nfy),(224,Nht)],ioF,0,false,[]⟩
theorem N115 (a b:List Int):Link Nel LL (bodyOf Tryz.f176) Nfj ⟨mkE 23 0 [(0,dL a),(1,dL b)],[]⟩ (Nco a b) (fun(t:Bool×(List Int))=>(Exit.ret,⟨mkE 23 0 [(4,.slc 0),(5,dB t.1)],[some (sI t.2)]⟩)):= .of fun K h=>by
 simp only[Nco,wpW] at h
 exact .of (by kernel_rfl) h
theorem Nva (a b:List Int) {r:AV} {H':Heap} (h:(Ans.mk _ (N33 a b) (fun(t:Bool×(List Int))=>(.tup [.slc 0,dB t.1],[some (sI t.2)])) [] none).run=some (r,H')):Awp Nel LL (bodyOf Tryz.f176) Nfj ⟨mkE 23 0 [(0,dL a),(1,dL b)],[]⟩ (Ret (tlook tys) Tryz.f176.results.toList r H'):=
 ret_of' (N115 a b) (by unfold N33;kernel_rfl) (by
 intro t
 exact ret_mk [.slc 0,dB t.1] (by kernel_rfl) (by kernel_rfl) (by kernel_rfl) (by kernel_rfl)) h
def Nar:Fun:=fun avs H=>
 match avs,H with
 |[.dat (.list (.int .i64)) a,.dat (.list (.int .i64)) b],[]=>⟨_,N33 a b,fun(t:Bool×(List Int))=>(.tup [.slc 0,dB t.1],[some (sI t.2)]),[],none⟩
 |_,_=>Ans.no
theorem Nnh:Sound Tryz.prog 176 Nar:=by
 refine fn_sound' (C:=Nel) (c:=bodyOf Tryz.f176) (cok_of tys_ok (allc N2f (allc N116 (allc Nsg (allc N14w alln)))) (allc Tryz.call39 (allc Tryz.call193 (allc Tryz.call223 (allc Tryz.call224 alln)))) (by kernel_rfl)) Tryz.func176 (by kernel_rfl) LL Nfj ?_
 intro avs H r H' h
 unfold Nar at h
 split at h
 ·refine Awp.cast ?_ ?_ ?_ (Nva _ _ h)<;>kernel_rfl
 ·simp[Ans.no,Ans.run] at h
def Ngy:Ann:=(.seq (.leaf [0]) (.seq (.seq (.leaf [0,7]) (.cond (.seq (.leaf [2]) (.leaf [2])) (.leaf [0]))) (.seq (.leaf [3]) (.seq (.leaf [2]) (.leaf [2])))))
noncomputable def Nfh:Ctx:=⟨tlook tys,olook [(39,N17),(177,Nhn),(176,Nar)],ioF,0,false,[]⟩
theorem Nyx (a:List Int):Link Nfh LL (bodyOf Tryz.f135) Ngy ⟨mkE 17 0 [(0,dL a)],[]⟩ (N7i a) (fun(t:(List Int))=>(Exit.ret,⟨mkE 17 0 [(2,.slc 0)],[some (sI t)]⟩)):= .of fun K h=>by
 simp only[N7i,wpW] at h
 exact .of (by kernel_rfl) h
theorem N12o (a:List Int) {r:AV} {H':Heap} (h:(Ans.mk _ (N2w a) (fun(t:(List Int))=>(.slc 0,[some (sI t)])) [] none).run=some (r,H')):Awp Nfh LL (bodyOf Tryz.f135) Ngy ⟨mkE 17 0 [(0,dL a)],[]⟩ (Ret (tlook tys) Tryz.f135.results.toList r H'):=
 ret_of' (Nyx a) (by unfold N2w;kernel_rfl) (by
 intro t
 exact ret_mk [.slc 0] (by kernel_rfl) (by kernel_rfl) (by kernel_rfl) (by kernel_rfl)) h
def Nhh:Fun:=fun avs H=>
 match avs,H with
 |[.dat (.list (.int .i64)) a],[]=>⟨_,N2w a,fun(t:(List Int))=>(.slc 0,[some (sI t)]),[],none⟩
 |_,_=>Ans.no
theorem Nsu:Sound Tryz.prog 135 Nhh:=by
 refine fn_sound' (C:=Nfh) (c:=bodyOf Tryz.f135) (cok_of tys_ok (allc N2f (allc N10p (allc Nnh alln))) (allc Tryz.call39 (allc Tryz.call177 (allc Tryz.call176 alln))) (by kernel_rfl)) Tryz.func135 (by kernel_rfl) LL Ngy ?_
 intro avs H r H' h
 unfold Nhh at h
 split at h
 ·refine Awp.cast ?_ ?_ ?_ (N12o _ h)<;>kernel_rfl
 ·simp[Ans.no,Ans.run] at h
def N16:Ann:=(.seq (.leaf [0]) (.seq (.seq (.leaf [0,6]) (.cond (.seq (.leaf [2]) (.leaf [2])) (.leaf [0]))) (.seq (.leaf [3]) (.seq (.block (.loop (.seq (.seq (.leaf [3,9]) (.cond (.leaf [3]) (.leaf [3]))) (.block (.leaf [3]))))) (.seq (.leaf [2]) (.leaf [2]))))))
noncomputable def N79:Ctx:=⟨tlook tys,olook [(39,N17),(98,Nau)],ioF,0,false,[]⟩
theorem N17d (a:List Int):Link N79 LL (Code.seq (cq [0] (bodyOf Tryz.f117)) (Code.seq (cq [0,1] (bodyOf Tryz.f117)) (cq [0,1,1] (bodyOf Tryz.f117)))) (Ann.seq (aq [0] N16) (Ann.seq (aq [0,1] N16) (aq [0,1,1] N16))) ⟨mkE 12 0 [(0,dL a)],[]⟩ (N7s a) (Sum.elim (fun(t:Unit)=>(Exit.normal,⟨mkE 12 0 [(3,.ptr 0 0)],[some (.box [dL a,dI 1,dI 0])]⟩)) (fun(t:Int)=>(Exit.ret,⟨mkE 12 0 [(2,dI t)],[]⟩))):= .of fun K h=>by
 simp only[N7s,wpW] at h
 exact .of (by kernel_rfl) h
theorem N118 (a:List Int) (b c:Int):Link N79 LL (cq [0,0,0,1,1,1] (bodyOf Tryz.f117)) (aq [0,0,0,1,1,1] N16) ⟨mkE 12 0 [(3,.ptr 0 0)],[some (.box [dL a,dI b,dI c])]⟩ (N6e a b c) (Sum.elim (fun(t:Int×Int)=>(Exit.normal,⟨mkE 12 0 [(3,.ptr 0 0)],[some (.box [dL a,dI t.1,dI t.2])]⟩)) (fun(t:Int×Int)=>((Exit.exit 0),⟨mkE 12 0 [(3,.ptr 0 0)],[some (.box [dL a,dI t.1,dI t.2])]⟩))):= .of fun K h=>by
 simp only[N6e,wpW] at h
 exact .of (by kernel_rfl) h
theorem Nrj (a:List Int) (b c:Int):Link N79 LL (cq [1,1,1,1] (bodyOf Tryz.f117)) (aq [1,1,1,1] N16) ⟨mkE 12 0 [(3,.ptr 0 0)],[some (.box [dL a,dI b,dI c])]⟩ (Nbz b) (fun(t:Int)=>(Exit.ret,⟨mkE 12 0 [(2,dI t)],[]⟩)):= .of fun K h=>by
 simp only[Nbz,wpW] at h
 exact .of (by kernel_rfl) h
theorem Nvd (b:List Int) {r:AV} {H':Heap} (h:(Ans.mk _ (N59 b) (fun(t:Int)=>(dI t,[])) [] none).run=some (r,H')):Awp N79 LL (bodyOf Tryz.f117) N16 ⟨mkE 12 0 [(0,dL b)],[]⟩ (Ret (tlook tys) Tryz.f117.results.toList r H'):=
 ret_of' (Link.cast (by kernel_rfl) (by kernel_rfl) (link_group (c:=(cq [0,1,1] (bodyOf Tryz.f117))) (a:=(aq [0,1,1] N16)) [(cq [0] (bodyOf Tryz.f117)),(cq [0,1] (bodyOf Tryz.f117))] [(aq [0] N16),(aq [0,1] N16)] rfl (link_seq2 (N17d b) (fun(t:Unit)=>(link_seq (link_block (fin2:=(fun(t:Int×Int)=>(Exit.normal,⟨mkE 12 0 [(3,.ptr 0 0)],[some (.box [dL b,dI t.1,dI t.2])]⟩))) (id:=0) (link_loop (mk:=fun(s:Int×Int)=>⟨mkE 12 0 [(3,.ptr 0 0)],[some (.box [dL b,dI s.1,dI s.2])]⟩) (fin:=(fun(t:Int×Int)=>((Exit.exit 0),⟨mkE 12 0 [(3,.ptr 0 0)],[some (.box [dL b,dI t.1,dI t.2])]⟩))) (by
 rintro t f K h
 ·exact h) (fun s=>link_map (N118 b s.1 s.2) (Sum.elim (fun(t:Int×Int)=>Sum.inl (t.1,t.2)) (fun(t:Int×Int)=>Sum.inr t)) (by
 rintro(t|t)
 ·kernel_rfl
 ·kernel_rfl)) (1,0)) (fun(t:Int×Int)=>(t.1,t.2)) (by
 rintro t K h
 ·exact Eq.mp (by kernel_rfl) h)) (fun(t:Int×Int)=>(Nrj b t.1 t.2)))) (fun(t:Int)=>t) (by
 rintro t
 ·kernel_rfl) (by
 rintro t f K h
 ·exact h)))) (by unfold N59;kernel_rfl) (by
 intro t
 exact ret_mk [dI t] (by kernel_rfl) (by kernel_rfl) (by kernel_rfl) (by kernel_rfl)) h
def Ncz:Fun:=fun avs H=>
 match avs,H with
 |[.dat (.list (.int .i64)) a],[]=>⟨_,N59 a,fun(t:Int)=>(dI t,[]),[],none⟩
 |_,_=>Ans.no
theorem N13l:Sound Tryz.prog 117 Ncz:=by
 refine fn_sound' (C:=N79) (c:=bodyOf Tryz.f117) (cok_of tys_ok (allc N2f (allc Nj3 alln)) (allc Tryz.call39 (allc Tryz.call98 alln)) (by kernel_rfl)) Tryz.func117 (by kernel_rfl) LL N16 ?_
 intro avs H r H' h
 unfold Ncz at h
 split at h
 ·refine Awp.cast ?_ ?_ ?_ (Nvd _ h)<;>kernel_rfl
 ·simp[Ans.no,Ans.run] at h
def Ngu:Ann:=(.seq (.leaf [0]) (.seq (.leaf [2]) (.leaf [2])))
noncomputable def Ndd:Ctx:=⟨tlook tys,olook [],ioF,0,false,[]⟩
theorem N14d (a:Int):Link Ndd LL (bodyOf Tryz.f219) Ngu ⟨mkE 6 0 [(0,dI a)],[]⟩ (Ndf a) (fun(t:Int)=>(Exit.ret,⟨mkE 6 0 [(2,dW t)],[]⟩)):= .of fun K h=>by
 simp only[Ndf,wpW] at h
 exact .of (by kernel_rfl) h
theorem N14p (a:Int) {r:AV} {H':Heap} (h:(Ans.mk _ (N3v a) (fun(t:Int)=>(dW t,[])) [] none).run=some (r,H')):Awp Ndd LL (bodyOf Tryz.f219) Ngu ⟨mkE 6 0 [(0,dI a)],[]⟩ (Ret (tlook tys) Tryz.f219.results.toList r H'):=
 ret_of' (N14d a) (by unfold N3v;kernel_rfl) (by
 intro t
 exact ret_mk [dW t] (by kernel_rfl) (by kernel_rfl) (by kernel_rfl) (by kernel_rfl)) h
def N8r:Fun:=fun avs H=>
 match avs,H with
 |[.dat (.int .i64) a],[]=>⟨_,N3v a,fun(t:Int)=>(dW t,[]),[],none⟩
 |_,_=>Ans.no
theorem Nkh:Sound Tryz.prog 219 N8r:=by
 refine fn_sound' (C:=Ndd) (c:=bodyOf Tryz.f219) (cok_of tys_ok (alln) (alln) (by kernel_rfl)) Tryz.func219 (by kernel_rfl) LL Ngu ?_
 intro avs H r H' h
 unfold N8r at h
 split at h
 ·refine Awp.cast ?_ ?_ ?_ (N14p _ h)<;>kernel_rfl
 ·simp[Ans.no,Ans.run] at h
def N1w:Ann:=(.seq (.leaf [0,1]) (.seq (.leaf [0,1,5]) (.seq (.seq (.leaf [0,1,5,8,9]) (.block (.loop (.seq (.leaf [0,1,5,8,9,10]) (.seq (.cond (.leaf [0,1,5,8,9]) (.leaf [5])) (.seq (.block (.seq (.leaf [0,1,5,6,8,9]) (.seq (.leaf [0,1,5,6,8,9,17]) (.cond (.leaf [0,1,5,8,9]) (.leaf [0,1,5,8,9]))))) (.leaf [0,1,5,8,9]))))))) (.seq (.leaf [4]) (.leaf [4])))))
noncomputable def N66:Ctx:=⟨tlook tys,olook [(219,N8r)],ioF,0,false,[]⟩
theorem N11a (a:List Int) (b:Int):Link N66 LL (Code.seq (cq [0] (bodyOf Tryz.f196)) (cq [0,1] (bodyOf Tryz.f196))) (Ann.seq (aq [0] N1w) (aq [0,1] N1w)) ⟨mkE 25 0 [(0,dL a),(1,dI b)],[]⟩ (N9x) (fun(t:Unit)=>(Exit.normal,⟨mkE 25 0 [(0,dL a),(1,dI b),(5,dW 0)],[]⟩)):= .of fun K h=>by
 simp only[N9x,wpW] at h
 exact .of (by kernel_rfl) h
theorem Nsq (a:List Int) (b:Int):Link N66 LL (cq [0,0,1,1] (bodyOf Tryz.f196)) (aq [0,0,1,1] N1w) ⟨mkE 25 0 [(0,dL a),(1,dI b),(5,dW 0)],[]⟩ (N8h a) (fun(t:Int)=>(Exit.normal,⟨mkE 25 0 [(0,dL a),(1,dI b),(5,dW 0),(8,dI t),(9,dI 0)],[]⟩)):= .of fun K h=>by
 simp only[N8h,wpW] at h
 exact .of (by kernel_rfl) h
theorem Npv (a:List Int) (b c d g:Int):Link N66 LL (cq [0,0,1,0,1,1] (bodyOf Tryz.f196)) (aq [0,0,1,0,1,1] N1w) ⟨mkE 25 0 [(0,dL a),(1,dI b),(5,dW c),(8,dI d),(9,dI g)],[]⟩ (N53 a b c d g) (Sum.elim (fun(t:Int×Int)=>(Exit.normal,⟨mkE 25 0 [(0,dL a),(1,dI b),(5,dW t.1),(8,dI d),(9,dI t.2)],[]⟩)) (fun(t:Int)=>((Exit.exit 0),⟨mkE 25 0 [(5,dW t)],[]⟩))):= .of fun K h=>by
 simp only[N53,wpW] at h
 exact .of (by kernel_rfl) h
theorem Nru (a:Int):Link N66 LL (cq [1,1,1] (bodyOf Tryz.f196)) (aq [1,1,1] N1w) ⟨mkE 25 0 [(5,dW a)],[]⟩ (Nda a) (fun(t:Int)=>(Exit.ret,⟨mkE 25 0 [(4,dW t)],[]⟩)):= .of fun K h=>by
 simp only[Nda,wpW] at h
 exact .of (by kernel_rfl) h
theorem Ntt (b:List Int) (d:Int) {r:AV} {H':Heap} (h:(Ans.mk _ (N30 b d) (fun(t:Int)=>(dW t,[])) [] none).run=some (r,H')):Awp N66 LL (bodyOf Tryz.f196) N1w ⟨mkE 25 0 [(0,dL b),(1,dI d)],[]⟩ (Ret (tlook tys) Tryz.f196.results.toList r H'):=
 ret_of' (Link.cast (by kernel_rfl) (by kernel_rfl) (link_group (c:=(cq [0,1] (bodyOf Tryz.f196))) (a:=(aq [0,1] N1w)) [(cq [0] (bodyOf Tryz.f196))] [(aq [0] N1w)] rfl (link_seq (N11a b d) (fun(t:Unit)=>(link_seq (link_seq (Nsq b d) (fun(t:Int)=>(link_block (fin2:=(fun(t17:Int)=>(Exit.normal,⟨mkE 25 0 [(5,dW t17)],[]⟩))) (id:=0) (link_loop (mk:=fun(s:Int×Int)=>⟨mkE 25 0 [(0,dL b),(1,dI d),(5,dW s.1),(8,dI t),(9,dI s.2)],[]⟩) (fin:=(fun(t17:Int)=>((Exit.exit 0),⟨mkE 25 0 [(5,dW t17)],[]⟩))) (by
 rintro t17 f K h
 ·exact h) (fun s=>link_map (Npv b d s.1 t s.2) (Sum.elim (fun(t17:Int×Int)=>Sum.inl (t17.1,t17.2)) (fun(t17:Int)=>Sum.inr t17)) (by
 rintro(t17|t17)
 ·kernel_rfl
 ·kernel_rfl)) (0,0)) (fun(t17:Int)=>t17) (by
 rintro t17 K h
 ·exact Eq.mp (by kernel_rfl) h)))) (fun(t:Int)=>(Nru t))))))) (by unfold N30;kernel_rfl) (by
 intro t
 exact ret_mk [dW t] (by kernel_rfl) (by kernel_rfl) (by kernel_rfl) (by kernel_rfl)) h
def Nia:Fun:=fun avs H=>
 match avs,H with
 |[.dat (.list (.int .i64)) a,.dat (.int .i64) b],[]=>⟨_,N30 a b,fun(t:Int)=>(dW t,[]),[],none⟩
 |_,_=>Ans.no
theorem Ntf:Sound Tryz.prog 196 Nia:=by
 refine fn_sound' (C:=N66) (c:=bodyOf Tryz.f196) (cok_of tys_ok (allc Nkh alln) (allc Tryz.call219 alln) (by kernel_rfl)) Tryz.func196 (by kernel_rfl) LL N1w ?_
 intro avs H r H' h
 unfold Nia at h
 split at h
 ·refine Awp.cast ?_ ?_ ?_ (Ntt _ _ h)<;>kernel_rfl
 ·simp[Ans.no,Ans.run] at h
def Ng1:Ann:=(.seq (.leaf [0]) (.seq (.leaf [2]) (.leaf [2])))
noncomputable def Ni8:Ctx:=⟨tlook tys,olook [(219,N8r)],ioF,0,false,[]⟩
theorem N10v (a:Int):Link Ni8 LL (bodyOf Tryz.f226) Ng1 ⟨mkE 6 0 [(0,dI a)],[]⟩ (Nfc a) (fun(t:Int)=>(Exit.ret,⟨mkE 6 0 [(2,dW t)],[]⟩)):= .of fun K h=>by
 simp only[Nfc,wpW] at h
 exact .of (by kernel_rfl) h
theorem Nvt (a:Int) {r:AV} {H':Heap} (h:(Ans.mk _ (N3f a) (fun(t:Int)=>(dW t,[])) [] none).run=some (r,H')):Awp Ni8 LL (bodyOf Tryz.f226) Ng1 ⟨mkE 6 0 [(0,dI a)],[]⟩ (Ret (tlook tys) Tryz.f226.results.toList r H'):=
 ret_of' (N10v a) (by unfold N3f;kernel_rfl) (by
 intro t
 exact ret_mk [dW t] (by kernel_rfl) (by kernel_rfl) (by kernel_rfl) (by kernel_rfl)) h
def Neh:Fun:=fun avs H=>
 match avs,H with
 |[.dat (.int .i64) a],[]=>⟨_,N3f a,fun(t:Int)=>(dW t,[]),[],none⟩
 |_,_=>Ans.no
theorem Nxn:Sound Tryz.prog 226 Neh:=by
 refine fn_sound' (C:=Ni8) (c:=bodyOf Tryz.f226) (cok_of tys_ok (allc Nkh alln) (allc Tryz.call219 alln) (by kernel_rfl)) Tryz.func226 (by kernel_rfl) LL Ng1 ?_
 intro avs H r H' h
 unfold Neh at h
 split at h
 ·refine Awp.cast ?_ ?_ ?_ (Nvt _ h)<;>kernel_rfl
 ·simp[Ans.no,Ans.run] at h
def Nek:Ann:=(.seq (.leaf [0,1]) (.seq (.leaf [1,6]) (.seq (.leaf [4,5]) (.leaf [4,5]))))
noncomputable def Ngz:Ctx:=⟨tlook tys,olook [(196,Nia),(226,Neh)],ioF,0,false,[]⟩
theorem Nrl (a:List Int) (b:Int):Link Ngz LL (bodyOf Tryz.f187) Nek ⟨mkE 18 0 [(0,dL a),(1,dI b)],[]⟩ (N7a a b) (fun(t:Int×Int)=>(Exit.ret,⟨mkE 18 0 [(4,dW t.1),(5,dW t.2)],[]⟩)):= .of fun K h=>by
 simp only[N7a,wpW] at h
 exact .of (by kernel_rfl) h
theorem Nz2 (a:List Int) (b:Int) {r:AV} {H':Heap} (h:(Ans.mk _ (N3t a b) (fun(t:Int×Int)=>(.tup [dW t.1,dW t.2],[])) [] none).run=some (r,H')):Awp Ngz LL (bodyOf Tryz.f187) Nek ⟨mkE 18 0 [(0,dL a),(1,dI b)],[]⟩ (Ret (tlook tys) Tryz.f187.results.toList r H'):=
 ret_of' (Nrl a b) (by unfold N3t;kernel_rfl) (by
 intro t
 exact ret_mk [dW t.1,dW t.2] (by kernel_rfl) (by kernel_rfl) (by kernel_rfl) (by kernel_rfl)) h
def Ng0:Fun:=fun avs H=>
 match avs,H with
 |[.dat (.list (.int .i64)) a,.dat (.int .i64) b],[]=>⟨_,N3t a b,fun(t:Int×Int)=>(.tup [dW t.1,dW t.2],[]),[],none⟩
 |_,_=>Ans.no
theorem Nwj:Sound Tryz.prog 187 Ng0:=by
 refine fn_sound' (C:=Ngz) (c:=bodyOf Tryz.f187) (cok_of tys_ok (allc Ntf (allc Nxn alln)) (allc Tryz.call196 (allc Tryz.call226 alln)) (by kernel_rfl)) Tryz.func187 (by kernel_rfl) LL Nek ?_
 intro avs H r H' h
 unfold Ng0 at h
 split at h
 ·refine Awp.cast ?_ ?_ ?_ (Nz2 _ _ h)<;>kernel_rfl
 ·simp[Ans.no,Ans.run] at h
def Ng:Ann:=(.seq (.leaf [0]) (.seq (.leaf [0]) (.seq (.leaf [0]) (.seq (.leaf [0]) (.seq (.leaf [0]) (.seq (.leaf [0]) (.seq (.leaf [0]) (.seq (.leaf [2]) (.leaf [2])))))))))
noncomputable def N15:Ctx:=⟨tlook tys,olook [],ioF,0,false,[]⟩
theorem N147 (a:Int):Link N15 LL (Code.seq (cq [0] (bodyOf Tryz.f238)) (cq [0,1] (bodyOf Tryz.f238))) (Ann.seq (aq [0] Ng) (aq [0,1] Ng)) ⟨mkE 35 0 [(0,dW a)],[]⟩ (Ng8 a) (fun(t:Int)=>(Exit.normal,⟨mkE 35 0 [(0,dW t)],[]⟩)):= .of fun K h=>by
 simp only[Ng8,wpW] at h
 exact .of (by kernel_rfl) h
theorem Nw9 (a:Int):Link N15 LL (cq [0,1,1] (bodyOf Tryz.f238)) (aq [0,1,1] Ng) ⟨mkE 35 0 [(0,dW a)],[]⟩ (Nfr a) (fun(t:Int)=>(Exit.normal,⟨mkE 35 0 [(0,dW t)],[]⟩)):= .of fun K h=>by
 simp only[Nfr,wpW] at h
 exact .of (by kernel_rfl) h
theorem N14m (a:Int):Link N15 LL (cq [0,1,1,1] (bodyOf Tryz.f238)) (aq [0,1,1,1] Ng) ⟨mkE 35 0 [(0,dW a)],[]⟩ (Nhk a) (fun(t:Int)=>(Exit.normal,⟨mkE 35 0 [(0,dW t)],[]⟩)):= .of fun K h=>by
 simp only[Nhk,wpW] at h
 exact .of (by kernel_rfl) h
theorem Ny0 (a:Int):Link N15 LL (cq [0,1,1,1,1] (bodyOf Tryz.f238)) (aq [0,1,1,1,1] Ng) ⟨mkE 35 0 [(0,dW a)],[]⟩ (Nii a) (fun(t:Int)=>(Exit.normal,⟨mkE 35 0 [(0,dW t)],[]⟩)):= .of fun K h=>by
 simp only[Nii,wpW] at h
 exact .of (by kernel_rfl) h
theorem Npu (a:Int):Link N15 LL (cq [0,1,1,1,1,1] (bodyOf Tryz.f238)) (aq [0,1,1,1,1,1] Ng) ⟨mkE 35 0 [(0,dW a)],[]⟩ (Nfa a) (fun(t:Int)=>(Exit.normal,⟨mkE 35 0 [(0,dW t)],[]⟩)):= .of fun K h=>by
 simp only[Nfa,wpW] at h
 exact .of (by kernel_rfl) h
theorem N16g (a:Int):Link N15 LL (cq [0,1,1,1,1,1,1] (bodyOf Tryz.f238)) (aq [0,1,1,1,1,1,1] Ng) ⟨mkE 35 0 [(0,dW a)],[]⟩ (Nfl a) (fun(t:Int)=>(Exit.normal,⟨mkE 35 0 [(0,dW t)],[]⟩)):= .of fun K h=>by
 simp only[Nfl,wpW] at h
 exact .of (by kernel_rfl) h
theorem N172 (a:Int):Link N15 LL (cq [0,1,1,1,1,1,1,1] (bodyOf Tryz.f238)) (aq [0,1,1,1,1,1,1,1] Ng) ⟨mkE 35 0 [(0,dW a)],[]⟩ (Nh8 a) (fun(t:Int)=>(Exit.normal,⟨mkE 35 0 [(2,dI t)],[]⟩)):= .of fun K h=>by
 simp only[Nh8,wpW] at h
 exact .of (by kernel_rfl) h
theorem Nvi (a:Int):Link N15 LL (cq [1,1,1,1,1,1,1,1] (bodyOf Tryz.f238)) (aq [1,1,1,1,1,1,1,1] Ng) ⟨mkE 35 0 [(2,dI a)],[]⟩ (Nex a) (fun(t:Int)=>(Exit.ret,⟨mkE 35 0 [(2,dI t)],[]⟩)):= .of fun K h=>by
 simp only[Nex,wpW] at h
 exact .of (by kernel_rfl) h
theorem Ntg (b:Int) {r:AV} {H':Heap} (h:(Ans.mk _ (N8b b) (fun(t:Int)=>(dI t,[])) [] none).run=some (r,H')):Awp N15 LL (bodyOf Tryz.f238) Ng ⟨mkE 35 0 [(0,dW b)],[]⟩ (Ret (tlook tys) Tryz.f238.results.toList r H'):=
 ret_of' (Link.cast (by kernel_rfl) (by kernel_rfl) (link_group (c:=(cq [0,1] (bodyOf Tryz.f238))) (a:=(aq [0,1] Ng)) [(cq [0] (bodyOf Tryz.f238))] [(aq [0] Ng)] rfl (link_seq (N147 b) (fun(t:Int)=>(link_seq (Nw9 t) (fun(t18:Int)=>(link_seq (N14m t18) (fun(t3:Int)=>(link_seq (Ny0 t3) (fun(t:Int)=>(link_seq (Npu t) (fun(t2:Int)=>(link_seq (N16g t2) (fun(t:Int)=>(link_seq (N172 t) (fun(t1:Int)=>(Nvi t1))))))))))))))))) (by unfold N8b;kernel_rfl) (by
 intro t
 exact ret_mk [dI t] (by kernel_rfl) (by kernel_rfl) (by kernel_rfl) (by kernel_rfl)) h
def Nhs:Fun:=fun avs H=>
 match avs,H with
 |[.dat (.int .u64) a],[]=>⟨_,N8b a,fun(t:Int)=>(dI t,[]),[],none⟩
 |_,_=>Ans.no
theorem N16z:Sound Tryz.prog 238 Nhs:=by
 refine fn_sound' (C:=N15) (c:=bodyOf Tryz.f238) (cok_of tys_ok (alln) (alln) (by kernel_rfl)) Tryz.func238 (by kernel_rfl) LL Ng ?_
 intro avs H r H' h
 unfold Nhs at h
 split at h
 ·refine Awp.cast ?_ ?_ ?_ (Ntg _ h)<;>kernel_rfl
 ·simp[Ans.no,Ans.run] at h
def Nhv:Ann:=(.seq (.leaf [0]) (.seq (.cond (.seq (.leaf [2]) (.leaf [2])) (.leaf [0])) (.seq (.leaf [2]) (.leaf [2]))))
noncomputable def Ngh:Ctx:=⟨tlook tys,olook [(238,Nhs)],ioF,0,false,[]⟩
theorem N14v (a:Int):Link Ngh LL (bodyOf Tryz.f220) Nhv ⟨mkE 8 0 [(0,dW a)],[]⟩ (Nip a) (fun(t:Int)=>(Exit.ret,⟨mkE 8 0 [(2,dI t)],[]⟩)):= .of fun K h=>by
 simp only[Nip,wpW] at h
 exact .of (by kernel_rfl) h
theorem N18i (a:Int) {r:AV} {H':Heap} (h:(Ans.mk _ (Nc6 a) (fun(t:Int)=>(dI t,[])) [] none).run=some (r,H')):Awp Ngh LL (bodyOf Tryz.f220) Nhv ⟨mkE 8 0 [(0,dW a)],[]⟩ (Ret (tlook tys) Tryz.f220.results.toList r H'):=
 ret_of' (N14v a) (by unfold Nc6;kernel_rfl) (by
 intro t
 exact ret_mk [dI t] (by kernel_rfl) (by kernel_rfl) (by kernel_rfl) (by kernel_rfl)) h
def Nf2:Fun:=fun avs H=>
 match avs,H with
 |[.dat (.int .u64) a],[]=>⟨_,Nc6 a,fun(t:Int)=>(dI t,[]),[],none⟩
 |_,_=>Ans.no
theorem Nry:Sound Tryz.prog 220 Nf2:=by
 refine fn_sound' (C:=Ngh) (c:=bodyOf Tryz.f220) (cok_of tys_ok (allc N16z alln) (allc Tryz.call238 alln) (by kernel_rfl)) Tryz.func220 (by kernel_rfl) LL Nhv ?_
 intro avs H r H' h
 unfold Nf2 at h
 split at h
 ·refine Awp.cast ?_ ?_ ?_ (N18i _ h)<;>kernel_rfl
 ·simp[Ans.no,Ans.run] at h
def Nfg:Ann:=(.seq (.leaf [0]) (.seq (.leaf [2]) (.leaf [2])))
noncomputable def Ncw:Ctx:=⟨tlook tys,olook [(220,Nf2)],ioF,0,false,[]⟩
theorem N133 (a:Int):Link Ncw LL (bodyOf Tryz.f174) Nfg ⟨mkE 5 0 [(0,dW a)],[]⟩ (Ne8 a) (fun(t:Int)=>(Exit.ret,⟨mkE 5 0 [(2,dI t)],[]⟩)):= .of fun K h=>by
 simp only[Ne8,wpW] at h
 exact .of (by kernel_rfl) h
theorem Nqw (a:Int) {r:AV} {H':Heap} (h:(Ans.mk _ (Nbk a) (fun(t:Int)=>(dI t,[])) [] none).run=some (r,H')):Awp Ncw LL (bodyOf Tryz.f174) Nfg ⟨mkE 5 0 [(0,dW a)],[]⟩ (Ret (tlook tys) Tryz.f174.results.toList r H'):=
 ret_of' (N133 a) (by unfold Nbk;kernel_rfl) (by
 intro t
 exact ret_mk [dI t] (by kernel_rfl) (by kernel_rfl) (by kernel_rfl) (by kernel_rfl)) h
def Nh9:Fun:=fun avs H=>
 match avs,H with
 |[.dat (.int .u64) a],[]=>⟨_,Nbk a,fun(t:Int)=>(dI t,[]),[],none⟩
 |_,_=>Ans.no
theorem Nzp:Sound Tryz.prog 174 Nh9:=by
 refine fn_sound' (C:=Ncw) (c:=bodyOf Tryz.f174) (cok_of tys_ok (allc Nry alln) (allc Tryz.call220 alln) (by kernel_rfl)) Tryz.func174 (by kernel_rfl) LL Nfg ?_
 intro avs H r H' h
 unfold Nh9 at h
 split at h
 ·refine Awp.cast ?_ ?_ ?_ (Nqw _ h)<;>kernel_rfl
 ·simp[Ans.no,Ans.run] at h
def Nig:Ann:=(.seq (.leaf [0]) (.seq (.seq (.leaf [0,4]) (.cond (.seq (.leaf [2]) (.leaf [2])) (.leaf [0]))) (.seq (.leaf [2]) (.leaf [2]))))
noncomputable def Nf6:Ctx:=⟨tlook tys,olook [],ioF,0,false,[]⟩
theorem N170 (a:Int):Link Nf6 LL (bodyOf Tryz.f222) Nig ⟨mkE 14 0 [(0,dW a)],[]⟩ (Nfs a) (fun(t:Int)=>(Exit.ret,⟨mkE 14 0 [(2,dI t)],[]⟩)):= .of fun K h=>by
 simp only[Nfs,wpW] at h
 exact .of (by kernel_rfl) h
theorem N105 (a:Int) {r:AV} {H':Heap} (h:(Ans.mk _ (N9f a) (fun(t:Int)=>(dI t,[])) [] none).run=some (r,H')):Awp Nf6 LL (bodyOf Tryz.f222) Nig ⟨mkE 14 0 [(0,dW a)],[]⟩ (Ret (tlook tys) Tryz.f222.results.toList r H'):=
 ret_of' (N170 a) (by unfold N9f;kernel_rfl) (by
 intro t
 exact ret_mk [dI t] (by kernel_rfl) (by kernel_rfl) (by kernel_rfl) (by kernel_rfl)) h
def Ne9:Fun:=fun avs H=>
 match avs,H with
 |[.dat (.int .u64) a],[]=>⟨_,N9f a,fun(t:Int)=>(dI t,[]),[],none⟩
 |_,_=>Ans.no
theorem Nsa:Sound Tryz.prog 222 Ne9:=by
 refine fn_sound' (C:=Nf6) (c:=bodyOf Tryz.f222) (cok_of tys_ok (alln) (alln) (by kernel_rfl)) Tryz.func222 (by kernel_rfl) LL Nig ?_
 intro avs H r H' h
 unfold Ne9 at h
 split at h
 ·refine Awp.cast ?_ ?_ ?_ (N105 _ h)<;>kernel_rfl
 ·simp[Ans.no,Ans.run] at h
def Nef:Ann:=(.seq (.leaf [0]) (.seq (.cond (.seq (.leaf [2]) (.leaf [2])) (.leaf [0])) (.seq (.leaf [2]) (.leaf [2]))))
noncomputable def Ni3:Ctx:=⟨tlook tys,olook [(222,Ne9)],ioF,0,false,[]⟩
theorem Nv2 (a:Int):Link Ni3 LL (bodyOf Tryz.f175) Nef ⟨mkE 8 0 [(0,dW a)],[]⟩ (Ndo a) (fun(t:Int)=>(Exit.ret,⟨mkE 8 0 [(2,dI t)],[]⟩)):= .of fun K h=>by
 simp only[Ndo,wpW] at h
 exact .of (by kernel_rfl) h
theorem Nrv (a:Int) {r:AV} {H':Heap} (h:(Ans.mk _ (Nab a) (fun(t:Int)=>(dI t,[])) [] none).run=some (r,H')):Awp Ni3 LL (bodyOf Tryz.f175) Nef ⟨mkE 8 0 [(0,dW a)],[]⟩ (Ret (tlook tys) Tryz.f175.results.toList r H'):=
 ret_of' (Nv2 a) (by unfold Nab;kernel_rfl) (by
 intro t
 exact ret_mk [dI t] (by kernel_rfl) (by kernel_rfl) (by kernel_rfl) (by kernel_rfl)) h
def Ngb:Fun:=fun avs H=>
 match avs,H with
 |[.dat (.int .u64) a],[]=>⟨_,Nab a,fun(t:Int)=>(dI t,[]),[],none⟩
 |_,_=>Ans.no
theorem N12m:Sound Tryz.prog 175 Ngb:=by
 refine fn_sound' (C:=Ni3) (c:=bodyOf Tryz.f175) (cok_of tys_ok (allc Nsa alln) (allc Tryz.call222 alln) (by kernel_rfl)) Tryz.func175 (by kernel_rfl) LL Nef ?_
 intro avs H r H' h
 unfold Ngb at h
 split at h
 ·refine Awp.cast ?_ ?_ ?_ (Nrv _ h)<;>kernel_rfl
 ·simp[Ans.no,Ans.run] at h
def N25:Ann:=(.seq (.leaf [0]) (.seq (.leaf [0,3]) (.seq (.seq (.leaf [3,4]) (.block (.loop (.seq (.seq (.leaf [3,4,10]) (.cond (.leaf [3,4]) (.leaf [3]))) (.seq (.block (.leaf [3,4])) (.leaf [3,4])))))) (.seq (.leaf [2]) (.leaf [2])))))
noncomputable def N4c:Ctx:=⟨tlook tys,olook [(174,Nh9),(175,Ngb)],ioF,0,false,[]⟩
theorem N152 (a:Int):Link N4c LL (Code.seq (cq [0] (bodyOf Tryz.f134)) (cq [0,1] (bodyOf Tryz.f134))) (Ann.seq (aq [0] N25) (aq [0,1] N25)) ⟨mkE 22 0 [(0,dW a)],[]⟩ (Ngl a) (fun(t:(List Int))=>(Exit.normal,⟨mkE 22 0 [(0,dW a),(3,.slc 0)],[some (sI t)]⟩)):= .of fun K h=>by
 simp only[Ngl,wpW] at h
 exact .of (by kernel_rfl) h
theorem N178 (a:Int) (b:List Int):Link N4c LL (cq [0,0,1,1] (bodyOf Tryz.f134)) (aq [0,0,1,1] N25) ⟨mkE 22 0 [(0,dW a),(3,.slc 0)],[some (sI b)]⟩ (Ngc) (fun(t:Unit)=>(Exit.normal,⟨mkE 22 0 [(3,.slc 0),(4,dW a)],[some (sI b)]⟩)):= .of fun K h=>by
 simp only[Ngc,wpW] at h
 exact .of (by kernel_rfl) h
theorem N10r (a:Int) (b:List Int):Link N4c LL (cq [0,0,1,0,1,1] (bodyOf Tryz.f134)) (aq [0,0,1,0,1,1] N25) ⟨mkE 22 0 [(3,.slc 0),(4,dW a)],[some (sI b)]⟩ (Ney a b) (Sum.elim (fun(t:Int×(List Int))=>(Exit.normal,⟨mkE 22 0 [(3,.slc 0),(4,dW t.1)],[some (sI t.2)]⟩)) (fun(t:(List Int))=>((Exit.exit 0),⟨mkE 22 0 [(3,.slc 0)],[some (sI t)]⟩))):= .of fun K h=>by
 simp only[Ney,wpW] at h
 exact .of (by kernel_rfl) h
theorem Nwd (a:List Int):Link N4c LL (cq [1,1,1] (bodyOf Tryz.f134)) (aq [1,1,1] N25) ⟨mkE 22 0 [(3,.slc 0)],[some (sI a)]⟩ (Ndl a) (fun(t:(List Int))=>(Exit.ret,⟨mkE 22 0 [(2,.slc 0)],[some (sI t)]⟩)):= .of fun K h=>by
 simp only[Ndl,wpW] at h
 exact .of (by kernel_rfl) h
theorem Nw6 (b:Int) {r:AV} {H':Heap} (h:(Ans.mk _ (N5y b) (fun(t:(List Int))=>(.slc 0,[some (sI t)])) [] none).run=some (r,H')):Awp N4c LL (bodyOf Tryz.f134) N25 ⟨mkE 22 0 [(0,dW b)],[]⟩ (Ret (tlook tys) Tryz.f134.results.toList r H'):=
 ret_of' (Link.cast (by kernel_rfl) (by kernel_rfl) (link_group (c:=(cq [0,1] (bodyOf Tryz.f134))) (a:=(aq [0,1] N25)) [(cq [0] (bodyOf Tryz.f134))] [(aq [0] N25)] rfl (link_seq (N152 b) (fun(t:(List Int))=>(link_seq (link_seq (N178 b t) (fun(t36:Unit)=>(link_block (fin2:=(fun(t36:(List Int))=>(Exit.normal,⟨mkE 22 0 [(3,.slc 0)],[some (sI t36)]⟩))) (id:=0) (link_loop (mk:=fun(s:Int×(List Int))=>⟨mkE 22 0 [(3,.slc 0),(4,dW s.1)],[some (sI s.2)]⟩) (fin:=(fun(t36:(List Int))=>((Exit.exit 0),⟨mkE 22 0 [(3,.slc 0)],[some (sI t36)]⟩))) (by
 rintro t36 f K h
 ·exact h) (fun s=>link_map (N10r s.1 s.2) (Sum.elim (fun(t36:Int×(List Int))=>Sum.inl (t36.1,t36.2)) (fun(t36:(List Int))=>Sum.inr t36)) (by
 rintro(t36|t36)
 ·kernel_rfl
 ·kernel_rfl)) (b,t)) (fun(t36:(List Int))=>t36) (by
 rintro t36 K h
 ·exact Eq.mp (by kernel_rfl) h)))) (fun(t36:(List Int))=>(Nwd t36))))))) (by unfold N5y;kernel_rfl) (by
 intro t
 exact ret_mk [.slc 0] (by kernel_rfl) (by kernel_rfl) (by kernel_rfl) (by kernel_rfl)) h
def Nd9:Fun:=fun avs H=>
 match avs,H with
 |[.dat (.int .u64) a],[]=>⟨_,N5y a,fun(t:(List Int))=>(.slc 0,[some (sI t)]),[],none⟩
 |_,_=>Ans.no
theorem Nt6:Sound Tryz.prog 134 Nd9:=by
 refine fn_sound' (C:=N4c) (c:=bodyOf Tryz.f134) (cok_of tys_ok (allc Nzp (allc N12m alln)) (allc Tryz.call174 (allc Tryz.call175 alln)) (by kernel_rfl)) Tryz.func134 (by kernel_rfl) LL N25 ?_
 intro avs H r H' h
 unfold Nd9 at h
 split at h
 ·refine Awp.cast ?_ ?_ ?_ (Nw6 _ h)<;>kernel_rfl
 ·simp[Ans.no,Ans.run] at h
def Nf1:Ann:=(.seq (.leaf [0,1,2]) (.seq (.leaf [0,1,2,7,8]) (.seq (.leaf [0,1,8]) (.seq (.leaf [6]) (.leaf [6])))))
def N4m:Ann:=(.seq (.leaf [0,1,2]) (.seq (.seq (.leaf [0,1,10,11,12]) (.block (.loop (.seq (.leaf [0,1,10,11,12,13]) (.seq (.cond (.leaf [0,1,10,11,12]) (.leaf [0])) (.seq (.block (.seq (.leaf [0,1,8,10,11,12]) (.leaf [0,1,10,11,12]))) (.leaf [0,1,10,11,12]))))))) (.seq (.leaf [6]) (.leaf [6]))))
def N19 (n:Nat):Fun:=fun avs H=>
 match avs,H with
 |[.slc 0,.dat (.list (.int .i64)) a,.dat (.int .i64) b],[some (.seq (.int .i64) c)]=>⟨_,Nm n a b c,fun(t:(List Int))=>(.slc 0,[some (sI t)]),[0],none⟩
 |_,_=>Ans.no
def N1c (n:Nat):Fun:=fun avs H=>
 match avs,H with
 |[.slc 0,.dat (.list (.int .i64)) a,.dat (.int .u64) b],[some (.seq (.int .i64) c)]=>⟨_,N27 n a b c,fun(t:(List Int))=>(.slc 0,[some (sI t)]),[0],none⟩
 |_,_=>Ans.no
noncomputable def Niw (n:Nat):Ctx:=⟨tlook tys,olook [(187,Ng0),(188,N1c n)],ioF,1,false,[0]⟩
noncomputable def N55 (n:Nat):Ctx:=⟨tlook tys,olook [(134,Nd9),(150,N19 n)],ioF,1,false,[0]⟩
theorem Ntw (n:Nat) (a:List Int) (b:Int) (c:List Int):Link (Niw n) LL (bodyOf Tryz.f150) Nf1 ⟨mkE 26 0 [(0,.slc 0),(1,dL a),(2,dI b)],[some (sI c)]⟩ (N6k (Nm n) (N27 n) a b c) (fun(t:(List Int))=>(Exit.ret,⟨mkE 26 0 [(6,.slc 0)],[some (sI t)]⟩)):= .of fun K h=>by
 simp only[N6k,wpW] at h
 exact .of (by kernel_rfl) h
theorem Nxk (n:Nat) (a:List Int) (b:Int) (c:List Int) {r:AV} {H':Heap} (h:(Ans.mk _ (Nm (n+1) a b c) (fun(t:(List Int))=>(.slc 0,[some (sI t)])) [0] none).run=some (r,H')):Awp (Niw n) LL (bodyOf Tryz.f150) Nf1 ⟨mkE 26 0 [(0,.slc 0),(1,dL a),(2,dI b)],[some (sI c)]⟩ (Ret (tlook tys) Tryz.f150.results.toList r H'):=
 ret_of' (Ntw n a b c) (by(show _=_);kernel_rfl) (by
 intro t
 exact ret_mk [.slc 0] (by kernel_rfl) (by kernel_rfl) (by kernel_rfl) (by kernel_rfl)) h
theorem Nqe (n:Nat) (a:List Int) (b:Int) (c:List Int):Link (N55 n) LL (cq [0] (bodyOf Tryz.f188)) (aq [0] N4m) ⟨mkE 22 0 [(0,.slc 0),(1,dL a),(2,dW b)],[some (sI c)]⟩ (N88 (Nm n) (N27 n)) (fun(t:Unit)=>(Exit.normal,⟨mkE 22 0 [(0,.slc 0),(1,dL a),(2,dW b)],[some (sI c)]⟩)):= .of fun K h=>by
 simp only[N88,wpW] at h
 exact .of (by kernel_rfl) h
theorem Ny9 (n:Nat) (a:List Int) (b:Int) (c:List Int):Link (N55 n) LL (cq [0,0,1] (bodyOf Tryz.f188)) (aq [0,0,1] N4m) ⟨mkE 22 0 [(0,.slc 0),(1,dL a),(2,dW b)],[some (sI c)]⟩ (N9c (Nm n) (N27 n) b) (fun(t:Int×(List Int))=>(Exit.normal,⟨mkE 22 0 [(0,.slc 0),(1,dL a),(10,.slc 1),(11,dI t.1),(12,dI 0)],[some (sI c),some (sI t.2)]⟩)):= .of fun K h=>by
 simp only[N9c,wpW] at h
 exact .of (by kernel_rfl) h
theorem N12g (n:Nat) (a:List Int) (b c:Int) (d g:List Int):Link (N55 n) LL (cq [0,0,1,0,1] (bodyOf Tryz.f188)) (aq [0,0,1,0,1] N4m) ⟨mkE 22 0 [(0,.slc 0),(1,dL a),(10,.slc 1),(11,dI b),(12,dI c)],[some (sI d),some (sI g)]⟩ (N5w (Nm n) (N27 n) a b c d g) (Sum.elim (fun(t:Int×(List Int))=>(Exit.normal,⟨mkE 22 0 [(0,.slc 0),(1,dL a),(10,.slc 1),(11,dI b),(12,dI t.1)],[some (sI t.2),some (sI g)]⟩)) (fun(t:(List Int))=>((Exit.exit 0),⟨mkE 22 0 [(0,.slc 0)],[some (sI t)]⟩))):= .of fun K h=>by
 simp only[N5w,wpW] at h
 exact .of (by kernel_rfl) h
theorem Nq6 (n:Nat) (a:List Int):Link (N55 n) LL (cq [1,1] (bodyOf Tryz.f188)) (aq [1,1] N4m) ⟨mkE 22 0 [(0,.slc 0)],[some (sI a)]⟩ (Na2 (Nm n) (N27 n) a) (fun(t:(List Int))=>(Exit.ret,⟨mkE 22 0 [(6,.slc 0)],[some (sI t)]⟩)):= .of fun K h=>by
 simp only[Na2,wpW] at h
 exact .of (by kernel_rfl) h
theorem N17v (n:Nat) (a:List Int) (b:Int) (c:List Int) {r:AV} {H':Heap} (h:(Ans.mk _ (N27 (n+1) a b c) (fun(t:(List Int))=>(.slc 0,[some (sI t)])) [0] none).run=some (r,H')):Awp (N55 n) LL (bodyOf Tryz.f188) N4m ⟨mkE 22 0 [(0,.slc 0),(1,dL a),(2,dW b)],[some (sI c)]⟩ (Ret (tlook tys) Tryz.f188.results.toList r H'):=
 ret_of' (Link.cast (by kernel_rfl) (by kernel_rfl) (link_seq (Nqe n a b c) (fun(t:Unit)=>(link_seq (link_seq (Ny9 n a b c) (fun(t:Int×(List Int))=>(link_block (fin2:=(fun(t19:(List Int))=>(Exit.normal,⟨mkE 22 0 [(0,.slc 0)],[some (sI t19)]⟩))) (id:=0) (link_loop (mk:=fun(s:Int×(List Int))=>⟨mkE 22 0 [(0,.slc 0),(1,dL a),(10,.slc 1),(11,dI t.1),(12,dI s.1)],[some (sI s.2),some (sI t.2)]⟩) (fin:=(fun(t19:(List Int))=>((Exit.exit 0),⟨mkE 22 0 [(0,.slc 0)],[some (sI t19)]⟩))) (by
 rintro t19 f K h
 ·exact h) (fun s=>link_map (N12g n a t.1 s.1 s.2 t.2) (Sum.elim (fun(t19:Int×(List Int))=>Sum.inl (t19.1,t19.2)) (fun(t19:(List Int))=>Sum.inr t19)) (by
 rintro(t19|t19)
 ·kernel_rfl
 ·kernel_rfl)) (0,c)) (fun(t19:(List Int))=>t19) (by
 rintro t19 K h
 ·exact Eq.mp (by kernel_rfl) h)))) (fun(t:(List Int))=>(Nq6 n t)))))) (by(show _=_);kernel_rfl) (by
 intro t
 exact ret_mk [.slc 0] (by kernel_rfl) (by kernel_rfl) (by kernel_rfl) (by kernel_rfl)) h
theorem Nzu (n:Nat) (h150:Sound Tryz.prog 150 (N19 n)) (h188:Sound Tryz.prog 188 (N1c n)):Sound Tryz.prog 150 (N19 (n+1)):=by
 refine fn_sound' (C:=Niw n) (c:=bodyOf Tryz.f150) (cok_of tys_ok (allc Nwj (allc h188 alln)) (allc Tryz.call187 (allc Tryz.call188 alln)) (by kernel_rfl)) Tryz.func150 (by kernel_rfl) LL Nf1 ?_
 intro avs H r H' h
 unfold N19 at h
 split at h
 ·refine Awp.cast ?_ ?_ ?_ (Nxk n _ _ _ h)<;>kernel_rfl
 ·simp[Ans.no,Ans.run] at h
theorem Nrq:Sound Tryz.prog 150 (N19 0):=by
 intro avs H r H' h
 unfold N19 at h
 split at h
 ·simp[Nm,N5,Ans.run] at h
 ·simp[Ans.no,Ans.run] at h
theorem Nsv (n:Nat) (h150:Sound Tryz.prog 150 (N19 n)) (h188:Sound Tryz.prog 188 (N1c n)):Sound Tryz.prog 188 (N1c (n+1)):=by
 refine fn_sound' (C:=N55 n) (c:=bodyOf Tryz.f188) (cok_of tys_ok (allc Nt6 (allc h150 alln)) (allc Tryz.call134 (allc Tryz.call150 alln)) (by kernel_rfl)) Tryz.func188 (by kernel_rfl) LL N4m ?_
 intro avs H r H' h
 unfold N1c at h
 split at h
 ·refine Awp.cast ?_ ?_ ?_ (N17v n _ _ _ h)<;>kernel_rfl
 ·simp[Ans.no,Ans.run] at h
theorem N14n:Sound Tryz.prog 188 (N1c 0):=by
 intro avs H r H' h
 unfold N1c at h
 split at h
 ·simp[N27,N5,Ans.run] at h
 ·simp[Ans.no,Ans.run] at h
theorem Ngd: ∀n,Sound Tryz.prog 150 (N19 n)∧Sound Tryz.prog 188 (N1c n)
 |0=>⟨Nrq,N14n⟩
 |n+1=>by
  obtain⟨h150,h188⟩:=Ngd n
  exact⟨Nzu n h150 h188,Nsv n h150 h188⟩
def N8f:Fun:=fun avs H=>
 match avs,H with
 |[.slc 0,.dat (.list (.int .i64)) a,.dat (.int .i64) b],[some (.seq (.int .i64) c)]=>⟨_,N7d a b c,fun(t:(List Int))=>(.slc 0,[some (sI t)]),[0],none⟩
 |_,_=>Ans.no
theorem N101:Sound Tryz.prog 150 N8f:=by
 have e:N8f=N19 RR:=by
  funext avs H
  unfold N8f N19
  split<;>first|rfl|(simp only[N7d])
 rw[e]
 exact(Ngd RR).1
def Nev:Fun:=fun avs H=>
 match avs,H with
 |[.slc 0,.dat (.list (.int .i64)) a,.dat (.int .u64) b],[some (.seq (.int .i64) c)]=>⟨_,No7 a b c,fun(t:(List Int))=>(.slc 0,[some (sI t)]),[0],none⟩
 |_,_=>Ans.no
theorem N18l:Sound Tryz.prog 188 Nev:=by
 have e:Nev=N1c RR:=by
  funext avs H
  unfold Nev N1c
  split<;>first|rfl|(simp only[No7])
 rw[e]
 exact(Ngd RR).2
def Nfo:Ann:=(.seq (.leaf [0]) (.seq (.seq (.leaf [0,5]) (.cond (.seq (.leaf [2]) (.leaf [2])) (.leaf [0]))) (.seq (.draw [5,100006] [0,1,3,4,5,2,6,7] [] [2]) (.leaf [2]))))
noncomputable def Ncu:Ctx:=⟨tlook tys,olook [(39,N17),(117,Ncz),(150,N8f)],ioF,0,false,[]⟩
theorem N16y (a:List Int):Link Ncu LL (bodyOf Tryz.f116) Nfo ⟨mkE 13 0 [(0,dL a)],[]⟩ (N7k a) (fun(t:(List Int))=>(Exit.ret,⟨mkE 13 0 [(2,.slc 0)],[some (sI t)]⟩)):= .of fun K h=>by
 simp only[N7k,wpW] at h
 exact .of (by kernel_rfl) h
theorem Nr8 (a:List Int) {r:AV} {H':Heap} (h:(Ans.mk _ (N2x a) (fun(t:(List Int))=>(.slc 0,[some (sI t)])) [] none).run=some (r,H')):Awp Ncu LL (bodyOf Tryz.f116) Nfo ⟨mkE 13 0 [(0,dL a)],[]⟩ (Ret (tlook tys) Tryz.f116.results.toList r H'):=
 ret_of' (N16y a) (by unfold N2x;kernel_rfl) (by
 intro t
 exact ret_mk [.slc 0] (by kernel_rfl) (by kernel_rfl) (by kernel_rfl) (by kernel_rfl)) h
def Ndk:Fun:=fun avs H=>
 match avs,H with
 |[.dat (.list (.int .i64)) a],[]=>⟨_,N2x a,fun(t:(List Int))=>(.slc 0,[some (sI t)]),[],none⟩
 |_,_=>Ans.no
theorem N11h:Sound Tryz.prog 116 Ndk:=by
 refine fn_sound' (C:=Ncu) (c:=bodyOf Tryz.f116) (cok_of tys_ok (allc N2f (allc N13l (allc N101 alln))) (allc Tryz.call39 (allc Tryz.call117 (allc Tryz.call150 alln))) (by kernel_rfl)) Tryz.func116 (by kernel_rfl) LL Nfo ?_
 intro avs H r H' h
 unfold Ndk at h
 split at h
 ·refine Awp.cast ?_ ?_ ?_ (Nr8 _ h)<;>kernel_rfl
 ·simp[Ans.no,Ans.run] at h
def Ng3:Ann:=(.seq (.leaf [0]) (.seq (.leaf [3]) (.seq (.leaf [2]) (.leaf [2]))))
noncomputable def Ni0:Ctx:=⟨tlook tys,olook [(116,Ndk),(176,Nar)],ioF,0,false,[]⟩
theorem N16p (a:List Int):Link Ni0 LL (bodyOf Tryz.f136) Ng3 ⟨mkE 13 0 [(0,dL a)],[]⟩ (N73 a) (fun(t:(List Int))=>(Exit.ret,⟨mkE 13 0 [(2,.slc 0)],[some (sI t)]⟩)):= .of fun K h=>by
 simp only[N73,wpW] at h
 exact .of (by kernel_rfl) h
theorem N14a (a:List Int) {r:AV} {H':Heap} (h:(Ans.mk _ (N3e a) (fun(t:(List Int))=>(.slc 0,[some (sI t)])) [] none).run=some (r,H')):Awp Ni0 LL (bodyOf Tryz.f136) Ng3 ⟨mkE 13 0 [(0,dL a)],[]⟩ (Ret (tlook tys) Tryz.f136.results.toList r H'):=
 ret_of' (N16p a) (by unfold N3e;kernel_rfl) (by
 intro t
 exact ret_mk [.slc 0] (by kernel_rfl) (by kernel_rfl) (by kernel_rfl) (by kernel_rfl)) h
def Nde:Fun:=fun avs H=>
 match avs,H with
 |[.dat (.list (.int .i64)) a],[]=>⟨_,N3e a,fun(t:(List Int))=>(.slc 0,[some (sI t)]),[],none⟩
 |_,_=>Ans.no
theorem N15x:Sound Tryz.prog 136 Nde:=by
 refine fn_sound' (C:=Ni0) (c:=bodyOf Tryz.f136) (cok_of tys_ok (allc N11h (allc Nnh alln)) (allc Tryz.call116 (allc Tryz.call176 alln)) (by kernel_rfl)) Tryz.func136 (by kernel_rfl) LL Ng3 ?_
 intro avs H r H' h
 unfold Nde at h
 split at h
 ·refine Awp.cast ?_ ?_ ?_ (N14a _ h)<;>kernel_rfl
 ·simp[Ans.no,Ans.run] at h
def Nd4:Ann:=(.seq (.leaf [0,3]) (.seq (.seq (.leaf [0,3,7]) (.block (.seq (.leaf [0,3,7,8]) (.cond (.seq (.seq (.leaf [0,3,14]) (.cond (.seq (.leaf [4]) (.leaf [4])) (.leaf [0,3]))) (.seq (.leaf [3,5]) (.seq (.leaf [5]) (.seq (.leaf [4]) (.leaf [4]))))) (.seq (.leaf [0,3,7,25]) (.cond (.seq (.draw [1,4] [0,2,3,4,1,5,6] [] [4]) (.leaf [4])) (.seq (.leaf [0,7,33]) (.cond (.seq (.leaf [4]) (.leaf [4])) (.seq (.leaf [0,7,41]) (.cond (.seq (.leaf [4]) (.leaf [4])) (.seq (.leaf [0,45]) (.cond (.seq (.leaf [4]) (.leaf [4])) (.leaf []))))))))))))) (.seq (.leaf [4]) (.leaf [4]))))
noncomputable def Nik:Ctx:=⟨tlook tys,olook [(132,Ngg),(52,Nhm),(135,Nhh),(136,Nde)],ioF,0,false,[]⟩
theorem N14r (a:List Int) (b c d:Int):Link Nik LL (bodyOf Tryz.f93) Nd4 ⟨mkE 49 0 [(0,dL a),(1,.agg [dI b,dI c,dI d])],[]⟩ (N6o a b c d) (fun(t:(List Int))=>(Exit.ret,⟨mkE 49 0 [(4,.slc 0)],[some (sI t)]⟩)):= .of fun K h=>by
 simp only[N6o,wpW] at h
 exact .of (by kernel_rfl) h
theorem N17j (a:List Int) (b c d:Int) {r:AV} {H':Heap} (h:(Ans.mk _ (N35 a b c d) (fun(t:(List Int))=>(.slc 0,[some (sI t)])) [] none).run=some (r,H')):Awp Nik LL (bodyOf Tryz.f93) Nd4 ⟨mkE 49 0 [(0,dL a),(1,.agg [dI b,dI c,dI d])],[]⟩ (Ret (tlook tys) Tryz.f93.results.toList r H'):=
 ret_of' (N14r a b c d) (by unfold N35;kernel_rfl) (by
 intro t
 exact ret_mk [.slc 0] (by kernel_rfl) (by kernel_rfl) (by kernel_rfl) (by kernel_rfl)) h
def Nee:Fun:=fun avs H=>
 match avs,H with
 |[.dat (.list (.int .i64)) a,.agg [.dat (.int .i64) b,.dat (.int .i64) c,.dat (.int .i64) d]],[]=>⟨_,N35 a b c d,fun(t:(List Int))=>(.slc 0,[some (sI t)]),[],none⟩
 |_,_=>Ans.no
theorem Nqd:Sound Tryz.prog 93 Nee:=by
 refine fn_sound' (C:=Nik) (c:=bodyOf Tryz.f93) (cok_of tys_ok (allc N16e (allc Nky (allc Nsu (allc N15x alln)))) (allc Tryz.call132 (allc Tryz.call52 (allc Tryz.call135 (allc Tryz.call136 alln)))) (by kernel_rfl)) Tryz.func93 (by kernel_rfl) LL Nd4 ?_
 intro avs H r H' h
 unfold Nee at h
 split at h
 ·refine Awp.cast ?_ ?_ ?_ (N17j _ _ _ _ h)<;>kernel_rfl
 ·simp[Ans.no,Ans.run] at h
def N29:Ann:=(.seq (.leaf [0,1]) (.seq (.seq (.leaf [0,1,10]) (.cond (.seq (.leaf [4]) (.leaf [4])) (.leaf [0,1]))) (.seq (.seq (.leaf [0,1,12,13]) (.block (.loop (.seq (.leaf [0,1,12,13,14]) (.seq (.cond (.leaf [0,1,12,13]) (.leaf [])) (.seq (.block (.seq (.leaf [0,1,5,12,13]) (.seq (.draw [] [0,1,2,3,4,5,6,7,8] [] [0,1,12,13,24]) (.cond (.seq (.leaf [4]) (.leaf [4])) (.leaf [0,1,12,13]))))) (.leaf [0,1,12,13]))))))) (.seq (.leaf [4]) (.leaf [4])))))
noncomputable def N4y:Ctx:=⟨tlook tys,olook [],ioF,0,false,[]⟩
theorem N150 (a b:List Int):Link N4y LL (Code.seq (cq [0] (bodyOf Tryz.f94)) (cq [0,1] (bodyOf Tryz.f94))) (Ann.seq (aq [0] N29) (aq [0,1] N29)) ⟨mkE 26 0 [(0,dL a),(1,dL b)],[]⟩ (Nae a b) (Sum.elim (fun(t:Unit)=>(Exit.normal,⟨mkE 26 0 [(0,dL a),(1,dL b)],[]⟩)) (fun(t:Bool)=>(Exit.ret,⟨mkE 26 0 [(4,dB t)],[]⟩))):= .of fun K h=>by
 simp only[Nae,wpW] at h
 exact .of (by kernel_rfl) h
theorem N175 (a b:List Int):Link N4y LL (cq [0,0,1,1] (bodyOf Tryz.f94)) (aq [0,0,1,1] N29) ⟨mkE 26 0 [(0,dL a),(1,dL b)],[]⟩ (N91 a) (fun(t:Int)=>(Exit.normal,⟨mkE 26 0 [(0,dL a),(1,dL b),(12,dI t),(13,dI 0)],[]⟩)):= .of fun K h=>by
 simp only[N91,wpW] at h
 exact .of (by kernel_rfl) h
theorem Nxi (a b:List Int) (c d:Int):Link N4y LL (cq [0,0,1,0,1,1] (bodyOf Tryz.f94)) (aq [0,0,1,0,1,1] N29) ⟨mkE 26 0 [(0,dL a),(1,dL b),(12,dI c),(13,dI d)],[]⟩ (N3u a b c d) (Sum.elim (fun(t:Int)=>(Exit.normal,⟨mkE 26 0 [(0,dL a),(1,dL b),(12,dI c),(13,dI t)],[]⟩)) (Sum.elim (fun(t:Bool)=>(Exit.ret,⟨mkE 26 0 [(4,dB t)],[]⟩)) (fun(t:Unit)=>((Exit.exit 0),⟨mkE 26 0 [],[]⟩)))):= .of fun K h=>by
 simp only[N3u,wpW] at h
 exact .of (by kernel_rfl) h
theorem Nri:Link N4y LL (cq [1,1,1] (bodyOf Tryz.f94)) (aq [1,1,1] N29) ⟨mkE 26 0 [],[]⟩ (Nes) (fun(t:Bool)=>(Exit.ret,⟨mkE 26 0 [(4,dB t)],[]⟩)):= .of fun K h=>by
 simp only[Nes,wpW] at h
 exact .of (by kernel_rfl) h
theorem N15l (b d:List Int) {r:AV} {H':Heap} (h:(Ans.mk _ (N3n b d) (fun(t:Bool)=>(dB t,[])) [] none).run=some (r,H')):Awp N4y LL (bodyOf Tryz.f94) N29 ⟨mkE 26 0 [(0,dL b),(1,dL d)],[]⟩ (Ret (tlook tys) Tryz.f94.results.toList r H'):=
 ret_of' (Link.cast (by kernel_rfl) (by kernel_rfl) (link_group (c:=(cq [0,1] (bodyOf Tryz.f94))) (a:=(aq [0,1] N29)) [(cq [0] (bodyOf Tryz.f94))] [(aq [0] N29)] rfl (link_seq2 (N150 b d) (fun(t:Unit)=>(link_seq2 (link_seq (N175 b d) (fun(t:Int)=>(link_block (fin2:=(Sum.elim (fun(t20:Unit)=>(Exit.normal,⟨mkE 26 0 [],[]⟩)) (fun(t20:Bool)=>(Exit.ret,⟨mkE 26 0 [(4,dB t20)],[]⟩)))) (id:=0) (link_loop (mk:=fun(s:Int)=>⟨mkE 26 0 [(0,dL b),(1,dL d),(12,dI t),(13,dI s)],[]⟩) (fin:=(Sum.elim (fun(t20:Bool)=>(Exit.ret,⟨mkE 26 0 [(4,dB t20)],[]⟩)) (fun(t20:Unit)=>((Exit.exit 0),⟨mkE 26 0 [],[]⟩)))) (by
 rintro(t20|t20) f K h
 ·exact h
 ·exact h) (fun s=>link_map (Nxi b d t s) (Sum.elim (fun(t20:Int)=>Sum.inl t20) (Sum.elim (fun(t20:Bool)=>Sum.inr (Sum.inl t20)) (fun(t20:Unit)=>Sum.inr (Sum.inr t20)))) (by
 rintro(t20|t20|t20)
 ·kernel_rfl
 ·kernel_rfl
 ·kernel_rfl)) 0) (Sum.elim (fun(t20:Bool)=>(Sum.inr t20)) (fun(t20:Unit)=>(Sum.inl ()))) (by
 rintro(t20|t20) K h
 ·exact Eq.mp (by kernel_rfl) h
 ·exact Eq.mp (by kernel_rfl) h)))) (fun(t:Unit)=>(Nri)) (fun(t:Bool)=>t) (by
 rintro t
 ·kernel_rfl) (by
 rintro t f K h
 ·exact h))) (fun(t:Bool)=>t) (by
 rintro t
 ·kernel_rfl) (by
 rintro t f K h
 ·exact h)))) (by unfold N3n;kernel_rfl) (by
 intro t
 exact ret_mk [dB t] (by kernel_rfl) (by kernel_rfl) (by kernel_rfl) (by kernel_rfl)) h
def Ni1:Fun:=fun avs H=>
 match avs,H with
 |[.dat (.list (.int .i64)) a,.dat (.list (.int .i64)) b],[]=>⟨_,N3n a b,fun(t:Bool)=>(dB t,[]),[],none⟩
 |_,_=>Ans.no
theorem N18c:Sound Tryz.prog 94 Ni1:=by
 refine fn_sound' (C:=N4y) (c:=bodyOf Tryz.f94) (cok_of tys_ok (alln) (alln) (by kernel_rfl)) Tryz.func94 (by kernel_rfl) LL N29 ?_
 intro avs H r H' h
 unfold Ni1 at h
 split at h
 ·refine Awp.cast ?_ ?_ ?_ (N15l _ _ h)<;>kernel_rfl
 ·simp[Ans.no,Ans.run] at h
def ren_slices_Clone_ints_int:Go.Shelf.Ren:=⟨fun|41=>95|n=>n,fun|4=>4|22=>29|23=>28|n=>n,fun n=>n⟩
theorem lay_slices_Clone_ints_int:SlLaysE0.n41 Tryz.prog ren_slices_Clone_ints_int:={
 mixed:=by kernel_rfl
 f41:=⟨Tryz.f95.name,by kernel_rfl,Tryz.func95.trans (congrArg some (by kernel_rfl))⟩
 t4:=Tryz.underlying4
 a4:=Tryz.isAgg4
 z4:=Tryz.sizeOf4
 v4:=Tryz.zeroValue4
 t22:=Tryz.underlying29
 a22:=Tryz.isAgg29
 z22:=Tryz.sizeOf29
 v22:=Tryz.zeroValue29}
def Nou:Fun:=F_cloneD
theorem N114:Sound Tryz.prog 95 Nou:=cloneD_sound lay_slices_Clone_ints_int (infoOf (Tryz.prog.info? 28)) (.slice none 0 0) 24 (by kernel_rfl) (by kernel_rfl) (by kernel_rfl) (by kernel_rfl) (by kernel_rfl) (by decide) Tryz.sizeOf28
def Nd0:Ann:=(.seq (.leaf [2,3,4]) (.seq (.leaf [2,4,6]) (.seq (.seq (.leaf [2,4,6,20]) (.cond (.seq (.leaf [4,5]) (.leaf [4,5])) (.leaf [2,4,6]))) (.seq (.draw [2,5] [0,1,3,4,5,2,6,7] [] [4,6,7]) (.seq (.leaf [4,5]) (.leaf [4,5]))))))
noncomputable def Nem:Ctx:=⟨tlook tys,olook [(93,Nee),(39,N17),(29,N3q),(94,Ni1),(95,Nou)],ioF,0,true,[]⟩
theorem N12z (a:List Int) (b:List (List Int)) (c d g:Int):Link Nem LL (bodyOf Tryz.f58) Nd0 ⟨mkE 41 0 [(0,.agg [dL a,.dat (.list (.list (.int .i64))) b]),(1,.agg [dI c,dI d,dI g])],[]⟩ (N6q a b c d g) (fun(t:Bool×(List Int)×(List (List Int)))=>(Exit.ret,⟨mkE 41 0 [(4,.ptr 0 0),(5,dB t.1)],[some (.box [.slc 1,.slc 2]),some (sI t.2.1),some (.nest (.int .i64) t.2.2 0 [])]⟩)):= .of fun K h=>by
 simp only[N6q,wpW] at h
 exact .of (by kernel_rfl) h
theorem Nx7 (a:List Int) (b:List (List Int)) (c d g:Int) {r:AV} {H':Heap} (h:(Ans.mk _ (N3c a b c d g) (fun(t:Bool×(List Int)×(List (List Int)))=>(.tup [.agg [.slc 1,.slc 2],dB t.1],[some (.box [.slc 1,.slc 2]),some (sI t.2.1),some (.nest (.int .i64) t.2.2 0 [])])) [] none).run=some (r,H')):Awp Nem LL (bodyOf Tryz.f58) Nd0 ⟨mkE 41 0 [(0,.agg [dL a,.dat (.list (.list (.int .i64))) b]),(1,.agg [dI c,dI d,dI g])],[]⟩ (Ret (tlook tys) Tryz.f58.results.toList r H'):=
 ret_of' (N12z a b c d g) (by unfold N3c;kernel_rfl) (by
 intro t
 exact ret_mk [.agg [.slc 1,.slc 2],dB t.1] (by kernel_rfl) (by kernel_rfl) (by kernel_rfl) (by kernel_rfl)) h
def Ndm:Fun:=fun avs H=>
 match avs,H with
 |[.agg [.dat (.list (.int .i64)) a,.dat (.list (.list (.int .i64))) b],.agg [.dat (.int .i64) c,.dat (.int .i64) d,.dat (.int .i64) g]],[]=>⟨_,N3c a b c d g,fun(t:Bool×(List Int)×(List (List Int)))=>(.tup [.agg [.slc 1,.slc 2],dB t.1],[some (.box [.slc 1,.slc 2]),some (sI t.2.1),some (.nest (.int .i64) t.2.2 0 [])]),[],none⟩
 |_,_=>Ans.no
theorem Ntl:Sound Tryz.prog 58 Ndm:=by
 refine fn_sound' (C:=Nem) (c:=bodyOf Tryz.f58) (cok_of tys_ok (allc Nqd (allc N2f (allc N6z (allc N18c (allc N114 alln))))) (allc Tryz.call93 (allc Tryz.call39 (allc Tryz.call29 (allc Tryz.call94 (allc Tryz.call95 alln))))) (by kernel_rfl)) Tryz.func58 (by kernel_rfl) LL Nd0 ?_
 intro avs H r H' h
 unfold Ndm at h
 split at h
 ·refine Awp.cast ?_ ?_ ?_ (Nx7 _ _ _ _ _ h)<;>kernel_rfl
 ·simp[Ans.no,Ans.run] at h
def Nij:Ann:=(.seq (.leaf [2,3,4]) (.seq (.seq (.leaf [2,3,4,8]) (.cond (.seq (.leaf [4,5]) (.leafF [⟨0,4,false,some 0,some (.int .i64)⟩,⟨0,4,true,some 1,some (.int .i64)⟩] [4,5])) (.leaf [2,3,4]))) (.seq (.seq (.leaf [2,3,4,12]) (.cond (.seq (.leaf [4,5]) (.leaf [4,5])) (.leaf [2,3,4]))) (.seq (.seq (.leaf [2,3,4,20]) (.cond (.seq (.leaf [4,5]) (.leaf [4,5])) (.leaf [2,3,4]))) (.seq (.leaf [4,5]) (.leaf [4,5]))))))
noncomputable def Ndh:Ctx:=⟨tlook tys,olook [(28,N72),(56,Nam),(29,N3q),(57,Nho),(58,Ndm)],ioF,0,true,[]⟩
theorem N10o (a:List Int) (b:List (List Int)) (c d g:Int):Link Ndh LL (bodyOf Tryz.f31) Nij ⟨mkE 30 0 [(0,.agg [dL a,.dat (.list (.list (.int .i64))) b]),(1,.agg [dI c,dI d,dI g])],[]⟩ (N6f a b c d g) (fun(t:Bool×(List Int)×(List (List Int)))=>(Exit.ret,⟨mkE 30 0 [(4,.ptr 0 0),(5,dB t.1)],[some (.box [.slc 1,.slc 2]),some (sI t.2.1),some (.nest (.int .i64) t.2.2 0 [])]⟩)):= .of fun K h=>by
 simp only[N6f,wpW] at h
 exact .of (by kernel_rfl) h
theorem N165 (a:List Int) (b:List (List Int)) (c d g:Int) {r:AV} {H':Heap} (h:(Ans.mk _ (N2t a b c d g) (fun(t:Bool×(List Int)×(List (List Int)))=>(.tup [.agg [.slc 1,.slc 2],dB t.1],[some (.box [.slc 1,.slc 2]),some (sI t.2.1),some (.nest (.int .i64) t.2.2 0 [])])) [] none).run=some (r,H')):Awp Ndh LL (bodyOf Tryz.f31) Nij ⟨mkE 30 0 [(0,.agg [dL a,.dat (.list (.list (.int .i64))) b]),(1,.agg [dI c,dI d,dI g])],[]⟩ (Ret (tlook tys) Tryz.f31.results.toList r H'):=
 ret_of' (N10o a b c d g) (by unfold N2t;kernel_rfl) (by
 intro t
 exact ret_mk [.agg [.slc 1,.slc 2],dB t.1] (by kernel_rfl) (by kernel_rfl) (by kernel_rfl) (by kernel_rfl)) h
def Nbp:Fun:=fun avs H=>
 match avs,H with
 |[.agg [.dat (.list (.int .i64)) a,.dat (.list (.list (.int .i64))) b],.agg [.dat (.int .i64) c,.dat (.int .i64) d,.dat (.int .i64) g]],[]=>⟨_,N2t a b c d g,fun(t:Bool×(List Int)×(List (List Int)))=>(.tup [.agg [.slc 1,.slc 2],dB t.1],[some (.box [.slc 1,.slc 2]),some (sI t.2.1),some (.nest (.int .i64) t.2.2 0 [])]),[],none⟩
 |_,_=>Ans.no
theorem Njv:Sound Tryz.prog 31 Nbp:=by
 refine fn_sound' (C:=Ndh) (c:=bodyOf Tryz.f31) (cok_of tys_ok (allc Nej (allc Nlp (allc N6z (allc N11c (allc Ntl alln))))) (allc Tryz.call28 (allc Tryz.call56 (allc Tryz.call29 (allc Tryz.call57 (allc Tryz.call58 alln))))) (by kernel_rfl)) Tryz.func31 (by kernel_rfl) LL Nij ?_
 intro avs H r H' h
 unfold Nbp at h
 split at h
 ·refine Awp.cast ?_ ?_ ?_ (N165 _ _ _ _ _ h)<;>kernel_rfl
 ·simp[Ans.no,Ans.run] at h
def Nd5:Ann:=(.seq (.leaf [1,2,4]) (.seq (.seq (.leaf [1,2,4,12]) (.cond (.seq (.leaf [4,5]) (.leafF [⟨0,4,false,some 0,some (.int .i64)⟩,⟨0,4,true,some 1,some (.int .i64)⟩] [4,5])) (.leaf [1,2,4]))) (.seq (.leaf [1,2,4,6,7]) (.seq (.seq (.leaf [1,2,4,6,20]) (.cond (.seq (.draw [4,7] [0,1,2,3,5,6,4,7,8,9] [] [4,5]) (.leaf [4,5])) (.leaf [2,4,6]))) (.seq (.leaf [4,8,9]) (.seq (.seq (.leaf [4,8,36]) (.cond (.seq (.leaf [4,5]) (.leaf [4,5])) (.leaf [4,8]))) (.seq (.leaf [4,5]) (.leaf [4,5]))))))))
noncomputable def Nhb:Ctx:=⟨tlook tys,olook [(28,N72),(22,Nax),(29,N3q),(31,Nbp)],ioF,0,true,[]⟩
theorem Nwe (a:List Int) (b:List (List Int)) (c:ByteArray):Link Nhb LL (bodyOf Tryz.f10) Nd5 ⟨mkE 39 0 [(0,.agg [dL a,.dat (.list (.list (.int .i64))) b]),(1,dS c)],[]⟩ (N76 a b c) (fun(t:ByteArray×(List Int)×(List (List Int)))=>(Exit.ret,⟨mkE 39 0 [(4,.ptr 0 0),(5,dS t.1)],[some (.box [.slc 1,.slc 2]),some (sI t.2.1),some (.nest (.int .i64) t.2.2 0 [])]⟩)):= .of fun K h=>by
 simp only[N76,wpW,wpO_none] at h
 exact .of (by kernel_rfl) h
theorem Nqy (a:List Int) (b:List (List Int)) (c:ByteArray) {r:AV} {H':Heap} (h:(Ans.mk _ (N1v a b c) (fun(t:ByteArray×(List Int)×(List (List Int)))=>(.tup [.agg [.slc 1,.slc 2],dS t.1],[some (.box [.slc 1,.slc 2]),some (sI t.2.1),some (.nest (.int .i64) t.2.2 0 [])])) [] none).run=some (r,H')):Awp Nhb LL (bodyOf Tryz.f10) Nd5 ⟨mkE 39 0 [(0,.agg [dL a,.dat (.list (.list (.int .i64))) b]),(1,dS c)],[]⟩ (Ret (tlook tys) Tryz.f10.results.toList r H'):=
 ret_of' (Nwe a b c) (by unfold N1v;kernel_rfl) (by
 intro t
 exact ret_mk [.agg [.slc 1,.slc 2],dS t.1] (by kernel_rfl) (by kernel_rfl) (by kernel_rfl) (by kernel_rfl)) h
def Ndr:Fun:=fun avs H=>
 match avs,H with
 |[.agg [.dat (.list (.int .i64)) a,.dat (.list (.list (.int .i64))) b],.dat .str c],[]=>⟨_,N1v a b c,fun(t:ByteArray×(List Int)×(List (List Int)))=>(.tup [.agg [.slc 1,.slc 2],dS t.1],[some (.box [.slc 1,.slc 2]),some (sI t.2.1),some (.nest (.int .i64) t.2.2 0 [])]),[],none⟩
 |_,_=>Ans.no
theorem N15p:Sound Tryz.prog 10 Ndr:=by
 refine fn_sound' (C:=Nhb) (c:=bodyOf Tryz.f10) (cok_of tys_ok (allc Nej (allc No4 (allc N6z (allc Njv alln)))) (allc Tryz.call28 (allc Tryz.call22 (allc Tryz.call29 (allc Tryz.call31 alln)))) (by kernel_rfl)) Tryz.func10 (by kernel_rfl) LL Nd5 ?_
 intro avs H r H' h
 unfold Ndr at h
 split at h
 ·refine Awp.cast ?_ ?_ ?_ (Nqy _ _ _ h)<;>kernel_rfl
 ·simp[Ans.no,Ans.run] at h
def Nz:Ann:=(.seq (.leaf [1,2,4]) (.seq (.seq (.leaf [1,2,4,19]) (.cond (.seq (.leaf [4,5]) (.leafF [⟨0,4,false,some 0,some (.int .i64)⟩,⟨0,4,true,some 1,some (.int .i64)⟩] [4,5])) (.leaf [1,2,4]))) (.seq (.leaf [1,4,6,7]) (.seq (.seq (.leaf [4,6,7,26,27,28]) (.block (.loop (.seq (.leaf [4,6,7,26,27,28,29]) (.seq (.cond (.leaf [4,6,7,26,27,28]) (.leaf [4,6,7])) (.seq (.block (.seq (.leaf [4,6,7,9,26,27,28]) (.seq (.leaf [4,6,7,10,11,26,27,28]) (.seq (.leaf [4,6,7,10,26,27,28,38]) (.cond (.seq (.leaf [4,6,7,26,27,28]) (.leaf [4,6,7,26,27,28])) (.leaf [4,6,7,26,27,28])))))) (.leaf [4,6,7,26,27,28]))))))) (.seq (.leaf [4,5]) (.leaf [4,5]))))))
noncomputable def N5s:Ctx:=⟨tlook tys,olook [(28,N72),(29,N3q),(31,Nbp)],ioF,0,true,[]⟩
theorem N11g (a:List Int) (b:List (List Int)) (c:List (Int×Int×Int×Unit)):Link N5s LL (Code.seq (cq [0] (bodyOf Tryz.f12)) (Code.seq (cq [0,1] (bodyOf Tryz.f12)) (cq [0,1,1] (bodyOf Tryz.f12)))) (Ann.seq (aq [0] Nz) (Ann.seq (aq [0,1] Nz) (aq [0,1,1] Nz))) ⟨mkE 45 0 [(0,.agg [dL a,.dat (.list (.list (.int .i64))) b]),(1,.dat (.list (.pair (.int .i64) (.pair (.int .i64) (.pair (.int .i64) .unit)))) c)],[]⟩ (N81 a b c) (Sum.elim (fun(t:(List Int)×(List (List Int)))=>(Exit.normal,⟨mkE 45 0 [(1,.dat (.list (.pair (.int .i64) (.pair (.int .i64) (.pair (.int .i64) .unit)))) c),(4,.ptr 0 0),(6,.ptr 1 0),(7,dI 0)],[some (.box [.nils,.nils]),some (.box [.slc 2,.slc 3]),some (sI t.1),some (.nest (.int .i64) t.2 0 [])]⟩)) (fun(t:Int×(List Int)×(List (List Int)))=>(Exit.ret,⟨mkE 45 0 [(4,.ptr 0 0),(5,dI t.1)],[some (.box [.slc 1,.slc 2]),some (sI t.2.1),some (.nest (.int .i64) t.2.2 0 [])]⟩))):= .of fun K h=>by
 simp only[N81,wpW] at h
 exact .of (by kernel_rfl) h
theorem N168 (a:List (Int×Int×Int×Unit)) (b:List Int) (c:List (List Int)):Link N5s LL (cq [0,0,1,1,1] (bodyOf Tryz.f12)) (aq [0,0,1,1,1] Nz) ⟨mkE 45 0 [(1,.dat (.list (.pair (.int .i64) (.pair (.int .i64) (.pair (.int .i64) .unit)))) a),(4,.ptr 0 0),(6,.ptr 1 0),(7,dI 0)],[some (.box [.nils,.nils]),some (.box [.slc 2,.slc 3]),some (sI b),some (.nest (.int .i64) c 0 [])]⟩ (Nbb a) (fun(t:Int)=>(Exit.normal,⟨mkE 45 0 [(4,.ptr 0 0),(6,.ptr 1 0),(7,dI 0),(26,.dat (.list (.pair (.int .i64) (.pair (.int .i64) (.pair (.int .i64) .unit)))) a),(27,dI t),(28,dI 0)],[some (.box [.nils,.nils]),some (.box [.slc 2,.slc 3]),some (sI b),some (.nest (.int .i64) c 0 [])]⟩)):= .of fun K h=>by
 simp only[Nbb,wpW] at h
 exact .of (by kernel_rfl) h
theorem Nwi (a:Int) (b:List (Int×Int×Int×Unit)) (c d:Int) (g:List Int) (i:List (List Int)):Link N5s LL (cq [0,0,1,0,1,1,1] (bodyOf Tryz.f12)) (aq [0,0,1,0,1,1,1] Nz) ⟨mkE 45 0 [(4,.ptr 0 0),(6,.ptr 1 0),(7,dI a),(26,.dat (.list (.pair (.int .i64) (.pair (.int .i64) (.pair (.int .i64) .unit)))) b),(27,dI c),(28,dI d)],[some (.box [.nils,.nils]),some (.box [.slc 2,.slc 3]),some (sI g),some (.nest (.int .i64) i 0 [])]⟩ (N5f a b c d g i) (Sum.elim (fun(t:Int×Int×(List Int)×(List (List Int)))=>(Exit.normal,⟨mkE 45 0 [(4,.ptr 0 0),(6,.ptr 1 0),(7,dI t.1),(26,.dat (.list (.pair (.int .i64) (.pair (.int .i64) (.pair (.int .i64) .unit)))) b),(27,dI c),(28,dI t.2.1)],[some (.box [.nils,.nils]),some (.box [.slc 2,.slc 3]),some (sI t.2.2.1),some (.nest (.int .i64) t.2.2.2 0 [])]⟩)) (fun(t:Int×(List Int)×(List (List Int)))=>((Exit.exit 0),⟨mkE 45 0 [(4,.ptr 0 0),(6,.ptr 1 0),(7,dI t.1)],[some (.box [.nils,.nils]),some (.box [.slc 2,.slc 3]),some (sI t.2.1),some (.nest (.int .i64) t.2.2 0 [])]⟩))):= .of fun K h=>by
 simp only[N5f,wpW] at h
 exact .of (by kernel_rfl) h
theorem Nur (a:Int) (b:List Int) (c:List (List Int)):Link N5s LL (cq [1,1,1,1] (bodyOf Tryz.f12)) (aq [1,1,1,1] Nz) ⟨mkE 45 0 [(4,.ptr 0 0),(6,.ptr 1 0),(7,dI a)],[some (.box [.nils,.nils]),some (.box [.slc 2,.slc 3]),some (sI b),some (.nest (.int .i64) c 0 [])]⟩ (N9q a b c) (fun(t:Int×(List Int)×(List (List Int)))=>(Exit.ret,⟨mkE 45 0 [(4,.ptr 0 0),(5,dI t.1)],[some (.box [.slc 1,.slc 2]),some (sI t.2.1),some (.nest (.int .i64) t.2.2 0 [])]⟩)):= .of fun K h=>by
 simp only[N9q,wpW] at h
 exact .of (by kernel_rfl) h
theorem Nug (b:List Int) (d:List (List Int)) (g:List (Int×Int×Int×Unit)) {r:AV} {H':Heap} (h:(Ans.mk _ (N2b b d g) (fun(t:Int×(List Int)×(List (List Int)))=>(.tup [.agg [.slc 1,.slc 2],dI t.1],[some (.box [.slc 1,.slc 2]),some (sI t.2.1),some (.nest (.int .i64) t.2.2 0 [])])) [] none).run=some (r,H')):Awp N5s LL (bodyOf Tryz.f12) Nz ⟨mkE 45 0 [(0,.agg [dL b,.dat (.list (.list (.int .i64))) d]),(1,.dat (.list (.pair (.int .i64) (.pair (.int .i64) (.pair (.int .i64) .unit)))) g)],[]⟩ (Ret (tlook tys) Tryz.f12.results.toList r H'):=
 ret_of' (Link.cast (by kernel_rfl) (by kernel_rfl) (link_group (c:=(cq [0,1,1] (bodyOf Tryz.f12))) (a:=(aq [0,1,1] Nz)) [(cq [0] (bodyOf Tryz.f12)),(cq [0,1] (bodyOf Tryz.f12))] [(aq [0] Nz),(aq [0,1] Nz)] rfl (link_seq2 (N11g b d g) (fun(t:(List Int)×(List (List Int)))=>(link_seq (link_seq (N168 g t.1 t.2) (fun(t37:Int)=>(link_block (fin2:=(fun(t21:Int×(List Int)×(List (List Int)))=>(Exit.normal,⟨mkE 45 0 [(4,.ptr 0 0),(6,.ptr 1 0),(7,dI t21.1)],[some (.box [.nils,.nils]),some (.box [.slc 2,.slc 3]),some (sI t21.2.1),some (.nest (.int .i64) t21.2.2 0 [])]⟩))) (id:=0) (link_loop (mk:=fun(s:Int×Int×(List Int)×(List (List Int)))=>⟨mkE 45 0 [(4,.ptr 0 0),(6,.ptr 1 0),(7,dI s.1),(26,.dat (.list (.pair (.int .i64) (.pair (.int .i64) (.pair (.int .i64) .unit)))) g),(27,dI t37),(28,dI s.2.1)],[some (.box [.nils,.nils]),some (.box [.slc 2,.slc 3]),some (sI s.2.2.1),some (.nest (.int .i64) s.2.2.2 0 [])]⟩) (fin:=(fun(t21:Int×(List Int)×(List (List Int)))=>((Exit.exit 0),⟨mkE 45 0 [(4,.ptr 0 0),(6,.ptr 1 0),(7,dI t21.1)],[some (.box [.nils,.nils]),some (.box [.slc 2,.slc 3]),some (sI t21.2.1),some (.nest (.int .i64) t21.2.2 0 [])]⟩))) (by
 rintro t21 f K h
 ·exact h) (fun s=>link_map (Nwi s.1 g t37 s.2.1 s.2.2.1 s.2.2.2) (Sum.elim (fun(t21:Int×Int×(List Int)×(List (List Int)))=>Sum.inl (t21.1,t21.2.1,t21.2.2.1,t21.2.2.2)) (fun(t21:Int×(List Int)×(List (List Int)))=>Sum.inr t21)) (by
 rintro(t21|t21)
 ·kernel_rfl
 ·kernel_rfl)) (0,0,t.1,t.2)) (fun(t21:Int×(List Int)×(List (List Int)))=>(t21.1,t21.2.1,t21.2.2)) (by
 rintro t21 K h
 ·exact Eq.mp (by kernel_rfl) h)))) (fun(t37:Int×(List Int)×(List (List Int)))=>(Nur t37.1 t37.2.1 t37.2.2)))) (fun(t:Int×(List Int)×(List (List Int)))=>t) (by
 rintro t
 ·kernel_rfl) (by
 rintro t f K h
 ·exact h)))) (by unfold N2b;kernel_rfl) (by
 intro t
 exact ret_mk [.agg [.slc 1,.slc 2],dI t.1] (by kernel_rfl) (by kernel_rfl) (by kernel_rfl) (by kernel_rfl)) h
def Ngi:Fun:=fun avs H=>
 match avs,H with
 |[.agg [.dat (.list (.int .i64)) a,.dat (.list (.list (.int .i64))) b],.dat (.list (.pair (.int .i64) (.pair (.int .i64) (.pair (.int .i64) .unit)))) c],[]=>⟨_,N2b a b c,fun(t:Int×(List Int)×(List (List Int)))=>(.tup [.agg [.slc 1,.slc 2],dI t.1],[some (.box [.slc 1,.slc 2]),some (sI t.2.1),some (.nest (.int .i64) t.2.2 0 [])]),[],none⟩
 |_,_=>Ans.no
theorem N12j:Sound Tryz.prog 12 Ngi:=by
 refine fn_sound' (C:=N5s) (c:=bodyOf Tryz.f12) (cok_of tys_ok (allc Nej (allc N6z (allc Njv alln))) (allc Tryz.call28 (allc Tryz.call29 (allc Tryz.call31 alln))) (by kernel_rfl)) Tryz.func12 (by kernel_rfl) LL Nz ?_
 intro avs H r H' h
 unfold Ngi at h
 split at h
 ·refine Awp.cast ?_ ?_ ?_ (Nug _ _ _ h)<;>kernel_rfl
 ·simp[Ans.no,Ans.run] at h
def ren_impl_JournalText:Go.Shelf.Ren:=⟨fun|166=>35|169=>36|240=>60|276=>97|n=>n,fun|0=>0|3=>3|4=>4|5=>5|9=>9|20=>20|37=>22|70=>65|72=>67|75=>69|80=>72|127=>94|164=>108|n=>n,fun|n=>n⟩
theorem lay_impl_JournalText_w:Lays.n166 Tryz.prog ren_impl_JournalText:={
 mixed:=by kernel_rfl
 f166:=Tryz.func35.trans (congrArg some (by kernel_rfl))
 f240:=Tryz.func60.trans (congrArg some (by kernel_rfl))
 f276:=Tryz.func97.trans (congrArg some (by kernel_rfl))
 t0:=Tryz.underlying0
 a0:=Tryz.isAgg0
 z0:=Tryz.sizeOf0
 v0:=Tryz.zeroValue0
 t3:=Tryz.underlying3
 a3:=Tryz.isAgg3
 z3:=Tryz.sizeOf3
 v3:=Tryz.zeroValue3
 t4:=Tryz.underlying4
 a4:=Tryz.isAgg4
 z4:=Tryz.sizeOf4
 v4:=Tryz.zeroValue4
 t9:=Tryz.underlying9
 a9:=Tryz.isAgg9
 z9:=Tryz.sizeOf9
 v9:=Tryz.zeroValue9
 t20:=Tryz.underlying20
 a20:=Tryz.isAgg20
 z20:=Tryz.sizeOf20
 v20:=Tryz.zeroValue20
 t37:=Tryz.underlying22
 a37:=Tryz.isAgg22
 z37:=Tryz.sizeOf22
 v37:=Tryz.zeroValue22
 t70:=Tryz.underlying65
 a70:=Tryz.isAgg65
 z70:=Tryz.sizeOf65
 v70:=Tryz.zeroValue65
 t72:=Tryz.underlying67
 a72:=Tryz.isAgg67
 z72:=Tryz.sizeOf67
 v72:=Tryz.zeroValue67
 t75:=Tryz.underlying69
 a75:=Tryz.isAgg69
 z75:=Tryz.sizeOf69
 v75:=Tryz.zeroValue69
 t164:=Tryz.underlying108
 a164:=Tryz.isAgg108
 z164:=Tryz.sizeOf108
 a:=Tryz.zeroValue108}
theorem lay_impl_JournalText_s:Lays.n169 Tryz.prog ren_impl_JournalText:={
 mixed:=by kernel_rfl
 f169:=Tryz.func36.trans (congrArg some (by kernel_rfl))
 t0:=Tryz.underlying0
 a0:=Tryz.isAgg0
 z0:=Tryz.sizeOf0
 v0:=Tryz.zeroValue0
 t3:=Tryz.underlying3
 a3:=Tryz.isAgg3
 z3:=Tryz.sizeOf3
 v3:=Tryz.zeroValue3
 t9:=Tryz.underlying9
 a9:=Tryz.isAgg9
 z9:=Tryz.sizeOf9
 v9:=Tryz.zeroValue9
 t37:=Tryz.underlying22
 a37:=Tryz.isAgg22
 z37:=Tryz.sizeOf22
 v37:=Tryz.zeroValue22
 t70:=Tryz.underlying65
 a70:=Tryz.isAgg65
 z70:=Tryz.sizeOf65
 v70:=Tryz.zeroValue65
 t72:=Tryz.underlying67
 a72:=Tryz.isAgg67
 z72:=Tryz.sizeOf67
 v72:=Tryz.zeroValue67
 t127:=Tryz.underlying94
 a127:=Tryz.isAgg94
 z127:=Tryz.sizeOf94
 a:=Tryz.zeroValue94}
theorem lay_impl_JournalText_x:Builder.Extra Tryz.prog ren_impl_JournalText:={
 sizeBuilder:=by kernel_rfl
 liesBuilder:=by kernel_rfl
 t5:=Tryz.underlying5
 a5:=Tryz.isAgg5
 z5:=Tryz.sizeOf5
 v5:=Tryz.zeroValue5
 infoByte:=by kernel_rfl
 cellsByte:=by kernel_rfl
 sizeByte:=by kernel_rfl
 neB5:=by decide}
set_option maxRecDepth 100000 in
theorem Nyw (xs:List DeedV) (a:Option Addr) (cap:Nat) (t:ByteArray) (w:World)
  (hD0: ∀(d:DeedV) (s:ByteArray) (w':World),(fun d:DeedV=>N3 d.1 d.2.1 d.2.2.1) d=some s→Go.RowKit.Below w.heap.size w w'→Calls Tryz.prog 11 #[deedVal d] w' fun e w''=>e= .returned (.string s)∧Go.RowKit.Below w'.heap.size w' w'')
  (hc0:DeedCells w a xs) (hcap:xs.length≤cap) (ht0:jtext (fun d:DeedV=>N3 d.1 d.2.1 d.2.2.1) xs ByteArray.empty=some t):
  Calls Tryz.prog 13 #[.slice a xs.length cap] w fun e w'=>e= .returned (.string t)∧Go.RowKit.Below w.heap.size w w':=by
 generalize (fun d:DeedV=>N3 d.1 d.2.1 d.2.2.1)=g at hD0 ht0
 have HC:Go.RowKit.Hid (DeedCells w a xs):=hc0
 have HD:Go.RowKit.Hid (∀(d:DeedV) (s:ByteArray) (w':World),g d=some s→Go.RowKit.Below w.heap.size w w'→Calls Tryz.prog 11 #[deedVal d] w' fun e w''=>e= .returned (.string s)∧Go.RowKit.Below w'.heap.size w' w''):=hD0
 have HT:Go.RowKit.Hid (jtext g xs ByteArray.empty=some t):=ht0
 clear hc0 hD0 ht0
 go_enter Tryz.func13,Tryz.ntmps13
 go_wp2_with fail
 go_loopw [9] (fun i wr=> ∃k:Nat,k≤xs.length∧i= .int .i64 k∧Go.RowKit.Hid (∃acc,jtext g (xs.drop k) acc=some t∧Lib.IsBuilderF 67 5 w.heap.size w.heap.size (Lib.byteCells acc.data.toList) wr)∧Go.RowKit.Hid (Go.RowKit.Below w.heap.size w wr)) (fun i _=>xs.length-(Go.RowKit.intOf i).toNat)
 case atStart=>exact⟨0,Nat.zero_le _,rfl,⟨ByteArray.empty,HT.out,bld_new w⟩,(Go.RowKit.Below.refl _ _).alloc (Nat.le_refl _) _⟩
 case round=>
  obtain⟨k,hk,rfl,HA,HW⟩:=hrel
  by_cases hkn:k<xs.length
  ·obtain⟨acc,hj,hB⟩:=HA.out
   have hd:xs[k]? =some xs[k]:=List.getElem?_eq_getElem hkn
   obtain⟨b,o,rfl,hb,c0,c1,c2⟩:=HC.out k _ hd
   rw[←HW.out.cell (p:=⟨b,_,none⟩) hb] at c0 c1 c2
   rw[List.drop_eq_getElem_cons hkn,jtext] at hj
   generalize xs[k]=d at hd c0 c1 c2 hj
   obtain⟨s,hs,hj⟩:=Option.bind_eq_some_iff.1 hj
   have Hj:=(show Go.RowKit.Hid _ from hj)
   clear hj
   go_wp2_with fail
   refine Calls.mono (HD.out d s _ hs (HW.out.alloc HW.out.size _)) ?_
   rintro e w1 ⟨rfl,hb1⟩
   have HB1:Go.RowKit.Hid (Lib.IsBuilderF 67 5 w.heap.size w.heap.size (Lib.byteCells acc.data.toList) w1):=bld_keep hB (fun q hq=>(hb1.block q (by simp;omega)).trans (Go.RowKit.Below.heap_alloc _ _ _ hq))
   have HW1:Go.RowKit.Hid (Go.RowKit.Below w.heap.size w w1):=(HW.out.alloc HW.out.size _).trans (hb1.mono (by have:=HW.out.size;simp;omega))
   clear hb1
   by_cases hse:s=ByteArray.empty
   ·subst hse
    have ht:t=ByteArray.empty:=by
     have:=Hj.out
     rw[if_pos rfl] at this
     exact(Option.some.inj this).symm
    subst ht
    go_wp2_with fail
    go_ret
    exact⟨rfl,HW1.out⟩
   ·have hj:=Hj.out
    rw[if_neg hse] at hj
    split at hj
    ·rename_i hsz
     have hemp:s.toList.isEmpty=false:=by
      rw[Bool.eq_false_iff]
      intro h
      rw[List.isEmpty_iff,Lib.toList_data] at h
      exact hse (ByteArray.ext (Array.toList_inj.mp h))
     have hle: ¬9223372036854775807<s.size+1:=by omega
     have hal:(Lib.byteCells acc.data.toList).length=acc.size:=by rw[Lib.byteCells_length,Lib.size_eq]
     have cW:=Any.Builder_WriteString_k lay_impl_JournalText_w lay_impl_JournalText_x w.heap.size w.heap.size (Lib.byteCells acc.data.toList) (s++ByteArray.mk #[10]) w1 HB1.out (by rw[hal,ByteArray.size_append];exact hsz.2) HW1.out.size
     have hnext:Lib.byteCells acc.data.toList++Lib.strCells (s++ByteArray.mk #[10])=Lib.byteCells (acc++(s++ByteArray.mk #[10])).data.toList:=by
      rw[Lib.strCells_eq,←Lib.byteCells_append,show(acc++(s++ByteArray.mk #[10])).data=acc.data++(s++ByteArray.mk #[10]).data from ByteArray.data_append,Array.toList_append]
     rw[hnext] at cW
     have Hj2:=(show Go.RowKit.Hid _ from hj)
     have HCW:=(show Go.RowKit.Hid _ from cW)
     clear hj cW hnext hal
     go_wp2_with fail
     refine Calls.mono HCW.out ?_
     rintro e w2 ⟨rfl,h2,hb2,_⟩
     have HB2:=(show Go.RowKit.Hid _ from h2)
     have HW2:=(show Go.RowKit.Hid _ from HW1.out.trans hb2)
     clear h2 hb2
     go_wp2
     go_roundw
     case rel=>exact⟨k+1,by omega,by go_num,⟨⟨_,Hj2.out,.inr HB2.out⟩,HW2⟩⟩
     case measure=>simp[Go.RowKit.intOf];omega
    ·cases hj
  ·have hke:k=xs.length:=by omega
   subst hke
   obtain⟨acc,hj,hB⟩:=HA.out
   rw[List.drop_eq_nil_of_le (Nat.le_refl _),jtext] at hj
   obtain rfl:=Option.some.inj hj
   have HCS:=(show Go.RowKit.Hid _ from Any.Builder_String_any_k lay_impl_JournalText_s lay_impl_JournalText_x w.heap.size w.heap.size acc.data.toList wr hB HW.out.size)
   clear hj
   go_wp2_with fail
   refine Calls.mono HCS.out ?_
   rintro e w2 ⟨rfl,_,hb2,_⟩
   have HW2:=(show Go.RowKit.Hid _ from HW.out.trans hb2)
   go_wp2
   go_ret
   exact⟨rfl,HW2.out⟩
def No3:Fun:=F_jtext (fun d:DeedV=>N3 d.1 d.2.1 d.2.2.1)
theorem Nz8:Sound Tryz.prog 13 No3:=jtext_sound (g:=(fun d:DeedV=>N3 d.1 d.2.1 d.2.2.1)) (fun _=>rfl) Nd8 Nyw
def Ni7:Ann:=(.seq (.leaf []) (.seq (.leaf [0]) (.leaf [0])))
noncomputable def Nec:Ctx:=⟨tlook tys,olook [(39,N17)],ioF,0,false,[]⟩
theorem N15g:Link Nec LL (bodyOf Tryz.f15) Ni7 ⟨mkE 8 0 [],[]⟩ (N9g) (fun(t:Bool)=>(Exit.ret,⟨mkE 8 0 [(0,dB t)],[]⟩)):= .of fun K h=>by
 simp only[N9g,wpW] at h
 exact .of (by kernel_rfl) h
theorem Nrw {r:AV} {H':Heap} (h:(Ans.mk _ (N2h) (fun(t:Bool)=>(dB t,[])) [] none).run=some (r,H')):Awp Nec LL (bodyOf Tryz.f15) Ni7 ⟨mkE 8 0 [],[]⟩ (Ret (tlook tys) Tryz.f15.results.toList r H'):=
 ret_of' (N15g) (by unfold N2h;kernel_rfl) (by
 intro t
 exact ret_mk [dB t] (by kernel_rfl) (by kernel_rfl) (by kernel_rfl) (by kernel_rfl)) h
def Nd7:Fun:=fun avs H=>
 match avs,H with
 |[],[]=>⟨_,N2h,fun(t:Bool)=>(dB t,[]),[],none⟩
 |_,_=>Ans.no
theorem N158:Sound Tryz.prog 15 Nd7:=by
 refine fn_sound' (C:=Nec) (c:=bodyOf Tryz.f15) (cok_of tys_ok (allc N2f alln) (allc Tryz.call39 alln) (by kernel_rfl)) Tryz.func15 (by kernel_rfl) LL Ni7 ?_
 intro avs H r H' h
 unfold Nd7 at h
 split at h
 ·refine Awp.cast ?_ ?_ ?_ (Nrw h)<;>kernel_rfl
 ·simp[Ans.no,Ans.run] at h
def N24:Ann:=(.seq (.leaf [0,1]) (.seq (.seq (.leaf [0,1,10]) (.cond (.seq (.leaf [4]) (.leaf [4])) (.leaf [0,1]))) (.seq (.seq (.leaf [0,1,5]) (.block (.loop (.seq (.seq (.leaf [0,1,5,14]) (.cond (.leaf [0,1,5]) (.leaf []))) (.seq (.block (.seq (.draw [] [0,1,2,3,4,5,6,7,8] [] [0,1,5,25]) (.cond (.seq (.leaf [4]) (.leaf [4])) (.leaf [0,1,5])))) (.leaf [0,1,5])))))) (.seq (.leaf [4]) (.leaf [4])))))
noncomputable def N5j:Ctx:=⟨tlook tys,olook [],ioF,0,false,[]⟩
theorem Nqp (a b:List Int):Link N5j LL (Code.seq (cq [0] (bodyOf Tryz.f37)) (cq [0,1] (bodyOf Tryz.f37))) (Ann.seq (aq [0] N24) (aq [0,1] N24)) ⟨mkE 26 0 [(0,dL a),(1,dL b)],[]⟩ (Nbe a b) (Sum.elim (fun(t:Unit)=>(Exit.normal,⟨mkE 26 0 [(0,dL a),(1,dL b)],[]⟩)) (fun(t:Bool)=>(Exit.ret,⟨mkE 26 0 [(4,dB t)],[]⟩))):= .of fun K h=>by
 simp only[Nbe,wpW] at h
 exact .of (by kernel_rfl) h
theorem N117 (a b:List Int):Link N5j LL (cq [0,0,1,1] (bodyOf Tryz.f37)) (aq [0,0,1,1] N24) ⟨mkE 26 0 [(0,dL a),(1,dL b)],[]⟩ (N8a) (fun(t:Unit)=>(Exit.normal,⟨mkE 26 0 [(0,dL a),(1,dL b),(5,dI 0)],[]⟩)):= .of fun K h=>by
 simp only[N8a,wpW] at h
 exact .of (by kernel_rfl) h
theorem N12t (a b:List Int) (c:Int):Link N5j LL (cq [0,0,1,0,1,1] (bodyOf Tryz.f37)) (aq [0,0,1,0,1,1] N24) ⟨mkE 26 0 [(0,dL a),(1,dL b),(5,dI c)],[]⟩ (N5h a b c) (Sum.elim (fun(t:Int)=>(Exit.normal,⟨mkE 26 0 [(0,dL a),(1,dL b),(5,dI t)],[]⟩)) (Sum.elim (fun(t:Bool)=>(Exit.ret,⟨mkE 26 0 [(4,dB t)],[]⟩)) (fun(t:Unit)=>((Exit.exit 0),⟨mkE 26 0 [],[]⟩)))):= .of fun K h=>by
 simp only[N5h,wpW] at h
 exact .of (by kernel_rfl) h
theorem N17u:Link N5j LL (cq [1,1,1] (bodyOf Tryz.f37)) (aq [1,1,1] N24) ⟨mkE 26 0 [],[]⟩ (Naj) (fun(t:Bool)=>(Exit.ret,⟨mkE 26 0 [(4,dB t)],[]⟩)):= .of fun K h=>by
 simp only[Naj,wpW] at h
 exact .of (by kernel_rfl) h
theorem N10s (b d:List Int) {r:AV} {H':Heap} (h:(Ans.mk _ (N2m b d) (fun(t:Bool)=>(dB t,[])) [] none).run=some (r,H')):Awp N5j LL (bodyOf Tryz.f37) N24 ⟨mkE 26 0 [(0,dL b),(1,dL d)],[]⟩ (Ret (tlook tys) Tryz.f37.results.toList r H'):=
 ret_of' (Link.cast (by kernel_rfl) (by kernel_rfl) (link_group (c:=(cq [0,1] (bodyOf Tryz.f37))) (a:=(aq [0,1] N24)) [(cq [0] (bodyOf Tryz.f37))] [(aq [0] N24)] rfl (link_seq2 (Nqp b d) (fun(t:Unit)=>(link_seq2 (link_seq (N117 b d) (fun(t:Unit)=>(link_block (fin2:=(Sum.elim (fun(t:Unit)=>(Exit.normal,⟨mkE 26 0 [],[]⟩)) (fun(t:Bool)=>(Exit.ret,⟨mkE 26 0 [(4,dB t)],[]⟩)))) (id:=0) (link_loop (mk:=fun(s:Int)=>⟨mkE 26 0 [(0,dL b),(1,dL d),(5,dI s)],[]⟩) (fin:=(Sum.elim (fun(t:Bool)=>(Exit.ret,⟨mkE 26 0 [(4,dB t)],[]⟩)) (fun(t:Unit)=>((Exit.exit 0),⟨mkE 26 0 [],[]⟩)))) (by
 rintro(t|t) f K h
 ·exact h
 ·exact h) (fun s=>link_map (N12t b d s) (Sum.elim (fun(t:Int)=>Sum.inl t) (Sum.elim (fun(t:Bool)=>Sum.inr (Sum.inl t)) (fun(t:Unit)=>Sum.inr (Sum.inr t)))) (by
 rintro(t|t|t)
 ·kernel_rfl
 ·kernel_rfl
 ·kernel_rfl)) 0) (Sum.elim (fun(t:Bool)=>(Sum.inr t)) (fun(t:Unit)=>(Sum.inl ()))) (by
 rintro(t|t) K h
 ·exact Eq.mp (by kernel_rfl) h
 ·exact Eq.mp (by kernel_rfl) h)))) (fun(t:Unit)=>(N17u)) (fun(t:Bool)=>t) (by
 rintro t
 ·kernel_rfl) (by
 rintro t f K h
 ·exact h))) (fun(t:Bool)=>t) (by
 rintro t
 ·kernel_rfl) (by
 rintro t f K h
 ·exact h)))) (by unfold N2m;kernel_rfl) (by
 intro t
 exact ret_mk [dB t] (by kernel_rfl) (by kernel_rfl) (by kernel_rfl) (by kernel_rfl)) h
def Nbh:Fun:=fun avs H=>
 match avs,H with
 |[.dat (.list (.int .i64)) a,.dat (.list (.int .i64)) b],[]=>⟨_,N2m a b,fun(t:Bool)=>(dB t,[]),[],none⟩
 |_,_=>Ans.no
theorem Nnm:Sound Tryz.prog 37 Nbh:=by
 refine fn_sound' (C:=N5j) (c:=bodyOf Tryz.f37) (cok_of tys_ok (alln) (alln) (by kernel_rfl)) Tryz.func37 (by kernel_rfl) LL N24 ?_
 intro avs H r H' h
 unfold Nbh at h
 split at h
 ·refine Awp.cast ?_ ?_ ?_ (N10s _ _ h)<;>kernel_rfl
 ·simp[Ans.no,Ans.run] at h
def N1d:Ann:=(.seq (.leaf [0,1]) (.seq (.seq (.leaf [0,1,10]) (.cond (.seq (.leaf [4]) (.leaf [4])) (.leaf [0,1]))) (.seq (.seq (.leaf [0,1,5]) (.block (.loop (.seq (.seq (.leaf [0,1,5,14]) (.cond (.leaf [0,1,5]) (.leaf []))) (.seq (.block (.seq (.draw [8] [0,1,2,3,4,5,6,7,8,9] [] [0,1,5,26]) (.cond (.seq (.leaf [4]) (.leaf [4])) (.leaf [0,1,5])))) (.leaf [0,1,5])))))) (.seq (.leaf [4]) (.leaf [4])))))
noncomputable def N5l:Ctx:=⟨tlook tys,olook [(37,Nbh)],ioF,0,false,[]⟩
theorem N12x (a b:List (List Int)):Link N5l LL (Code.seq (cq [0] (bodyOf Tryz.f38)) (cq [0,1] (bodyOf Tryz.f38))) (Ann.seq (aq [0] N1d) (aq [0,1] N1d)) ⟨mkE 27 0 [(0,.dat (.list (.list (.int .i64))) a),(1,.dat (.list (.list (.int .i64))) b)],[]⟩ (Nah a b) (Sum.elim (fun(t:Unit)=>(Exit.normal,⟨mkE 27 0 [(0,.dat (.list (.list (.int .i64))) a),(1,.dat (.list (.list (.int .i64))) b)],[]⟩)) (fun(t:Bool)=>(Exit.ret,⟨mkE 27 0 [(4,dB t)],[]⟩))):= .of fun K h=>by
 simp only[Nah,wpW] at h
 exact .of (by kernel_rfl) h
theorem Ntp (a b:List (List Int)):Link N5l LL (cq [0,0,1,1] (bodyOf Tryz.f38)) (aq [0,0,1,1] N1d) ⟨mkE 27 0 [(0,.dat (.list (.list (.int .i64))) a),(1,.dat (.list (.list (.int .i64))) b)],[]⟩ (N9v) (fun(t:Unit)=>(Exit.normal,⟨mkE 27 0 [(0,.dat (.list (.list (.int .i64))) a),(1,.dat (.list (.list (.int .i64))) b),(5,dI 0)],[]⟩)):= .of fun K h=>by
 simp only[N9v,wpW] at h
 exact .of (by kernel_rfl) h
theorem N14h (a b:List (List Int)) (c:Int):Link N5l LL (cq [0,0,1,0,1,1] (bodyOf Tryz.f38)) (aq [0,0,1,0,1,1] N1d) ⟨mkE 27 0 [(0,.dat (.list (.list (.int .i64))) a),(1,.dat (.list (.list (.int .i64))) b),(5,dI c)],[]⟩ (N46 a b c) (Sum.elim (fun(t:Int)=>(Exit.normal,⟨mkE 27 0 [(0,.dat (.list (.list (.int .i64))) a),(1,.dat (.list (.list (.int .i64))) b),(5,dI t)],[]⟩)) (Sum.elim (fun(t:Bool)=>(Exit.ret,⟨mkE 27 0 [(4,dB t)],[]⟩)) (fun(t:Unit)=>((Exit.exit 0),⟨mkE 27 0 [],[]⟩)))):= .of fun K h=>by
 simp only[N46,wpW] at h
 exact .of (by kernel_rfl) h
theorem Nzr:Link N5l LL (cq [1,1,1] (bodyOf Tryz.f38)) (aq [1,1,1] N1d) ⟨mkE 27 0 [],[]⟩ (Na0) (fun(t:Bool)=>(Exit.ret,⟨mkE 27 0 [(4,dB t)],[]⟩)):= .of fun K h=>by
 simp only[Na0,wpW] at h
 exact .of (by kernel_rfl) h
theorem N18d (b d:List (List Int)) {r:AV} {H':Heap} (h:(Ans.mk _ (N2y b d) (fun(t:Bool)=>(dB t,[])) [] none).run=some (r,H')):Awp N5l LL (bodyOf Tryz.f38) N1d ⟨mkE 27 0 [(0,.dat (.list (.list (.int .i64))) b),(1,.dat (.list (.list (.int .i64))) d)],[]⟩ (Ret (tlook tys) Tryz.f38.results.toList r H'):=
 ret_of' (Link.cast (by kernel_rfl) (by kernel_rfl) (link_group (c:=(cq [0,1] (bodyOf Tryz.f38))) (a:=(aq [0,1] N1d)) [(cq [0] (bodyOf Tryz.f38))] [(aq [0] N1d)] rfl (link_seq2 (N12x b d) (fun(t:Unit)=>(link_seq2 (link_seq (Ntp b d) (fun(t:Unit)=>(link_block (fin2:=(Sum.elim (fun(t:Unit)=>(Exit.normal,⟨mkE 27 0 [],[]⟩)) (fun(t:Bool)=>(Exit.ret,⟨mkE 27 0 [(4,dB t)],[]⟩)))) (id:=0) (link_loop (mk:=fun(s:Int)=>⟨mkE 27 0 [(0,.dat (.list (.list (.int .i64))) b),(1,.dat (.list (.list (.int .i64))) d),(5,dI s)],[]⟩) (fin:=(Sum.elim (fun(t:Bool)=>(Exit.ret,⟨mkE 27 0 [(4,dB t)],[]⟩)) (fun(t:Unit)=>((Exit.exit 0),⟨mkE 27 0 [],[]⟩)))) (by
 rintro(t|t) f K h
 ·exact h
 ·exact h) (fun s=>link_map (N14h b d s) (Sum.elim (fun(t:Int)=>Sum.inl t) (Sum.elim (fun(t:Bool)=>Sum.inr (Sum.inl t)) (fun(t:Unit)=>Sum.inr (Sum.inr t)))) (by
 rintro(t|t|t)
 ·kernel_rfl
 ·kernel_rfl
 ·kernel_rfl)) 0) (Sum.elim (fun(t:Bool)=>(Sum.inr t)) (fun(t:Unit)=>(Sum.inl ()))) (by
 rintro(t|t) K h
 ·exact Eq.mp (by kernel_rfl) h
 ·exact Eq.mp (by kernel_rfl) h)))) (fun(t:Unit)=>(Nzr)) (fun(t:Bool)=>t) (by
 rintro t
 ·kernel_rfl) (by
 rintro t f K h
 ·exact h))) (fun(t:Bool)=>t) (by
 rintro t
 ·kernel_rfl) (by
 rintro t f K h
 ·exact h)))) (by unfold N2y;kernel_rfl) (by
 intro t
 exact ret_mk [dB t] (by kernel_rfl) (by kernel_rfl) (by kernel_rfl) (by kernel_rfl)) h
def Ngm:Fun:=fun avs H=>
 match avs,H with
 |[.dat (.list (.list (.int .i64))) a,.dat (.list (.list (.int .i64))) b],[]=>⟨_,N2y a b,fun(t:Bool)=>(dB t,[]),[],none⟩
 |_,_=>Ans.no
theorem Nso:Sound Tryz.prog 38 Ngm:=by
 refine fn_sound' (C:=N5l) (c:=bodyOf Tryz.f38) (cok_of tys_ok (allc Nnm alln) (allc Tryz.call37 alln) (by kernel_rfl)) Tryz.func38 (by kernel_rfl) LL N1d ?_
 intro avs H r H' h
 unfold Ngm at h
 split at h
 ·refine Awp.cast ?_ ?_ ?_ (N18d _ _ h)<;>kernel_rfl
 ·simp[Ans.no,Ans.run] at h
def Nie:Ann:=(.seq (.leaf [2,3]) (.seq (.leaf [4]) (.leaf [4])))
noncomputable def Nct:Ctx:=⟨tlook tys,olook [(37,Nbh),(38,Ngm)],ioF,0,false,[]⟩
theorem Nt2 (a:List Int) (b:List (List Int)) (c:List Int) (d:List (List Int)):Link Nct LL (bodyOf Tryz.f14) Nie ⟨mkE 17 0 [(0,.agg [dL a,.dat (.list (.list (.int .i64))) b]),(1,.agg [dL c,.dat (.list (.list (.int .i64))) d])],[]⟩ (Ncb a b c d) (fun(t:Bool)=>(Exit.ret,⟨mkE 17 0 [(4,dB t)],[]⟩)):= .of fun K h=>by
 simp only[Ncb,wpW] at h
 exact .of (by kernel_rfl) h
theorem N17p (a:List Int) (b:List (List Int)) (c:List Int) (d:List (List Int)) {r:AV} {H':Heap} (h:(Ans.mk _ (N4w a b c d) (fun(t:Bool)=>(dB t,[])) [] none).run=some (r,H')):Awp Nct LL (bodyOf Tryz.f14) Nie ⟨mkE 17 0 [(0,.agg [dL a,.dat (.list (.list (.int .i64))) b]),(1,.agg [dL c,.dat (.list (.list (.int .i64))) d])],[]⟩ (Ret (tlook tys) Tryz.f14.results.toList r H'):=
 ret_of' (Nt2 a b c d) (by unfold N4w;kernel_rfl) (by
 intro t
 exact ret_mk [dB t] (by kernel_rfl) (by kernel_rfl) (by kernel_rfl) (by kernel_rfl)) h
def Nf7:Fun:=fun avs H=>
 match avs,H with
 |[.agg [.dat (.list (.int .i64)) a,.dat (.list (.list (.int .i64))) b],.agg [.dat (.list (.int .i64)) c,.dat (.list (.list (.int .i64))) d]],[]=>⟨_,N4w a b c d,fun(t:Bool)=>(dB t,[]),[],none⟩
 |_,_=>Ans.no
theorem N17a:Sound Tryz.prog 14 Nf7:=by
 refine fn_sound' (C:=Nct) (c:=bodyOf Tryz.f14) (cok_of tys_ok (allc Nnm (allc Nso alln)) (allc Tryz.call37 (allc Tryz.call38 alln)) (by kernel_rfl)) Tryz.func14 (by kernel_rfl) LL Nie ?_
 intro avs H r H' h
 unfold Nf7 at h
 split at h
 ·refine Awp.cast ?_ ?_ ?_ (N17p _ _ _ _ h)<;>kernel_rfl
 ·simp[Ans.no,Ans.run] at h
def N1:Ann:=(.seq (.leaf [0,1]) (.seq (.seq (.leaf [0,1,28]) (.cond (.seq (.leaf [4]) (.leaf [4])) (.leaf [0,1]))) (.seq (.leaf [1,5]) (.seq (.leaf [1,5,6,7]) (.seq (.leaf [1,5,6,7,8,9]) (.seq (.seq (.leaf [1,5,6,7,49]) (.cond (.seq (.leaf [4]) (.leaf [4])) (.leaf [1,5,6,7]))) (.seq (.seq (.leaf [1,5,6,7,10]) (.block (.loop (.seq (.seq (.leaf [1,5,6,7,10,53]) (.cond (.leaf [1,5,6,7,10]) (.leaf [1,5,6,7]))) (.seq (.block (.seq (.leaf [1,5,6,7,10,11,12]) (.seq (.leaf [1,5,6,7,10,84]) (.cond (.seq (.leaf [4]) (.leaf [4])) (.leaf [1,5,6,7,10]))))) (.leaf [1,5,6,7,10])))))) (.seq (.leaf [5,6,7,13]) (.seq (.leaf [5,6,7,13,15]) (.seq (.seq (.leafF [⟨1,15,false,some 1,none⟩] [5,6,7,13,15,16]) (.block (.loop (.seq (.seq (.leaf [5,6,7,13,15,16,98]) (.cond (.leaf [5,6,7,13,15,16]) (.leaf [5,6,7,13,15]))) (.seq (.block (.seq (.draw [5,6] [0,1,2,3,4,5,6,7,8,9,10,11,12] [] [5,6,7,13,15,16,17,18]) (.seq (.seq (.leaf [5,6,7,13,15,16,17,116]) (.cond (.seq (.leaf [4]) (.leaf [4])) (.leaf [5,6,7,13,15,16,17]))) (.leaf [5,6,7,13,15,16])))) (.leafF [⟨3,15,false,some 0,none⟩,⟨3,15,false,some 1,none⟩] [5,6,7,13,15,16])))))) (.seq (.leaf [5,6,7,13,15,19]) (.seq (.draw [6,14,24,28] [0,1,2,3,4,5,7,8,9,6,10,11,12,13,14,15,16,17,18,19,20,21,22,23,24,25,26,27,28,29,30] [] [4]) (.leaf [4])))))))))))))
noncomputable def N1r:Ctx:=⟨tlook tys,olook [(4,Nfq),(5,Nhi),(6,Niz),(7,Nff),(8,Ngr),(9,Ncn),(11,N92),(10,Ndr),(12,Ngi),(13,No3),(15,Nd7),(14,Nf7)],ioF,0,true,[]⟩
theorem Npt (a b:List Int):Link N1r LL (Code.seq (cq [0] (bodyOf Tryz.f3)) (Code.seq (cq [0,1] (bodyOf Tryz.f3)) (Code.seq (cq [0,1,1] (bodyOf Tryz.f3)) (Code.seq (cq [0,1,1,1] (bodyOf Tryz.f3)) (Code.seq (cq [0,1,1,1,1] (bodyOf Tryz.f3)) (cq [0,1,1,1,1,1] (bodyOf Tryz.f3))))))) (Ann.seq (aq [0] N1) (Ann.seq (aq [0,1] N1) (Ann.seq (aq [0,1,1] N1) (Ann.seq (aq [0,1,1,1] N1) (Ann.seq (aq [0,1,1,1,1] N1) (aq [0,1,1,1,1,1] N1)))))) ⟨mkE 154 0 [(0,dV a),(1,dV b)],[]⟩ (Nc5 a b) (Sum.elim (fun(t:ByteArray×Int×(List (Int×Int×Int×Unit)))=>(Exit.normal,⟨mkE 154 0 [(1,dV b),(5,dS t.1),(6,.slc 0),(7,dI t.2.1)],[some (.seq (.pair (.int .i64) (.pair (.int .i64) (.pair (.int .i64) .unit))) t.2.2)]⟩)) (fun(t:Bool)=>(Exit.ret,⟨mkE 154 0 [(4,dB t)],[]⟩))):= .of fun K h=>by
 simp only[Nc5,wpW] at h
 exact .of (by kernel_rfl) h
theorem Nx8 (a:List Int) (b:ByteArray) (c:Int) (d:List (Int×Int×Int×Unit)):Link N1r LL (cq [0,0,1,1,1,1,1,1] (bodyOf Tryz.f3)) (aq [0,0,1,1,1,1,1,1] N1) ⟨mkE 154 0 [(1,dV a),(5,dS b),(6,.slc 0),(7,dI c)],[some (.seq (.pair (.int .i64) (.pair (.int .i64) (.pair (.int .i64) .unit))) d)]⟩ (N9p) (fun(t:Unit)=>(Exit.normal,⟨mkE 154 0 [(1,dV a),(5,dS b),(6,.slc 0),(7,dI c),(10,dI 0)],[some (.seq (.pair (.int .i64) (.pair (.int .i64) (.pair (.int .i64) .unit))) d)]⟩)):= .of fun K h=>by
 simp only[N9p,wpW] at h
 exact .of (by kernel_rfl) h
theorem Nty (a:List Int) (b:ByteArray) (c d:Int) (g:List (Int×Int×Int×Unit)):Link N1r LL (cq [0,0,1,0,1,1,1,1,1,1] (bodyOf Tryz.f3)) (aq [0,0,1,0,1,1,1,1,1,1] N1) ⟨mkE 154 0 [(1,dV a),(5,dS b),(6,.slc 0),(7,dI c),(10,dI d)],[some (.seq (.pair (.int .i64) (.pair (.int .i64) (.pair (.int .i64) .unit))) g)]⟩ (N4v b d g) (Sum.elim (fun(t:Int)=>(Exit.normal,⟨mkE 154 0 [(1,dV a),(5,dS b),(6,.slc 0),(7,dI c),(10,dI t)],[some (.seq (.pair (.int .i64) (.pair (.int .i64) (.pair (.int .i64) .unit))) g)]⟩)) (Sum.elim (fun(t:Bool)=>(Exit.ret,⟨mkE 154 0 [(4,dB t)],[]⟩)) (fun(t:Unit)=>((Exit.exit 0),⟨mkE 154 0 [(1,dV a),(5,dS b),(6,.slc 0),(7,dI c)],[some (.seq (.pair (.int .i64) (.pair (.int .i64) (.pair (.int .i64) .unit))) g)]⟩)))):= .of fun K h=>by
 simp only[N4v,wpW] at h
 exact .of (by kernel_rfl) h
theorem Nya (a:List Int) (b:ByteArray) (c:Int) (d:List (Int×Int×Int×Unit)):Link N1r LL (Code.seq (cq [0,1,1,1,1,1,1,1] (bodyOf Tryz.f3)) (cq [0,1,1,1,1,1,1,1,1] (bodyOf Tryz.f3))) (Ann.seq (aq [0,1,1,1,1,1,1,1] N1) (aq [0,1,1,1,1,1,1,1,1] N1)) ⟨mkE 154 0 [(1,dV a),(5,dS b),(6,.slc 0),(7,dI c)],[some (.seq (.pair (.int .i64) (.pair (.int .i64) (.pair (.int .i64) .unit))) d)]⟩ (Nbw a) (fun(t:(List Int)×(List (List Int)))=>(Exit.normal,⟨mkE 154 0 [(5,dS b),(6,.slc 0),(7,dI c),(13,.ptr 1 0),(15,.ptr 2 0)],[some (.seq (.pair (.int .i64) (.pair (.int .i64) (.pair (.int .i64) .unit))) d),some (.box [dL t.1,.slc 3]),some (.box [dL t.1,.slc 3]),some (.nest (.int .i64) t.2 0 [])]⟩)):= .of fun K h=>by
 simp only[Nbw,wpW] at h
 exact .of (by kernel_rfl) h
theorem Nt4 (a:ByteArray) (b:Int) (c:List (Int×Int×Int×Unit)) (d:List Int) (g:List (List Int)):Link N1r LL (cq [0,0,1,1,1,1,1,1,1,1,1] (bodyOf Tryz.f3)) (aq [0,0,1,1,1,1,1,1,1,1,1] N1) ⟨mkE 154 0 [(5,dS a),(6,.slc 0),(7,dI b),(13,.ptr 1 0),(15,.ptr 2 0)],[some (.seq (.pair (.int .i64) (.pair (.int .i64) (.pair (.int .i64) .unit))) c),some (.box [dL d,.slc 3]),some (.box [dL d,.slc 3]),some (.nest (.int .i64) g 0 [])]⟩ (Nbn) (fun(t:Unit)=>(Exit.normal,⟨mkE 154 0 [(5,dS a),(6,.slc 0),(7,dI b),(13,.ptr 1 0),(15,.ptr 2 0),(16,dI 0)],[some (.seq (.pair (.int .i64) (.pair (.int .i64) (.pair (.int .i64) .unit))) c),some (.box [dL d,.dat (.list (.list (.int .i64))) g]),some (.box [dL d,.dat (.list (.list (.int .i64))) g])]⟩)):= .of fun K h=>by
 simp only[Nbn,wpW] at h
 exact .of (by kernel_rfl) h
theorem Nzd (a:ByteArray) (b c:Int) (d:List (Int×Int×Int×Unit)) (g:List Int) (i:List (List Int)) (j:List Int) (k:List (List Int)):Link N1r LL (cq [0,0,1,0,1,1,1,1,1,1,1,1,1] (bodyOf Tryz.f3)) (aq [0,0,1,0,1,1,1,1,1,1,1,1,1] N1) ⟨mkE 154 0 [(5,dS a),(6,.slc 0),(7,dI b),(13,.ptr 1 0),(15,.ptr 2 0),(16,dI c)],[some (.seq (.pair (.int .i64) (.pair (.int .i64) (.pair (.int .i64) .unit))) d),some (.box [dL g,.dat (.list (.list (.int .i64))) i]),some (.box [dL j,.dat (.list (.list (.int .i64))) k])]⟩ (N2i c d g i j k) (Sum.elim (fun(t:Int×(List Int)×(List (List Int)))=>(Exit.normal,⟨mkE 154 0 [(5,dS a),(6,.slc 0),(7,dI b),(13,.ptr 1 0),(15,.ptr 2 0),(16,dI t.1)],[some (.seq (.pair (.int .i64) (.pair (.int .i64) (.pair (.int .i64) .unit))) d),some (.box [dL g,.dat (.list (.list (.int .i64))) i]),some (.box [dL t.2.1,.dat (.list (.list (.int .i64))) t.2.2])]⟩)) (Sum.elim (fun(t:Bool)=>(Exit.ret,⟨mkE 154 0 [(4,dB t)],[]⟩)) (fun(t:(List Int)×(List (List Int)))=>((Exit.exit 2),⟨mkE 154 0 [(5,dS a),(6,.slc 0),(7,dI b),(13,.ptr 1 0),(15,.ptr 2 0)],[some (.seq (.pair (.int .i64) (.pair (.int .i64) (.pair (.int .i64) .unit))) d),some (.box [dL g,.dat (.list (.list (.int .i64))) i]),some (.box [dL t.1,.dat (.list (.list (.int .i64))) t.2])]⟩)))):= .of fun K h=>by
 simp only[N2i,wpW] at h
 exact .of (by kernel_rfl) h
theorem Nre (a:ByteArray) (b:Int) (c:List (Int×Int×Int×Unit)) (d:List Int) (g:List (List Int)) (i:List Int) (j:List (List Int)):Link N1r LL (cq [1,1,1,1,1,1,1,1,1,1] (bodyOf Tryz.f3)) (aq [1,1,1,1,1,1,1,1,1,1] N1) ⟨mkE 154 0 [(5,dS a),(6,.slc 0),(7,dI b),(13,.ptr 1 0),(15,.ptr 2 0)],[some (.seq (.pair (.int .i64) (.pair (.int .i64) (.pair (.int .i64) .unit))) c),some (.box [dL d,.dat (.list (.list (.int .i64))) g]),some (.box [dL i,.dat (.list (.list (.int .i64))) j])]⟩ (N8m a b c d g i j) (fun(t:Bool)=>(Exit.ret,⟨mkE 154 0 [(4,dB t)],[]⟩)):= .of fun K h=>by
 simp only[N8m,wpW] at h
 exact .of (by kernel_rfl) h
theorem N14z (b d:List Int) {r:AV} {H':Heap} (h:(Ans.mk _ (N2n b d) (fun(t:Bool)=>(dB t,[])) [] none).run=some (r,H')):Awp N1r LL (bodyOf Tryz.f3) N1 ⟨mkE 154 0 [(0,dV b),(1,dV d)],[]⟩ (Ret (tlook tys) Tryz.f3.results.toList r H'):=
 ret_of' (Link.cast (by kernel_rfl) (by kernel_rfl) (link_group (c:=(cq [0,1,1,1,1,1] (bodyOf Tryz.f3))) (a:=(aq [0,1,1,1,1,1] N1)) [(cq [0] (bodyOf Tryz.f3)),(cq [0,1] (bodyOf Tryz.f3)),(cq [0,1,1] (bodyOf Tryz.f3)),(cq [0,1,1,1] (bodyOf Tryz.f3)),(cq [0,1,1,1,1] (bodyOf Tryz.f3))] [(aq [0] N1),(aq [0,1] N1),(aq [0,1,1] N1),(aq [0,1,1,1] N1),(aq [0,1,1,1,1] N1)] rfl (link_seq2 (Npt b d) (fun(t:ByteArray×Int×(List (Int×Int×Int×Unit)))=>(link_seq2 (link_seq (Nx8 d t.1 t.2.1 t.2.2) (fun(t39:Unit)=>(link_block (fin2:=(Sum.elim (fun(t39:Unit)=>(Exit.normal,⟨mkE 154 0 [(1,dV d),(5,dS t.1),(6,.slc 0),(7,dI t.2.1)],[some (.seq (.pair (.int .i64) (.pair (.int .i64) (.pair (.int .i64) .unit))) t.2.2)]⟩)) (fun(t39:Bool)=>(Exit.ret,⟨mkE 154 0 [(4,dB t39)],[]⟩)))) (id:=0) (link_loop (mk:=fun(s:Int)=>⟨mkE 154 0 [(1,dV d),(5,dS t.1),(6,.slc 0),(7,dI t.2.1),(10,dI s)],[some (.seq (.pair (.int .i64) (.pair (.int .i64) (.pair (.int .i64) .unit))) t.2.2)]⟩) (fin:=(Sum.elim (fun(t39:Bool)=>(Exit.ret,⟨mkE 154 0 [(4,dB t39)],[]⟩)) (fun(t39:Unit)=>((Exit.exit 0),⟨mkE 154 0 [(1,dV d),(5,dS t.1),(6,.slc 0),(7,dI t.2.1)],[some (.seq (.pair (.int .i64) (.pair (.int .i64) (.pair (.int .i64) .unit))) t.2.2)]⟩)))) (by
 rintro(t39|t39) f K h
 ·exact h
 ·exact h) (fun s=>link_map (Nty d t.1 t.2.1 s t.2.2) (Sum.elim (fun(t39:Int)=>Sum.inl t39) (Sum.elim (fun(t39:Bool)=>Sum.inr (Sum.inl t39)) (fun(t39:Unit)=>Sum.inr (Sum.inr t39)))) (by
 rintro(t39|t39|t39)
 ·kernel_rfl
 ·kernel_rfl
 ·kernel_rfl)) 0) (Sum.elim (fun(t39:Bool)=>(Sum.inr t39)) (fun(t39:Unit)=>(Sum.inl ()))) (by
 rintro(t39|t39) K h
 ·exact Eq.mp (by kernel_rfl) h
 ·exact Eq.mp (by kernel_rfl) h)))) (fun(t39:Unit)=>(link_group (c:=(cq [0,1,1,1,1,1,1,1,1] (bodyOf Tryz.f3))) (a:=(aq [0,1,1,1,1,1,1,1,1] N1)) [(cq [0,1,1,1,1,1,1,1] (bodyOf Tryz.f3))] [(aq [0,1,1,1,1,1,1,1] N1)] rfl (link_seq (Nya d t.1 t.2.1 t.2.2) (fun(t52:(List Int)×(List (List Int)))=>(link_seq2 (link_seq (Nt4 t.1 t.2.1 t.2.2 t52.1 t52.2) (fun(t38:Unit)=>(link_block (fin2:=(Sum.elim (fun(t38:(List Int)×(List (List Int)))=>(Exit.normal,⟨mkE 154 0 [(5,dS t.1),(6,.slc 0),(7,dI t.2.1),(13,.ptr 1 0),(15,.ptr 2 0)],[some (.seq (.pair (.int .i64) (.pair (.int .i64) (.pair (.int .i64) .unit))) t.2.2),some (.box [dL t52.1,.dat (.list (.list (.int .i64))) t52.2]),some (.box [dL t38.1,.dat (.list (.list (.int .i64))) t38.2])]⟩)) (fun(t38:Bool)=>(Exit.ret,⟨mkE 154 0 [(4,dB t38)],[]⟩)))) (id:=2) (link_loop (mk:=fun(s:Int×(List Int)×(List (List Int)))=>⟨mkE 154 0 [(5,dS t.1),(6,.slc 0),(7,dI t.2.1),(13,.ptr 1 0),(15,.ptr 2 0),(16,dI s.1)],[some (.seq (.pair (.int .i64) (.pair (.int .i64) (.pair (.int .i64) .unit))) t.2.2),some (.box [dL t52.1,.dat (.list (.list (.int .i64))) t52.2]),some (.box [dL s.2.1,.dat (.list (.list (.int .i64))) s.2.2])]⟩) (fin:=(Sum.elim (fun(t38:Bool)=>(Exit.ret,⟨mkE 154 0 [(4,dB t38)],[]⟩)) (fun(t38:(List Int)×(List (List Int)))=>((Exit.exit 2),⟨mkE 154 0 [(5,dS t.1),(6,.slc 0),(7,dI t.2.1),(13,.ptr 1 0),(15,.ptr 2 0)],[some (.seq (.pair (.int .i64) (.pair (.int .i64) (.pair (.int .i64) .unit))) t.2.2),some (.box [dL t52.1,.dat (.list (.list (.int .i64))) t52.2]),some (.box [dL t38.1,.dat (.list (.list (.int .i64))) t38.2])]⟩)))) (by
 rintro(t38|t38) f K h
 ·exact h
 ·exact h) (fun s=>link_map (Nzd t.1 t.2.1 s.1 t.2.2 t52.1 t52.2 s.2.1 s.2.2) (Sum.elim (fun(t38:Int×(List Int)×(List (List Int)))=>Sum.inl (t38.1,t38.2.1,t38.2.2)) (Sum.elim (fun(t38:Bool)=>Sum.inr (Sum.inl t38)) (fun(t38:(List Int)×(List (List Int)))=>Sum.inr (Sum.inr t38)))) (by
 rintro(t38|t38|t38)
 ·kernel_rfl
 ·kernel_rfl
 ·kernel_rfl)) (0,t52.1,t52.2)) (Sum.elim (fun(t38:Bool)=>(Sum.inr t38)) (fun(t38:(List Int)×(List (List Int)))=>(Sum.inl (t38.1,t38.2)))) (by
 rintro(t38|t38) K h
 ·exact Eq.mp (by kernel_rfl) h
 ·exact Eq.mp (by kernel_rfl) h)))) (fun(t38:(List Int)×(List (List Int)))=>(Nre t.1 t.2.1 t.2.2 t52.1 t52.2 t38.1 t38.2)) (fun(t38:Bool)=>t38) (by
 rintro t38
 ·kernel_rfl) (by
 rintro t38 f K h
 ·exact h)))))) (fun(t39:Bool)=>t39) (by
 rintro t39
 ·kernel_rfl) (by
 rintro t39 f K h
 ·exact h))) (fun(t:Bool)=>t) (by
 rintro t
 ·kernel_rfl) (by
 rintro t f K h
 ·exact h)))) (by unfold N2n;kernel_rfl) (by
 intro t
 exact ret_mk [dB t] (by kernel_rfl) (by kernel_rfl) (by kernel_rfl) (by kernel_rfl)) h
def No1:Fun:=fun avs H=>
 match avs,H with
 |[.dat (.list (.int .u8)) a,.dat (.list (.int .u8)) b],[]=>⟨_,N2n a b,fun(t:Bool)=>(dB t,[]),[],none⟩
 |_,_=>Ans.no
theorem N18f:Sound Tryz.prog 3 No1:=by
 refine fn_sound' (C:=N1r) (c:=bodyOf Tryz.f3) (cok_of tys_ok (allc N17x (allc N14c (allc Nzl (allc Ny5 (allc Nv5 (allc Nke (allc Nd8 (allc N15p (allc N12j (allc Nz8 (allc N158 (allc N17a alln)))))))))))) (allc Tryz.call4 (allc Tryz.call5 (allc Tryz.call6 (allc Tryz.call7 (allc Tryz.call8 (allc Tryz.call9 (allc Tryz.call11 (allc Tryz.call10 (allc Tryz.call12 (allc Tryz.call13 (allc Tryz.call15 (allc Tryz.call14 alln)))))))))))) (by kernel_rfl)) Tryz.func3 (by kernel_rfl) LL N1 ?_
 intro avs H r H' h
 unfold No1 at h
 split at h
 ·refine Awp.cast ?_ ?_ ?_ (N14z _ _ h)<;>kernel_rfl
 ·simp[Ans.no,Ans.run] at h
end Go.Rv
