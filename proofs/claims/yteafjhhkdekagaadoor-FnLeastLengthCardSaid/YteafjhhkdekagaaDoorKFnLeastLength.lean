/-
  The checked code answers as the plain functions do; written by program. Conditions: none.
-/
import Derived.Test.YteafjhhkdekagaaDoorKFnLeastLengtha
import Derived.Test.YteafjhhkdekagaaDoorProg
set_option linter.unusedVariables false
set_option linter.unusedSimpArgs false
set_option linter.defProp false
set_option maxRecDepth 100000
namespace Go.Rv
open Go.Proofs
def N11:Ann:=(.seq (.leaf [0]) (.seq (.leaf [0,3]) (.seq (.seq (.leaf [3,11,12,13]) (.block (.loop (.seq (.leaf [3,11,12,13,14]) (.seq (.cond (.leaf [3,11,12,13]) (.leaf [3])) (.seq (.block (.seq (.leaf [3,4,5,11,12,13]) (.seq (.leaf [3,6,7,11,12,13]) (.seq (.leaf [3,6,11,12,13,25]) (.cond (.leaf [3,11,12,13]) (.leaf [3,11,12,13])))))) (.leaf [3,11,12,13]))))))) (.seq (.leaf [2]) (.leaf [2])))))
noncomputable def N2z:Ctx:=⟨tlook tys,olook [(50,N9e)],ioF,0,false,[]⟩
theorem Nrw (a:List Int):Link N2z LL (Code.seq (cq [0] (bodyOf Tryd.f31)) (cq [0,1] (bodyOf Tryd.f31))) (Ann.seq (aq [0] N11) (aq [0,1] N11)) ⟨mkE 32 0 [(0,dL a)],[]⟩ (N7c a) (fun(t:(List (Int×Int×Unit)))=>(Exit.normal,⟨mkE 32 0 [(0,dL a),(3,.slc 0)],[some (.seq (.pair (.int .i64) (.pair (.int .i64) .unit)) t)]⟩)):= .of fun K h=>by
 simp only[N7c,wpW] at h
 exact .of (by kernel_rfl) h
theorem Nu2 (a:List Int) (b:List (Int×Int×Unit)):Link N2z LL (cq [0,0,1,1] (bodyOf Tryd.f31)) (aq [0,0,1,1] N11) ⟨mkE 32 0 [(0,dL a),(3,.slc 0)],[some (.seq (.pair (.int .i64) (.pair (.int .i64) .unit)) b)]⟩ (N8m a) (fun(t:Int)=>(Exit.normal,⟨mkE 32 0 [(3,.slc 0),(11,dL a),(12,dI t),(13,dI 0)],[some (.seq (.pair (.int .i64) (.pair (.int .i64) .unit)) b)]⟩)):= .of fun K h=>by
 simp only[N8m,wpW] at h
 exact .of (by kernel_rfl) h
theorem Nr5 (a:List Int) (b c:Int) (d:List (Int×Int×Unit)):Link N2z LL (cq [0,0,1,0,1,1] (bodyOf Tryd.f31)) (aq [0,0,1,0,1,1] N11) ⟨mkE 32 0 [(3,.slc 0),(11,dL a),(12,dI b),(13,dI c)],[some (.seq (.pair (.int .i64) (.pair (.int .i64) .unit)) d)]⟩ (N36 a b c d) (Sum.elim (fun(t:Int×(List (Int×Int×Unit)))=>(Exit.normal,⟨mkE 32 0 [(3,.slc 0),(11,dL a),(12,dI b),(13,dI t.1)],[some (.seq (.pair (.int .i64) (.pair (.int .i64) .unit)) t.2)]⟩)) (fun(t:(List (Int×Int×Unit)))=>((Exit.exit 0),⟨mkE 32 0 [(3,.slc 0)],[some (.seq (.pair (.int .i64) (.pair (.int .i64) .unit)) t)]⟩))):= .of fun K h=>by
 simp only[N36,wpW] at h
 exact .of (by kernel_rfl) h
theorem Nst (a:List (Int×Int×Unit)):Link N2z LL (cq [1,1,1] (bodyOf Tryd.f31)) (aq [1,1,1] N11) ⟨mkE 32 0 [(3,.slc 0)],[some (.seq (.pair (.int .i64) (.pair (.int .i64) .unit)) a)]⟩ (N59 a) (fun(t:(List (Int×Int×Unit)))=>(Exit.ret,⟨mkE 32 0 [(2,.slc 0)],[some (.seq (.pair (.int .i64) (.pair (.int .i64) .unit)) t)]⟩)):= .of fun K h=>by
 simp only[N59,wpW] at h
 exact .of (by kernel_rfl) h
theorem Npr (b:List Int) {r:AV} {H':Heap} (h:(Ans.mk _ (N26 b) (fun(t:(List (Int×Int×Unit)))=>(.slc 0,[some (.seq (.pair (.int .i64) (.pair (.int .i64) .unit)) t)])) [] none).run=some (r,H')):Awp N2z LL (bodyOf Tryd.f31) N11 ⟨mkE 32 0 [(0,dL b)],[]⟩ (Ret (tlook tys) Tryd.f31.results.toList r H'):=
 ret_of' (Link.cast (by kernel_rfl) (by kernel_rfl) (link_group (c:=(cq [0,1] (bodyOf Tryd.f31))) (a:=(aq [0,1] N11)) [(cq [0] (bodyOf Tryd.f31))] [(aq [0] N11)] rfl (link_seq (Nrw b) (fun(t:(List (Int×Int×Unit)))=>(link_seq (link_seq (Nu2 b t) (fun(t31:Int)=>(link_block (fin2:=(fun(t8:(List (Int×Int×Unit)))=>(Exit.normal,⟨mkE 32 0 [(3,.slc 0)],[some (.seq (.pair (.int .i64) (.pair (.int .i64) .unit)) t8)]⟩))) (id:=0) (link_loop (mk:=fun(s:Int×(List (Int×Int×Unit)))=>⟨mkE 32 0 [(3,.slc 0),(11,dL b),(12,dI t31),(13,dI s.1)],[some (.seq (.pair (.int .i64) (.pair (.int .i64) .unit)) s.2)]⟩) (fin:=(fun(t8:(List (Int×Int×Unit)))=>((Exit.exit 0),⟨mkE 32 0 [(3,.slc 0)],[some (.seq (.pair (.int .i64) (.pair (.int .i64) .unit)) t8)]⟩))) (by
 rintro t8 f K h
 ·exact h) (fun s=>link_map (Nr5 b t31 s.1 s.2) (Sum.elim (fun(t8:Int×(List (Int×Int×Unit)))=>Sum.inl (t8.1,t8.2)) (fun(t8:(List (Int×Int×Unit)))=>Sum.inr t8)) (by
 rintro(t8|t8)
 ·kernel_rfl
 ·kernel_rfl)) (0,t)) (fun(t8:(List (Int×Int×Unit)))=>t8) (by
 rintro t8 K h
 ·exact Eq.mp (by kernel_rfl) h)))) (fun(t31:(List (Int×Int×Unit)))=>(Nst t31))))))) (by unfold N26;kernel_rfl) (by
 intro t
 exact ret_mk [.slc 0] (by kernel_rfl) (by kernel_rfl) (by kernel_rfl) (by kernel_rfl)) h
def N9f:Fun:=fun avs H=>
 match avs,H with
 |[.dat (.list (.int .i64)) a],[]=>⟨_,N26 a,fun(t:(List (Int×Int×Unit)))=>(.slc 0,[some (.seq (.pair (.int .i64) (.pair (.int .i64) .unit)) t)]),[],none⟩
 |_,_=>Ans.no
theorem Nt1:Sound Tryd.prog 31 N9f:=by
 refine fn_sound' (C:=N2z) (c:=bodyOf Tryd.f31) (cok_of tys_ok (allc Nmt alln) (allc Tryd.call50 alln) (by kernel_rfl)) Tryd.func31 (by kernel_rfl) LL N11 ?_
 intro avs H r H' h
 unfold N9f at h
 split at h
 ·refine Awp.cast ?_ ?_ ?_ (Npr _ h)<;>kernel_rfl
 ·simp[Ans.no,Ans.run] at h
def Na5:Ann:=(.seq (.leaf [1]) (.seq (.leaf [2]) (.leaf [2])))
noncomputable def Naf:Ctx:=⟨tlook tys,olook [],ioF,0,false,[]⟩
theorem Nw6 (a b:Int):Link Naf LL (bodyOf Tryd.f32) Na5 ⟨mkE 8 0 [(0,.agg [dI a,dI b])],[]⟩ (Naz a b) (fun(t:Int)=>(Exit.ret,⟨mkE 8 0 [(2,dI t)],[]⟩)):= .of fun K h=>by
 simp only[Naz,wpW] at h
 exact .of (by kernel_rfl) h
theorem Nu4 (a b:Int) {r:AV} {H':Heap} (h:(Ans.mk _ (N45 a b) (fun(t:Int)=>(dI t,[])) [] none).run=some (r,H')):Awp Naf LL (bodyOf Tryd.f32) Na5 ⟨mkE 8 0 [(0,.agg [dI a,dI b])],[]⟩ (Ret (tlook tys) Tryd.f32.results.toList r H'):=
 ret_of' (Nw6 a b) (by unfold N45;kernel_rfl) (by
 intro t
 exact ret_mk [dI t] (by kernel_rfl) (by kernel_rfl) (by kernel_rfl) (by kernel_rfl)) h
def N92:Fun:=fun avs H=>
 match avs,H with
 |[.agg [.dat (.int .i64) a,.dat (.int .i64) b]],[]=>⟨_,N45 a b,fun(t:Int)=>(dI t,[]),[],none⟩
 |_,_=>Ans.no
theorem Npo:Sound Tryd.prog 32 N92:=by
 refine fn_sound' (C:=Naf) (c:=bodyOf Tryd.f32) (cok_of tys_ok (alln) (alln) (by kernel_rfl)) Tryd.func32 (by kernel_rfl) LL Na5 ?_
 intro avs H r H' h
 unfold N92 at h
 split at h
 ·refine Awp.cast ?_ ?_ ?_ (Nu4 _ _ h)<;>kernel_rfl
 ·simp[Ans.no,Ans.run] at h
def Nj:Ann:=(.seq (.leaf [0]) (.seq (.seq (.leaf [0,8]) (.cond (.seq (.leaf [2]) (.leaf [2])) (.leaf [0]))) (.seq (.leaf [0,3]) (.seq (.seq (.leaf [3,10,11,12]) (.block (.loop (.seq (.leaf [3,10,11,12,13]) (.seq (.cond (.leaf [3,10,11,12]) (.leaf [3])) (.seq (.block (.seq (.leaf [3,5,10,11,12]) (.leaf [3,10,11,12]))) (.leaf [3,10,11,12]))))))) (.seq (.leaf [2]) (.leaf [2]))))))
noncomputable def N3u:Ctx:=⟨tlook tys,olook [(8,Nv),(31,N9f),(32,N92)],ioF,0,false,[]⟩
theorem Nwt (a:List Int):Link N3u LL (Code.seq (cq [0] (bodyOf Tryd.f12)) (Code.seq (cq [0,1] (bodyOf Tryd.f12)) (cq [0,1,1] (bodyOf Tryd.f12)))) (Ann.seq (aq [0] Nj) (Ann.seq (aq [0,1] Nj) (aq [0,1,1] Nj))) ⟨mkE 22 0 [(0,dL a)],[]⟩ (N82 a) (Sum.elim (fun(t:Unit)=>(Exit.normal,⟨mkE 22 0 [(0,dL a),(3,dI 0)],[]⟩)) (fun(t:Int)=>(Exit.ret,⟨mkE 22 0 [(2,dI t)],[]⟩))):= .of fun K h=>by
 simp only[N82,wpW] at h
 exact .of (by kernel_rfl) h
theorem Nn7 (a:List Int):Link N3u LL (cq [0,0,1,1,1] (bodyOf Tryd.f12)) (aq [0,0,1,1,1] Nj) ⟨mkE 22 0 [(0,dL a),(3,dI 0)],[]⟩ (N7x a) (fun(t:Int×(List (Int×Int×Unit)))=>(Exit.normal,⟨mkE 22 0 [(3,dI 0),(10,.slc 0),(11,dI t.1),(12,dI 0)],[some (.seq (.pair (.int .i64) (.pair (.int .i64) .unit)) t.2)]⟩)):= .of fun K h=>by
 simp only[N7x,wpW] at h
 exact .of (by kernel_rfl) h
theorem Npj (a b c:Int) (d:List (Int×Int×Unit)):Link N3u LL (cq [0,0,1,0,1,1,1] (bodyOf Tryd.f12)) (aq [0,0,1,0,1,1,1] Nj) ⟨mkE 22 0 [(3,dI a),(10,.slc 0),(11,dI b),(12,dI c)],[some (.seq (.pair (.int .i64) (.pair (.int .i64) .unit)) d)]⟩ (N3x a b c d) (Sum.elim (fun(t:Int×Int)=>(Exit.normal,⟨mkE 22 0 [(3,dI t.1),(10,.slc 0),(11,dI b),(12,dI t.2)],[some (.seq (.pair (.int .i64) (.pair (.int .i64) .unit)) d)]⟩)) (fun(t:Int)=>((Exit.exit 0),⟨mkE 22 0 [(3,dI t)],[]⟩))):= .of fun K h=>by
 simp only[N3x,wpW] at h
 exact .of (by kernel_rfl) h
theorem Nsw (a:Int):Link N3u LL (cq [1,1,1,1] (bodyOf Tryd.f12)) (aq [1,1,1,1] Nj) ⟨mkE 22 0 [(3,dI a)],[]⟩ (Ncq a) (fun(t:Int)=>(Exit.ret,⟨mkE 22 0 [(2,dI t)],[]⟩)):= .of fun K h=>by
 simp only[Ncq,wpW] at h
 exact .of (by kernel_rfl) h
theorem Nip (b:List Int) {r:AV} {H':Heap} (h:(Ans.mk _ (Nf b) (fun(t:Int)=>(dI t,[])) [] none).run=some (r,H')):Awp N3u LL (bodyOf Tryd.f12) Nj ⟨mkE 22 0 [(0,dL b)],[]⟩ (Ret (tlook tys) Tryd.f12.results.toList r H'):=
 ret_of' (Link.cast (by kernel_rfl) (by kernel_rfl) (link_group (c:=(cq [0,1,1] (bodyOf Tryd.f12))) (a:=(aq [0,1,1] Nj)) [(cq [0] (bodyOf Tryd.f12)),(cq [0,1] (bodyOf Tryd.f12))] [(aq [0] Nj),(aq [0,1] Nj)] rfl (link_seq2 (Nwt b) (fun(t:Unit)=>(link_seq (link_seq (Nn7 b) (fun(t:Int×(List (Int×Int×Unit)))=>(link_block (fin2:=(fun(t9:Int)=>(Exit.normal,⟨mkE 22 0 [(3,dI t9)],[]⟩))) (id:=0) (link_loop (mk:=fun(s:Int×Int)=>⟨mkE 22 0 [(3,dI s.1),(10,.slc 0),(11,dI t.1),(12,dI s.2)],[some (.seq (.pair (.int .i64) (.pair (.int .i64) .unit)) t.2)]⟩) (fin:=(fun(t9:Int)=>((Exit.exit 0),⟨mkE 22 0 [(3,dI t9)],[]⟩))) (by
 rintro t9 f K h
 ·exact h) (fun s=>link_map (Npj s.1 t.1 s.2 t.2) (Sum.elim (fun(t9:Int×Int)=>Sum.inl (t9.1,t9.2)) (fun(t9:Int)=>Sum.inr t9)) (by
 rintro(t9|t9)
 ·kernel_rfl
 ·kernel_rfl)) (0,0)) (fun(t9:Int)=>t9) (by
 rintro t9 K h
 ·exact Eq.mp (by kernel_rfl) h)))) (fun(t:Int)=>(Nsw t)))) (fun(t:Int)=>t) (by
 rintro t
 ·kernel_rfl) (by
 rintro t f K h
 ·exact h)))) (by unfold Nf;kernel_rfl) (by
 intro t
 exact ret_mk [dI t] (by kernel_rfl) (by kernel_rfl) (by kernel_rfl) (by kernel_rfl)) h
def N9j:Fun:=fun avs H=>
 match avs,H with
 |[.dat (.list (.int .i64)) a],[]=>⟨_,Nf a,fun(t:Int)=>(dI t,[]),[],none⟩
 |_,_=>Ans.no
theorem Nr6:Sound Tryd.prog 12 N9j:=by
 refine fn_sound' (C:=N3u) (c:=bodyOf Tryd.f12) (cok_of tys_ok (allc N1r (allc Nt1 (allc Npo alln))) (allc Tryd.call8 (allc Tryd.call31 (allc Tryd.call32 alln))) (by kernel_rfl)) Tryd.func12 (by kernel_rfl) LL Nj ?_
 intro avs H r H' h
 unfold N9j at h
 split at h
 ·refine Awp.cast ?_ ?_ ?_ (Nip _ h)<;>kernel_rfl
 ·simp[Ans.no,Ans.run] at h
def Nbg:Ann:=(.seq (.leaf [0]) (.seq (.leaf [2]) (.leaf [2])))
noncomputable def N97:Ctx:=⟨tlook tys,olook [(55,N52)],ioF,0,false,[]⟩
theorem Nrl (a:Int):Link N97 LL (bodyOf Tryd.f67) Nbg ⟨mkE 6 0 [(0,dI a)],[]⟩ (Nae a) (fun(t:Int)=>(Exit.ret,⟨mkE 6 0 [(2,dW t)],[]⟩)):= .of fun K h=>by
 simp only[Nae,wpW] at h
 exact .of (by kernel_rfl) h
theorem Nw1 (a:Int) {r:AV} {H':Heap} (h:(Ans.mk _ (N2i a) (fun(t:Int)=>(dW t,[])) [] none).run=some (r,H')):Awp N97 LL (bodyOf Tryd.f67) Nbg ⟨mkE 6 0 [(0,dI a)],[]⟩ (Ret (tlook tys) Tryd.f67.results.toList r H'):=
 ret_of' (Nrl a) (by unfold N2i;kernel_rfl) (by
 intro t
 exact ret_mk [dW t] (by kernel_rfl) (by kernel_rfl) (by kernel_rfl) (by kernel_rfl)) h
def Ncn:Fun:=fun avs H=>
 match avs,H with
 |[.dat (.int .i64) a],[]=>⟨_,N2i a,fun(t:Int)=>(dW t,[]),[],none⟩
 |_,_=>Ans.no
theorem Npm:Sound Tryd.prog 67 Ncn:=by
 refine fn_sound' (C:=N97) (c:=bodyOf Tryd.f67) (cok_of tys_ok (allc Nan alln) (allc Tryd.call55 alln) (by kernel_rfl)) Tryd.func67 (by kernel_rfl) LL Nbg ?_
 intro avs H r H' h
 unfold Ncn at h
 split at h
 ·refine Awp.cast ?_ ?_ ?_ (Nw1 _ h)<;>kernel_rfl
 ·simp[Ans.no,Ans.run] at h
def Nak:Ann:=(.seq (.leaf [0,1]) (.seq (.leaf [1,6]) (.seq (.leaf [4,5]) (.leaf [4,5]))))
noncomputable def N9l:Ctx:=⟨tlook tys,olook [(42,N4t),(67,Ncn)],ioF,0,false,[]⟩
theorem Npb (a:List Int) (b:Int):Link N9l LL (bodyOf Tryd.f59) Nak ⟨mkE 18 0 [(0,dL a),(1,dI b)],[]⟩ (N50 a b) (fun(t:Int×Int)=>(Exit.ret,⟨mkE 18 0 [(4,dW t.1),(5,dW t.2)],[]⟩)):= .of fun K h=>by
 simp only[N50,wpW] at h
 exact .of (by kernel_rfl) h
theorem Njy (a:List Int) (b:Int) {r:AV} {H':Heap} (h:(Ans.mk _ (N23 a b) (fun(t:Int×Int)=>(.tup [dW t.1,dW t.2],[])) [] none).run=some (r,H')):Awp N9l LL (bodyOf Tryd.f59) Nak ⟨mkE 18 0 [(0,dL a),(1,dI b)],[]⟩ (Ret (tlook tys) Tryd.f59.results.toList r H'):=
 ret_of' (Npb a b) (by unfold N23;kernel_rfl) (by
 intro t
 exact ret_mk [dW t.1,dW t.2] (by kernel_rfl) (by kernel_rfl) (by kernel_rfl) (by kernel_rfl)) h
def Ncr:Fun:=fun avs H=>
 match avs,H with
 |[.dat (.list (.int .i64)) a,.dat (.int .i64) b],[]=>⟨_,N23 a b,fun(t:Int×Int)=>(.tup [dW t.1,dW t.2],[]),[],none⟩
 |_,_=>Ans.no
theorem Nun:Sound Tryd.prog 59 Ncr:=by
 refine fn_sound' (C:=N9l) (c:=bodyOf Tryd.f59) (cok_of tys_ok (allc N9o (allc Npm alln)) (allc Tryd.call42 (allc Tryd.call67 alln)) (by kernel_rfl)) Tryd.func59 (by kernel_rfl) LL Nak ?_
 intro avs H r H' h
 unfold Ncr at h
 split at h
 ·refine Awp.cast ?_ ?_ ?_ (Njy _ _ h)<;>kernel_rfl
 ·simp[Ans.no,Ans.run] at h
def Ncf:Ann:=(.seq (.leaf [0,1,2]) (.seq (.leaf [0,1,2,7,8]) (.seq (.leaf [0,1,8]) (.seq (.leaf [6]) (.leaf [6])))))
def N3n:Ann:=(.seq (.leaf [0,1,2]) (.seq (.seq (.leaf [0,1,10,11,12]) (.block (.loop (.seq (.leaf [0,1,10,11,12,13]) (.seq (.cond (.leaf [0,1,10,11,12]) (.leaf [0])) (.seq (.block (.seq (.leaf [0,1,8,10,11,12]) (.leaf [0,1,10,11,12]))) (.leaf [0,1,10,11,12]))))))) (.seq (.leaf [6]) (.leaf [6]))))
def Nq (n:Nat):Fun:=fun avs H=>
 match avs,H with
 |[.slc 0,.dat (.list (.int .i64)) a,.dat (.int .i64) b],[some (.seq (.int .i64) c)]=>⟨_,Ng n a b c,fun(t:(List Int))=>(.slc 0,[some (sI t)]),[0],none⟩
 |_,_=>Ans.no
def Nr (n:Nat):Fun:=fun avs H=>
 match avs,H with
 |[.slc 0,.dat (.list (.int .i64)) a,.dat (.int .u64) b],[some (.seq (.int .i64) c)]=>⟨_,N1a n a b c,fun(t:(List Int))=>(.slc 0,[some (sI t)]),[0],none⟩
 |_,_=>Ans.no
noncomputable def Naj (n:Nat):Ctx:=⟨tlook tys,olook [(59,Ncr),(60,Nr n)],ioF,1,false,[0]⟩
noncomputable def N2o (n:Nat):Ctx:=⟨tlook tys,olook [(43,N4x),(51,Nq n)],ioF,1,false,[0]⟩
theorem Nsh (n:Nat) (a:List Int) (b:Int) (c:List Int):Link (Naj n) LL (bodyOf Tryd.f51) Ncf ⟨mkE 26 0 [(0,.slc 0),(1,dL a),(2,dI b)],[some (sI c)]⟩ (N4g (Ng n) (N1a n) a b c) (fun(t:(List Int))=>(Exit.ret,⟨mkE 26 0 [(6,.slc 0)],[some (sI t)]⟩)):= .of fun K h=>by
 simp only[N4g,wpW] at h
 exact .of (by kernel_rfl) h
theorem Nj2 (n:Nat) (a:List Int) (b:Int) (c:List Int) {r:AV} {H':Heap} (h:(Ans.mk _ (Ng (n+1) a b c) (fun(t:(List Int))=>(.slc 0,[some (sI t)])) [0] none).run=some (r,H')):Awp (Naj n) LL (bodyOf Tryd.f51) Ncf ⟨mkE 26 0 [(0,.slc 0),(1,dL a),(2,dI b)],[some (sI c)]⟩ (Ret (tlook tys) Tryd.f51.results.toList r H'):=
 ret_of' (Nsh n a b c) (by(show _=_);kernel_rfl) (by
 intro t
 exact ret_mk [.slc 0] (by kernel_rfl) (by kernel_rfl) (by kernel_rfl) (by kernel_rfl)) h
theorem Nkb (n:Nat) (a:List Int) (b:Int) (c:List Int):Link (N2o n) LL (cq [0] (bodyOf Tryd.f60)) (aq [0] N3n) ⟨mkE 22 0 [(0,.slc 0),(1,dL a),(2,dW b)],[some (sI c)]⟩ (N7l (Ng n) (N1a n)) (fun(t:Unit)=>(Exit.normal,⟨mkE 22 0 [(0,.slc 0),(1,dL a),(2,dW b)],[some (sI c)]⟩)):= .of fun K h=>by
 simp only[N7l,wpW] at h
 exact .of (by kernel_rfl) h
theorem Nw2 (n:Nat) (a:List Int) (b:Int) (c:List Int):Link (N2o n) LL (cq [0,0,1] (bodyOf Tryd.f60)) (aq [0,0,1] N3n) ⟨mkE 22 0 [(0,.slc 0),(1,dL a),(2,dW b)],[some (sI c)]⟩ (N5y (Ng n) (N1a n) b) (fun(t:Int×(List Int))=>(Exit.normal,⟨mkE 22 0 [(0,.slc 0),(1,dL a),(10,.slc 1),(11,dI t.1),(12,dI 0)],[some (sI c),some (sI t.2)]⟩)):= .of fun K h=>by
 simp only[N5y,wpW] at h
 exact .of (by kernel_rfl) h
theorem Njs (n:Nat) (a:List Int) (b c:Int) (d g:List Int):Link (N2o n) LL (cq [0,0,1,0,1] (bodyOf Tryd.f60)) (aq [0,0,1,0,1] N3n) ⟨mkE 22 0 [(0,.slc 0),(1,dL a),(10,.slc 1),(11,dI b),(12,dI c)],[some (sI d),some (sI g)]⟩ (N2n (Ng n) (N1a n) a b c d g) (Sum.elim (fun(t:Int×(List Int))=>(Exit.normal,⟨mkE 22 0 [(0,.slc 0),(1,dL a),(10,.slc 1),(11,dI b),(12,dI t.1)],[some (sI t.2),some (sI g)]⟩)) (fun(t:(List Int))=>((Exit.exit 0),⟨mkE 22 0 [(0,.slc 0)],[some (sI t)]⟩))):= .of fun K h=>by
 simp only[N2n,wpW] at h
 exact .of (by kernel_rfl) h
theorem Ntc (n:Nat) (a:List Int):Link (N2o n) LL (cq [1,1] (bodyOf Tryd.f60)) (aq [1,1] N3n) ⟨mkE 22 0 [(0,.slc 0)],[some (sI a)]⟩ (N6u (Ng n) (N1a n) a) (fun(t:(List Int))=>(Exit.ret,⟨mkE 22 0 [(6,.slc 0)],[some (sI t)]⟩)):= .of fun K h=>by
 simp only[N6u,wpW] at h
 exact .of (by kernel_rfl) h
theorem Nua (n:Nat) (a:List Int) (b:Int) (c:List Int) {r:AV} {H':Heap} (h:(Ans.mk _ (N1a (n+1) a b c) (fun(t:(List Int))=>(.slc 0,[some (sI t)])) [0] none).run=some (r,H')):Awp (N2o n) LL (bodyOf Tryd.f60) N3n ⟨mkE 22 0 [(0,.slc 0),(1,dL a),(2,dW b)],[some (sI c)]⟩ (Ret (tlook tys) Tryd.f60.results.toList r H'):=
 ret_of' (Link.cast (by kernel_rfl) (by kernel_rfl) (link_seq (Nkb n a b c) (fun(t:Unit)=>(link_seq (link_seq (Nw2 n a b c) (fun(t:Int×(List Int))=>(link_block (fin2:=(fun(t10:(List Int))=>(Exit.normal,⟨mkE 22 0 [(0,.slc 0)],[some (sI t10)]⟩))) (id:=0) (link_loop (mk:=fun(s:Int×(List Int))=>⟨mkE 22 0 [(0,.slc 0),(1,dL a),(10,.slc 1),(11,dI t.1),(12,dI s.1)],[some (sI s.2),some (sI t.2)]⟩) (fin:=(fun(t10:(List Int))=>((Exit.exit 0),⟨mkE 22 0 [(0,.slc 0)],[some (sI t10)]⟩))) (by
 rintro t10 f K h
 ·exact h) (fun s=>link_map (Njs n a t.1 s.1 s.2 t.2) (Sum.elim (fun(t10:Int×(List Int))=>Sum.inl (t10.1,t10.2)) (fun(t10:(List Int))=>Sum.inr t10)) (by
 rintro(t10|t10)
 ·kernel_rfl
 ·kernel_rfl)) (0,c)) (fun(t10:(List Int))=>t10) (by
 rintro t10 K h
 ·exact Eq.mp (by kernel_rfl) h)))) (fun(t:(List Int))=>(Ntc n t)))))) (by(show _=_);kernel_rfl) (by
 intro t
 exact ret_mk [.slc 0] (by kernel_rfl) (by kernel_rfl) (by kernel_rfl) (by kernel_rfl)) h
theorem Nij (n:Nat) (h51:Sound Tryd.prog 51 (Nq n)) (h60:Sound Tryd.prog 60 (Nr n)):Sound Tryd.prog 51 (Nq (n+1)):=by
 refine fn_sound' (C:=Naj n) (c:=bodyOf Tryd.f51) (cok_of tys_ok (allc Nun (allc h60 alln)) (allc Tryd.call59 (allc Tryd.call60 alln)) (by kernel_rfl)) Tryd.func51 (by kernel_rfl) LL Ncf ?_
 intro avs H r H' h
 unfold Nq at h
 split at h
 ·refine Awp.cast ?_ ?_ ?_ (Nj2 n _ _ _ h)<;>kernel_rfl
 ·simp[Ans.no,Ans.run] at h
theorem Nw7:Sound Tryd.prog 51 (Nq 0):=by
 intro avs H r H' h
 unfold Nq at h
 split at h
 ·simp[Ng,N5,Ans.run] at h
 ·simp[Ans.no,Ans.run] at h
theorem Nm0 (n:Nat) (h51:Sound Tryd.prog 51 (Nq n)) (h60:Sound Tryd.prog 60 (Nr n)):Sound Tryd.prog 60 (Nr (n+1)):=by
 refine fn_sound' (C:=N2o n) (c:=bodyOf Tryd.f60) (cok_of tys_ok (allc Nck (allc h51 alln)) (allc Tryd.call43 (allc Tryd.call51 alln)) (by kernel_rfl)) Tryd.func60 (by kernel_rfl) LL N3n ?_
 intro avs H r H' h
 unfold Nr at h
 split at h
 ·refine Awp.cast ?_ ?_ ?_ (Nua n _ _ _ h)<;>kernel_rfl
 ·simp[Ans.no,Ans.run] at h
theorem Nud:Sound Tryd.prog 60 (Nr 0):=by
 intro avs H r H' h
 unfold Nr at h
 split at h
 ·simp[N1a,N5,Ans.run] at h
 ·simp[Ans.no,Ans.run] at h
theorem Nar: ∀n,Sound Tryd.prog 51 (Nq n)∧Sound Tryd.prog 60 (Nr n)
 |0=>⟨Nw7,Nud⟩
 |n+1=>by
  obtain⟨h51,h60⟩:=Nar n
  exact⟨Nij n h51 h60,Nm0 n h51 h60⟩
def N7w:Fun:=fun avs H=>
 match avs,H with
 |[.slc 0,.dat (.list (.int .i64)) a,.dat (.int .i64) b],[some (.seq (.int .i64) c)]=>⟨_,N49 a b c,fun(t:(List Int))=>(.slc 0,[some (sI t)]),[0],none⟩
 |_,_=>Ans.no
theorem Npf:Sound Tryd.prog 51 N7w:=by
 have e:N7w=Nq RR:=by
  funext avs H
  unfold N7w Nq
  split<;>first|rfl|(simp only[N49])
 rw[e]
 exact(Nar RR).1
def Ncg:Fun:=fun avs H=>
 match avs,H with
 |[.slc 0,.dat (.list (.int .i64)) a,.dat (.int .u64) b],[some (.seq (.int .i64) c)]=>⟨_,Ndv a b c,fun(t:(List Int))=>(.slc 0,[some (sI t)]),[0],none⟩
 |_,_=>Ans.no
theorem Nx3:Sound Tryd.prog 60 Ncg:=by
 have e:Ncg=Nr RR:=by
  funext avs H
  unfold Ncg Nr
  split<;>first|rfl|(simp only[Ndv])
 rw[e]
 exact(Nar RR).2
def Nah:Ann:=(.seq (.leaf [0]) (.seq (.seq (.leaf [0,5]) (.cond (.seq (.leaf [2]) (.leaf [2])) (.leaf [0]))) (.seq (.draw [5,100006] [0,1,3,4,5,2,6,7] [] [2]) (.leaf [2]))))
noncomputable def Nag:Ctx:=⟨tlook tys,olook [(8,Nv),(40,N5v),(51,N7w)],ioF,0,false,[]⟩
theorem Nu1 (a:List Int):Link Nag LL (bodyOf Tryd.f33) Nah ⟨mkE 13 0 [(0,dL a)],[]⟩ (N4v a) (fun(t:(List Int))=>(Exit.ret,⟨mkE 13 0 [(2,.slc 0)],[some (sI t)]⟩)):= .of fun K h=>by
 simp only[N4v,wpW] at h
 exact .of (by kernel_rfl) h
theorem Nne (a:List Int) {r:AV} {H':Heap} (h:(Ans.mk _ (N24 a) (fun(t:(List Int))=>(.slc 0,[some (sI t)])) [] none).run=some (r,H')):Awp Nag LL (bodyOf Tryd.f33) Nah ⟨mkE 13 0 [(0,dL a)],[]⟩ (Ret (tlook tys) Tryd.f33.results.toList r H'):=
 ret_of' (Nu1 a) (by unfold N24;kernel_rfl) (by
 intro t
 exact ret_mk [.slc 0] (by kernel_rfl) (by kernel_rfl) (by kernel_rfl) (by kernel_rfl)) h
def Nbl:Fun:=fun avs H=>
 match avs,H with
 |[.dat (.list (.int .i64)) a],[]=>⟨_,N24 a,fun(t:(List Int))=>(.slc 0,[some (sI t)]),[],none⟩
 |_,_=>Ans.no
theorem Nub:Sound Tryd.prog 33 Nbl:=by
 refine fn_sound' (C:=Nag) (c:=bodyOf Tryd.f33) (cok_of tys_ok (allc N1r (allc Nhn (allc Npf alln))) (allc Tryd.call8 (allc Tryd.call40 (allc Tryd.call51 alln))) (by kernel_rfl)) Tryd.func33 (by kernel_rfl) LL Nah ?_
 intro avs H r H' h
 unfold Nbl at h
 split at h
 ·refine Awp.cast ?_ ?_ ?_ (Nne _ h)<;>kernel_rfl
 ·simp[Ans.no,Ans.run] at h
def N90:Ann:=(.seq (.leaf [0]) (.seq (.leaf [3]) (.seq (.leaf [2]) (.leaf [2]))))
noncomputable def N9m:Ctx:=⟨tlook tys,olook [(33,Nbl),(10,N6o)],ioF,0,false,[]⟩
theorem Nla (a:List Int):Link N9m LL (bodyOf Tryd.f13) N90 ⟨mkE 13 0 [(0,dL a)],[]⟩ (N4m a) (fun(t:(List Int))=>(Exit.ret,⟨mkE 13 0 [(2,.slc 0)],[some (sI t)]⟩)):= .of fun K h=>by
 simp only[N4m,wpW] at h
 exact .of (by kernel_rfl) h
theorem Nui (a:List Int) {r:AV} {H':Heap} (h:(Ans.mk _ (N1y a) (fun(t:(List Int))=>(.slc 0,[some (sI t)])) [] none).run=some (r,H')):Awp N9m LL (bodyOf Tryd.f13) N90 ⟨mkE 13 0 [(0,dL a)],[]⟩ (Ret (tlook tys) Tryd.f13.results.toList r H'):=
 ret_of' (Nla a) (by unfold N1y;kernel_rfl) (by
 intro t
 exact ret_mk [.slc 0] (by kernel_rfl) (by kernel_rfl) (by kernel_rfl) (by kernel_rfl)) h
def N8y:Fun:=fun avs H=>
 match avs,H with
 |[.dat (.list (.int .i64)) a],[]=>⟨_,N1y a,fun(t:(List Int))=>(.slc 0,[some (sI t)]),[],none⟩
 |_,_=>Ans.no
theorem Nn0:Sound Tryd.prog 13 N8y:=by
 refine fn_sound' (C:=N9m) (c:=bodyOf Tryd.f13) (cok_of tys_ok (allc Nub (allc Nd2 alln)) (allc Tryd.call33 (allc Tryd.call10 alln)) (by kernel_rfl)) Tryd.func13 (by kernel_rfl) LL N90 ?_
 intro avs H r H' h
 unfold N8y at h
 split at h
 ·refine Awp.cast ?_ ?_ ?_ (Nui _ h)<;>kernel_rfl
 ·simp[Ans.no,Ans.run] at h
def N0:Ann:=(.seq (.leaf [0,1]) (.seq (.seq (.leaf [0,1,32]) (.cond (.seq (.leaf [4]) (.leaf [4])) (.leaf [0,1]))) (.seq (.leaf [1,5]) (.seq (.leaf [1,5,6]) (.seq (.seq (.leaf [1,5,6,40]) (.cond (.seq (.leaf [4]) (.leaf [4])) (.leaf [1,5,6]))) (.seq (.seq (.leaf [1,5,6,42]) (.cond (.seq (.leaf [4]) (.leaf [4])) (.leaf [1,5,6]))) (.seq (.leaf [1,5,6,7]) (.seq (.leaf [1,5,6,7,8]) (.seq (.seq (.leaf [1,5,6,7,8,9]) (.block (.loop (.seq (.seq (.leaf [1,5,6,7,8,9,58]) (.cond (.leaf [1,5,6,7,8,9]) (.leaf [5,6,7,8]))) (.seq (.block (.seq (.leaf [1,5,6,7,8,9,10]) (.seq (.seq (.leaf [1,5,6,7,8,9,10,63]) (.cond (.leaf [1,5,6,7,8,9,10]) (.leaf [1,5,6,7,8,9,10]))) (.seq (.leaf [1,5,6,7,8,9,10,11]) (.seq (.leaf [1,5,6,7,8,9,10,11]) (.leaf [1,5,6,7,8,9])))))) (.leaf [1,5,6,7,8,9])))))) (.seq (.leaf [5,6,7,12,13]) (.seq (.seq (.leaf [5,6,7,111]) (.cond (.seq (.leaf [4]) (.leaf [4])) (.leaf [5,6,7]))) (.seq (.leaf [5,6,7,14]) (.seq (.leaf [5,6,7,14,15]) (.seq (.seq (.leaf [5,6,7,14,15,16]) (.block (.loop (.seq (.seq (.leaf [5,6,7,14,15,16,114]) (.cond (.leaf [5,6,7,14,15,16]) (.leaf [5,6,7,14,15]))) (.seq (.block (.leaf [5,6,7,14,15,16])) (.leaf [5,6,7,14,15,16])))))) (.seq (.seq (.leaf [5,6,7,14,15,17]) (.block (.loop (.seq (.seq (.leaf [5,6,7,14,15,17,126]) (.cond (.leaf [5,6,7,14,15,17]) (.leaf [5,6,7,14]))) (.seq (.block (.seq (.leaf [5,6,7,14,15,17,18]) (.seq (.leaf [5,6,7,14,15,17,18,19]) (.seq (.seq (.leaf [5,6,7,14,15,17,18,19,20]) (.block (.loop (.seq (.seq (.leaf [5,6,7,14,15,17,18,19,20,133]) (.cond (.leaf [5,6,7,14,15,17,18,19,20]) (.leaf [5,6,7,14,15,17,18]))) (.seq (.block (.seq (.leaf [5,6,7,14,15,17,18,19,20,21]) (.seq (.leaf [5,6,7,14,15,17,18,19,20,21]) (.seq (.leaf [5,6,7,14,15,17,18,19,20,21,22]) (.seq (.leaf [5,6,7,14,15,17,18,19,20,21,22]) (.leaf [5,6,7,14,15,17,18,19,20])))))) (.leaf [5,6,7,14,15,17,18,19,20])))))) (.seq (.leaf [5,6,7,14,15,17,23,24]) (.seq (.leaf [5,6,7,14,15,17,23,176]) (.cond (.leaf [5,6,7,14,15,17]) (.leaf [5,6,7,14,15,17])))))))) (.leaf [5,6,7,14,15,17])))))) (.seq (.leaf [4]) (.leaf [4])))))))))))))))))
noncomputable def N6:Ctx:=⟨tlook tys,olook [(5,N9r),(6,Nbm),(7,Ncz),(8,Nv),(9,Nbx),(10,N6o),(11,Nb7),(12,N9j),(13,N8y)],ioF,0,false,[]⟩
theorem Noo (x3 x4:List Int):Link N6 LL (Code.seq (cq [0] (bodyOf Tryd.f3)) (Code.seq (cq [0,1] (bodyOf Tryd.f3)) (Code.seq (cq [0,1,1] (bodyOf Tryd.f3)) (Code.seq (cq [0,1,1,1] (bodyOf Tryd.f3)) (Code.seq (cq [0,1,1,1,1] (bodyOf Tryd.f3)) (Code.seq (cq [0,1,1,1,1,1] (bodyOf Tryd.f3)) (Code.seq (cq [0,1,1,1,1,1,1] (bodyOf Tryd.f3)) (cq [0,1,1,1,1,1,1,1] (bodyOf Tryd.f3))))))))) (Ann.seq (aq [0] N0) (Ann.seq (aq [0,1] N0) (Ann.seq (aq [0,1,1] N0) (Ann.seq (aq [0,1,1,1] N0) (Ann.seq (aq [0,1,1,1,1] N0) (Ann.seq (aq [0,1,1,1,1,1] N0) (Ann.seq (aq [0,1,1,1,1,1,1] N0) (aq [0,1,1,1,1,1,1,1] N0)))))))) ⟨mkE 199 0 [(0,dV x3),(1,dV x4)],[]⟩ (N5c x3 x4) (Sum.elim (fun(t:Int×Int×(List Int))=>(Exit.normal,⟨mkE 199 0 [(1,dV x4),(5,.slc 0),(6,dI t.1),(7,dI t.2.1),(8,.slc 1)],[some (sI t.2.2),some (sI ([]:List Int))]⟩)) (fun(t:Bool)=>(Exit.ret,⟨mkE 199 0 [(4,dB t)],[]⟩))):= .of fun K h=>by
 simp only[N5c,wpW] at h
 exact .of (by kernel_rfl) h
theorem Ns3 (x4:List Int) (a b:Int) (c:List Int):Link N6 LL (cq [0,0,1,1,1,1,1,1,1,1] (bodyOf Tryd.f3)) (aq [0,0,1,1,1,1,1,1,1,1] N0) ⟨mkE 199 0 [(1,dV x4),(5,.slc 0),(6,dI a),(7,dI b),(8,.slc 1)],[some (sI c),some (sI ([]:List Int))]⟩ (N79) (fun(t:Unit)=>(Exit.normal,⟨mkE 199 0 [(1,dV x4),(5,.slc 0),(6,dI a),(7,dI b),(8,.slc 1),(9,dI 1)],[some (sI c),some (sI ([]:List Int))]⟩)):= .of fun K h=>by
 simp only[N79,wpW] at h
 exact .of (by kernel_rfl) h
theorem Nwr (x4:List Int) (a b c:Int) (d g:List Int):Link N6 LL (cq [0,0,1,0,1,1,1,1,1,1,1,1] (bodyOf Tryd.f3)) (aq [0,0,1,0,1,1,1,1,1,1,1,1] N0) ⟨mkE 199 0 [(1,dV x4),(5,.slc 0),(6,dI a),(7,dI b),(8,.slc 1),(9,dI c)],[some (sI d),some (sI g)]⟩ (N3r x4 b c g) (Sum.elim (fun(t:Int×(List Int))=>(Exit.normal,⟨mkE 199 0 [(1,dV x4),(5,.slc 0),(6,dI a),(7,dI b),(8,.slc 1),(9,dI t.1)],[some (sI d),some (sI t.2)]⟩)) (fun(t:(List Int))=>((Exit.exit 0),⟨mkE 199 0 [(5,.slc 0),(6,dI a),(7,dI b),(8,.slc 1)],[some (sI d),some (sI t)]⟩))):= .of fun K h=>by
 simp only[N3r,wpW] at h
 exact .of (by kernel_rfl) h
theorem Nv2 (a b:Int) (c d:List Int):Link N6 LL (Code.seq (cq [0,1,1,1,1,1,1,1,1,1] (bodyOf Tryd.f3)) (Code.seq (cq [0,1,1,1,1,1,1,1,1,1,1] (bodyOf Tryd.f3)) (Code.seq (cq [0,1,1,1,1,1,1,1,1,1,1,1] (bodyOf Tryd.f3)) (cq [0,1,1,1,1,1,1,1,1,1,1,1,1] (bodyOf Tryd.f3))))) (Ann.seq (aq [0,1,1,1,1,1,1,1,1,1] N0) (Ann.seq (aq [0,1,1,1,1,1,1,1,1,1,1] N0) (Ann.seq (aq [0,1,1,1,1,1,1,1,1,1,1,1] N0) (aq [0,1,1,1,1,1,1,1,1,1,1,1,1] N0)))) ⟨mkE 199 0 [(5,.slc 0),(6,dI a),(7,dI b),(8,.slc 1)],[some (sI c),some (sI d)]⟩ (N51 a c d) (Sum.elim (fun(t:Unit)=>(Exit.normal,⟨mkE 199 0 [(5,.slc 0),(6,dI a),(7,dI b),(14,dI (-1)),(15,dI 1)],[some (sI c)]⟩)) (fun(t:Bool)=>(Exit.ret,⟨mkE 199 0 [(4,dB t)],[]⟩))):= .of fun K h=>by
 simp only[N51,wpW] at h
 exact .of (by kernel_rfl) h
theorem Nsp (a b:Int) (c:List Int):Link N6 LL (cq [0,0,1,1,1,1,1,1,1,1,1,1,1,1,1] (bodyOf Tryd.f3)) (aq [0,0,1,1,1,1,1,1,1,1,1,1,1,1,1] N0) ⟨mkE 199 0 [(5,.slc 0),(6,dI a),(7,dI b),(14,dI (-1)),(15,dI 1)],[some (sI c)]⟩ (N5u) (fun(t:Unit)=>(Exit.normal,⟨mkE 199 0 [(5,.slc 0),(6,dI a),(7,dI b),(14,dI (-1)),(15,dI 1),(16,dI 2)],[some (sI c)]⟩)):= .of fun K h=>by
 simp only[N5u,wpW] at h
 exact .of (by kernel_rfl) h
theorem Nto (a b c d:Int) (g:List Int):Link N6 LL (cq [0,0,1,0,1,1,1,1,1,1,1,1,1,1,1,1,1] (bodyOf Tryd.f3)) (aq [0,0,1,0,1,1,1,1,1,1,1,1,1,1,1,1,1] N0) ⟨mkE 199 0 [(5,.slc 0),(6,dI a),(7,dI b),(14,dI (-1)),(15,dI c),(16,dI d)],[some (sI g)]⟩ (N2w b c d) (Sum.elim (fun(t:Int×Int)=>(Exit.normal,⟨mkE 199 0 [(5,.slc 0),(6,dI a),(7,dI b),(14,dI (-1)),(15,dI t.1),(16,dI t.2)],[some (sI g)]⟩)) (fun(t:Int)=>((Exit.exit 2),⟨mkE 199 0 [(5,.slc 0),(6,dI a),(7,dI b),(14,dI (-1)),(15,dI t)],[some (sI g)]⟩))):= .of fun K h=>by
 simp only[N2w,wpW] at h
 exact .of (by kernel_rfl) h
theorem Nwv (a b c:Int) (d:List Int):Link N6 LL (cq [0,0,1,1,1,1,1,1,1,1,1,1,1,1,1,1] (bodyOf Tryd.f3)) (aq [0,0,1,1,1,1,1,1,1,1,1,1,1,1,1,1] N0) ⟨mkE 199 0 [(5,.slc 0),(6,dI a),(7,dI b),(14,dI (-1)),(15,dI c)],[some (sI d)]⟩ (N54) (fun(t:Unit)=>(Exit.normal,⟨mkE 199 0 [(5,.slc 0),(6,dI a),(7,dI b),(14,dI (-1)),(15,dI c),(17,dI 0)],[some (sI d)]⟩)):= .of fun K h=>by
 simp only[N54,wpW] at h
 exact .of (by kernel_rfl) h
theorem Nk3 (a b c d g:Int) (i:List Int):Link N6 LL (cq [0,0,0,1,0,1,1,1,1,1,1,1,1,1,1,1,1,1,1] (bodyOf Tryd.f3)) (aq [0,0,0,1,0,1,1,1,1,1,1,1,1,1,1,1,1,1,1] N0) ⟨mkE 199 0 [(5,.slc 0),(6,dI a),(7,dI b),(14,dI c),(15,dI d),(17,dI g)],[some (sI i)]⟩ (N2l b c d g) (Sum.elim (fun(t:Unit)=>(Exit.normal,⟨mkE 199 0 [(5,.slc 0),(6,dI a),(7,dI b),(14,dI c),(15,dI d),(17,dI g)],[some (sI i)]⟩)) (fun(t:Int)=>((Exit.exit 4),⟨mkE 199 0 [(5,.slc 0),(6,dI a),(7,dI b),(14,dI t)],[some (sI i)]⟩))):= .of fun K h=>by
 simp only[N2l,wpW] at h
 exact .of (by kernel_rfl) h
theorem Noj (a b c d g:Int) (i:List Int):Link N6 LL (Code.seq (cq [0,0,0,1,0,0,1,0,1,1,1,1,1,1,1,1,1,1,1,1,1,1] (bodyOf Tryd.f3)) (cq [0,1,0,0,1,0,0,1,0,1,1,1,1,1,1,1,1,1,1,1,1,1,1] (bodyOf Tryd.f3))) (Ann.seq (aq [0,0,0,1,0,0,1,0,1,1,1,1,1,1,1,1,1,1,1,1,1,1] N0) (aq [0,1,0,0,1,0,0,1,0,1,1,1,1,1,1,1,1,1,1,1,1,1,1] N0)) ⟨mkE 199 0 [(5,.slc 0),(6,dI a),(7,dI b),(14,dI c),(15,dI d),(17,dI g)],[some (sI i)]⟩ (N8p) (fun(t:Unit)=>(Exit.normal,⟨mkE 199 0 [(5,.slc 0),(6,dI a),(7,dI b),(14,dI c),(15,dI d),(17,dI g),(18,.slc 1),(19,dI g)],[some (sI i),some (sI ([]:List Int))]⟩)):= .of fun K h=>by
 simp only[N8p,wpW] at h
 exact .of (by kernel_rfl) h
theorem Nt7 (a b c d g:Int) (i:List Int):Link N6 LL (cq [0,0,1,1,0,0,1,0,0,1,0,1,1,1,1,1,1,1,1,1,1,1,1,1,1] (bodyOf Tryd.f3)) (aq [0,0,1,1,0,0,1,0,0,1,0,1,1,1,1,1,1,1,1,1,1,1,1,1,1] N0) ⟨mkE 199 0 [(5,.slc 0),(6,dI a),(7,dI b),(14,dI c),(15,dI d),(17,dI g),(18,.slc 1),(19,dI g)],[some (sI i),some (sI ([]:List Int))]⟩ (N8k) (fun(t:Unit)=>(Exit.normal,⟨mkE 199 0 [(5,.slc 0),(6,dI a),(7,dI b),(14,dI c),(15,dI d),(17,dI g),(18,.slc 1),(19,dI g),(20,dI 1)],[some (sI i),some (sI ([]:List Int))]⟩)):= .of fun K h=>by
 simp only[N8k,wpW] at h
 exact .of (by kernel_rfl) h
theorem Nqn (a b c d g i j:Int) (k l:List Int):Link N6 LL (cq [0,0,1,0,1,1,0,0,1,0,0,1,0,1,1,1,1,1,1,1,1,1,1,1,1,1,1] (bodyOf Tryd.f3)) (aq [0,0,1,0,1,1,0,0,1,0,0,1,0,1,1,1,1,1,1,1,1,1,1,1,1,1,1] N0) ⟨mkE 199 0 [(5,.slc 0),(6,dI a),(7,dI b),(14,dI c),(15,dI d),(17,dI g),(18,.slc 1),(19,dI i),(20,dI j)],[some (sI k),some (sI l)]⟩ (N3k b i j l) (Sum.elim (fun(t:Int×Int×(List Int))=>(Exit.normal,⟨mkE 199 0 [(5,.slc 0),(6,dI a),(7,dI b),(14,dI c),(15,dI d),(17,dI g),(18,.slc 1),(19,dI t.1),(20,dI t.2.1)],[some (sI k),some (sI t.2.2)]⟩)) (fun(t:(List Int))=>((Exit.exit 6),⟨mkE 199 0 [(5,.slc 0),(6,dI a),(7,dI b),(14,dI c),(15,dI d),(17,dI g),(18,.slc 1)],[some (sI k),some (sI t)]⟩))):= .of fun K h=>by
 simp only[N3k,wpW] at h
 exact .of (by kernel_rfl) h
theorem Nm6 (a b c d g:Int) (i j:List Int):Link N6 LL (cq [1,1,1,0,0,1,0,0,1,0,1,1,1,1,1,1,1,1,1,1,1,1,1,1] (bodyOf Tryd.f3)) (aq [1,1,1,0,0,1,0,0,1,0,1,1,1,1,1,1,1,1,1,1,1,1,1,1] N0) ⟨mkE 199 0 [(5,.slc 0),(6,dI a),(7,dI b),(14,dI c),(15,dI d),(17,dI g),(18,.slc 1)],[some (sI i),some (sI j)]⟩ (N7b c i j) (fun(t:Int)=>(Exit.normal,⟨mkE 199 0 [(5,.slc 0),(6,dI a),(7,dI b),(14,dI t),(15,dI d),(17,dI g)],[some (sI i)]⟩)):= .of fun K h=>by
 simp only[N7b,wpW] at h
 exact .of (by kernel_rfl) h
theorem Nq9 (a b c d g:Int) (i:List Int):Link N6 LL (cq [1,1,0,0,1,0,1,1,1,1,1,1,1,1,1,1,1,1,1,1] (bodyOf Tryd.f3)) (aq [1,1,0,0,1,0,1,1,1,1,1,1,1,1,1,1,1,1,1,1] N0) ⟨mkE 199 0 [(5,.slc 0),(6,dI a),(7,dI b),(14,dI c),(15,dI d),(17,dI g)],[some (sI i)]⟩ (N63 g) (fun(t:Int)=>(Exit.normal,⟨mkE 199 0 [(5,.slc 0),(6,dI a),(7,dI b),(14,dI c),(15,dI d),(17,dI t)],[some (sI i)]⟩)):= .of fun K h=>by
 simp only[N63,wpW] at h
 exact .of (by kernel_rfl) h
theorem Nx2 (a b c:Int) (d:List Int):Link N6 LL (cq [1,1,1,1,1,1,1,1,1,1,1,1,1,1,1] (bodyOf Tryd.f3)) (aq [1,1,1,1,1,1,1,1,1,1,1,1,1,1,1] N0) ⟨mkE 199 0 [(5,.slc 0),(6,dI a),(7,dI b),(14,dI c)],[some (sI d)]⟩ (N4y a b c d) (fun(t:Bool)=>(Exit.ret,⟨mkE 199 0 [(4,dB t)],[]⟩)):= .of fun K h=>by
 simp only[N4y,wpW] at h
 exact .of (by kernel_rfl) h
theorem Np5 (x3 x4:List Int) {r:AV} {H':Heap} (h:(Ans.mk _ (N2c x3 x4) (fun(t:Bool)=>(dB t,[])) [] none).run=some (r,H')):Awp N6 LL (bodyOf Tryd.f3) N0 ⟨mkE 199 0 [(0,dV x3),(1,dV x4)],[]⟩ (Ret (tlook tys) Tryd.f3.results.toList r H'):=
 ret_of' (Link.cast (by kernel_rfl) (by kernel_rfl) (link_group (c:=(cq [0,1,1,1,1,1,1,1] (bodyOf Tryd.f3))) (a:=(aq [0,1,1,1,1,1,1,1] N0)) [(cq [0] (bodyOf Tryd.f3)),(cq [0,1] (bodyOf Tryd.f3)),(cq [0,1,1] (bodyOf Tryd.f3)),(cq [0,1,1,1] (bodyOf Tryd.f3)),(cq [0,1,1,1,1] (bodyOf Tryd.f3)),(cq [0,1,1,1,1,1] (bodyOf Tryd.f3)),(cq [0,1,1,1,1,1,1] (bodyOf Tryd.f3))] [(aq [0] N0),(aq [0,1] N0),(aq [0,1,1] N0),(aq [0,1,1,1] N0),(aq [0,1,1,1,1] N0),(aq [0,1,1,1,1,1] N0),(aq [0,1,1,1,1,1,1] N0)] rfl (link_seq2 (Noo x3 x4) (fun(t:Int×Int×(List Int))=>(link_seq (link_seq (Ns3 x4 t.1 t.2.1 t.2.2) (fun(t54:Unit)=>(link_block (fin2:=(fun(t54:(List Int))=>(Exit.normal,⟨mkE 199 0 [(5,.slc 0),(6,dI t.1),(7,dI t.2.1),(8,.slc 1)],[some (sI t.2.2),some (sI t54)]⟩))) (id:=0) (link_loop (mk:=fun(s:Int×(List Int))=>⟨mkE 199 0 [(1,dV x4),(5,.slc 0),(6,dI t.1),(7,dI t.2.1),(8,.slc 1),(9,dI s.1)],[some (sI t.2.2),some (sI s.2)]⟩) (fin:=(fun(t54:(List Int))=>((Exit.exit 0),⟨mkE 199 0 [(5,.slc 0),(6,dI t.1),(7,dI t.2.1),(8,.slc 1)],[some (sI t.2.2),some (sI t54)]⟩))) (by
 rintro t54 f K h
 ·exact h) (fun s=>link_map (Nwr x4 t.1 t.2.1 s.1 t.2.2 s.2) (Sum.elim (fun(t54:Int×(List Int))=>Sum.inl (t54.1,t54.2)) (fun(t54:(List Int))=>Sum.inr t54)) (by
 rintro(t54|t54)
 ·kernel_rfl
 ·kernel_rfl)) (1,([]:List Int))) (fun(t54:(List Int))=>t54) (by
 rintro t54 K h
 ·exact Eq.mp (by kernel_rfl) h)))) (fun(t54:(List Int))=>(link_group (c:=(cq [0,1,1,1,1,1,1,1,1,1,1,1,1] (bodyOf Tryd.f3))) (a:=(aq [0,1,1,1,1,1,1,1,1,1,1,1,1] N0)) [(cq [0,1,1,1,1,1,1,1,1,1] (bodyOf Tryd.f3)),(cq [0,1,1,1,1,1,1,1,1,1,1] (bodyOf Tryd.f3)),(cq [0,1,1,1,1,1,1,1,1,1,1,1] (bodyOf Tryd.f3))] [(aq [0,1,1,1,1,1,1,1,1,1] N0),(aq [0,1,1,1,1,1,1,1,1,1,1] N0),(aq [0,1,1,1,1,1,1,1,1,1,1,1] N0)] rfl (link_seq2 (Nv2 t.1 t.2.1 t.2.2 t54) (fun(t33:Unit)=>(link_seq (link_seq (Nsp t.1 t.2.1 t.2.2) (fun(t59:Unit)=>(link_block (fin2:=(fun(t59:Int)=>(Exit.normal,⟨mkE 199 0 [(5,.slc 0),(6,dI t.1),(7,dI t.2.1),(14,dI (-1)),(15,dI t59)],[some (sI t.2.2)]⟩))) (id:=2) (link_loop (mk:=fun(s:Int×Int)=>⟨mkE 199 0 [(5,.slc 0),(6,dI t.1),(7,dI t.2.1),(14,dI (-1)),(15,dI s.1),(16,dI s.2)],[some (sI t.2.2)]⟩) (fin:=(fun(t59:Int)=>((Exit.exit 2),⟨mkE 199 0 [(5,.slc 0),(6,dI t.1),(7,dI t.2.1),(14,dI (-1)),(15,dI t59)],[some (sI t.2.2)]⟩))) (by
 rintro t59 f K h
 ·exact h) (fun s=>link_map (Nto t.1 t.2.1 s.1 s.2 t.2.2) (Sum.elim (fun(t59:Int×Int)=>Sum.inl (t59.1,t59.2)) (fun(t59:Int)=>Sum.inr t59)) (by
 rintro(t59|t59)
 ·kernel_rfl
 ·kernel_rfl)) (1,2)) (fun(t59:Int)=>t59) (by
 rintro t59 K h
 ·exact Eq.mp (by kernel_rfl) h)))) (fun(t59:Int)=>(link_seq (link_seq (Nwv t.1 t.2.1 t59 t.2.2) (fun(t32:Unit)=>(link_block (fin2:=(fun(t32:Int)=>(Exit.normal,⟨mkE 199 0 [(5,.slc 0),(6,dI t.1),(7,dI t.2.1),(14,dI t32)],[some (sI t.2.2)]⟩))) (id:=4) (link_loop (mk:=fun(s:Int×Int)=>⟨mkE 199 0 [(5,.slc 0),(6,dI t.1),(7,dI t.2.1),(14,dI s.1),(15,dI t59),(17,dI s.2)],[some (sI t.2.2)]⟩) (fin:=(fun(t32:Int)=>((Exit.exit 4),⟨mkE 199 0 [(5,.slc 0),(6,dI t.1),(7,dI t.2.1),(14,dI t32)],[some (sI t.2.2)]⟩))) (by
 rintro t32 f K h
 ·exact h) (fun s=>link_map (link_seq2 (Nk3 t.1 t.2.1 s.1 t59 s.2 t.2.2) (fun(t53:Unit)=>(link_map (fin2:=(Sum.elim (fun(t53:Int×Int)=>(Exit.normal,⟨mkE 199 0 [(5,.slc 0),(6,dI t.1),(7,dI t.2.1),(14,dI t53.1),(15,dI t59),(17,dI t53.2)],[some (sI t.2.2)]⟩)) (fun(t53:Int)=>((Exit.exit 4),⟨mkE 199 0 [(5,.slc 0),(6,dI t.1),(7,dI t.2.1),(14,dI t53)],[some (sI t.2.2)]⟩)))) (link_seq (link_block (fin2:=(fun(t53:Int)=>(Exit.normal,⟨mkE 199 0 [(5,.slc 0),(6,dI t.1),(7,dI t.2.1),(14,dI t53),(15,dI t59),(17,dI s.2)],[some (sI t.2.2)]⟩))) (id:=5) (link_group (c:=(cq [0,1,0,0,1,0,0,1,0,1,1,1,1,1,1,1,1,1,1,1,1,1,1] (bodyOf Tryd.f3))) (a:=(aq [0,1,0,0,1,0,0,1,0,1,1,1,1,1,1,1,1,1,1,1,1,1,1] N0)) [(cq [0,0,0,1,0,0,1,0,1,1,1,1,1,1,1,1,1,1,1,1,1,1] (bodyOf Tryd.f3))] [(aq [0,0,0,1,0,0,1,0,1,1,1,1,1,1,1,1,1,1,1,1,1,1] N0)] rfl (link_seq (Noj t.1 t.2.1 s.1 t59 s.2 t.2.2) (fun(t53:Unit)=>(link_seq (link_seq (Nt7 t.1 t.2.1 s.1 t59 s.2 t.2.2) (fun(t53:Unit)=>(link_block (fin2:=(fun(t53:(List Int))=>(Exit.normal,⟨mkE 199 0 [(5,.slc 0),(6,dI t.1),(7,dI t.2.1),(14,dI s.1),(15,dI t59),(17,dI s.2),(18,.slc 1)],[some (sI t.2.2),some (sI t53)]⟩))) (id:=6) (link_loop (mk:=fun(s52:Int×Int×(List Int))=>⟨mkE 199 0 [(5,.slc 0),(6,dI t.1),(7,dI t.2.1),(14,dI s.1),(15,dI t59),(17,dI s.2),(18,.slc 1),(19,dI s52.1),(20,dI s52.2.1)],[some (sI t.2.2),some (sI s52.2.2)]⟩) (fin:=(fun(t53:(List Int))=>((Exit.exit 6),⟨mkE 199 0 [(5,.slc 0),(6,dI t.1),(7,dI t.2.1),(14,dI s.1),(15,dI t59),(17,dI s.2),(18,.slc 1)],[some (sI t.2.2),some (sI t53)]⟩))) (by
 rintro t53 f K h
 ·exact h) (fun s52=>link_map (Nqn t.1 t.2.1 s.1 t59 s.2 s52.1 s52.2.1 t.2.2 s52.2.2) (Sum.elim (fun(t53:Int×Int×(List Int))=>Sum.inl (t53.1,t53.2.1,t53.2.2)) (fun(t53:(List Int))=>Sum.inr t53)) (by
 rintro(t53|t53)
 ·kernel_rfl
 ·kernel_rfl)) (s.2,1,([]:List Int))) (fun(t53:(List Int))=>t53) (by
 rintro t53 K h
 ·exact Eq.mp (by kernel_rfl) h)))) (fun(t53:(List Int))=>(Nm6 t.1 t.2.1 s.1 t59 s.2 t.2.2 t53)))))) (fun(t53:Int)=>t53) (by
 rintro t53 K h
 ·exact Eq.mp (by kernel_rfl) h)) (fun(t53:Int)=>(link_map (fin2:=(fun(t53:Int×Int)=>(Exit.normal,⟨mkE 199 0 [(5,.slc 0),(6,dI t.1),(7,dI t.2.1),(14,dI t53.1),(15,dI t59),(17,dI t53.2)],[some (sI t.2.2)]⟩))) (Nq9 t.1 t.2.1 t53 t59 s.2 t.2.2) (fun(u:Int)=>(t53,u)) (by
 rintro t53
 ·kernel_rfl)))) (fun(t53:Int×Int)=>(Sum.inl (t53.1,t53.2))) (by
 rintro t53
 ·kernel_rfl))) (fun(t53:Int)=>(Sum.inr t53)) (by
 rintro t53
 ·kernel_rfl) (by
 rintro t53 f K h
 ·exact h)) (Sum.elim (fun(t32:Int×Int)=>Sum.inl (t32.1,t32.2)) (fun(t32:Int)=>Sum.inr t32)) (by
 rintro(t32|t32)
 ·kernel_rfl
 ·kernel_rfl)) ((-1),0)) (fun(t32:Int)=>t32) (by
 rintro t32 K h
 ·exact Eq.mp (by kernel_rfl) h)))) (fun(t32:Int)=>(Nx2 t.1 t.2.1 t32 t.2.2)))))) (fun(t33:Bool)=>t33) (by
 rintro t33
 ·kernel_rfl) (by
 rintro t33 f K h
 ·exact h)))))) (fun(t:Bool)=>t) (by
 rintro t
 ·kernel_rfl) (by
 rintro t f K h
 ·exact h)))) (by unfold N2c;kernel_rfl) (by
 intro t
 exact ret_mk [dB t] (by kernel_rfl) (by kernel_rfl) (by kernel_rfl) (by kernel_rfl)) h
def Ngn:Fun:=fun avs H=>
 match avs,H with
 |[.dat (.list (.int .u8)) x3,.dat (.list (.int .u8)) x4],[]=>⟨_,N2c x3 x4,fun(t:Bool)=>(dB t,[]),[],none⟩
 |_,_=>Ans.no
theorem Nmo:Sound Tryd.prog 3 Ngn:=by
 refine fn_sound' (C:=N6) (c:=bodyOf Tryd.f3) (cok_of tys_ok (allc Nt0 (allc Nvl (allc Nis (allc N1r (allc Nws (allc Nd2 (allc Nms (allc Nr6 (allc Nn0 alln))))))))) (allc Tryd.call5 (allc Tryd.call6 (allc Tryd.call7 (allc Tryd.call8 (allc Tryd.call9 (allc Tryd.call10 (allc Tryd.call11 (allc Tryd.call12 (allc Tryd.call13 alln))))))))) (by kernel_rfl)) Tryd.func3 (by kernel_rfl) LL N0 ?_
 intro avs H r H' h
 unfold Ngn at h
 split at h
 ·refine Awp.cast ?_ ?_ ?_ (Np5 _ _ h)<;>kernel_rfl
 ·simp[Ans.no,Ans.run] at h
end Go.Rv
