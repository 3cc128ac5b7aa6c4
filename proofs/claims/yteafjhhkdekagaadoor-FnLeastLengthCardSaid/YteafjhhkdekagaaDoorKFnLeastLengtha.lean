/-
  The checked code answers as the plain functions do; written by program. Conditions: none.
-/
import Derived.Test.YteafjhhkdekagaaDoorGFnLeastLength
import Derived.Test.YteafjhhkdekagaaDoorFB
import Derived.Test.YteafjhhkdekagaaDoorProg
set_option linter.unusedVariables false
set_option linter.unusedSimpArgs false
set_option linter.defProp false
set_option maxRecDepth 100000
namespace Go.Rv
open Go.Proofs
theorem ty3:TIOk Tryd.prog 3 ⟨.int .i64,1,8,some (.int .i64),[.int .i64 0],false⟩:=⟨⟨infoOf (Tryd.prog.info? 3),by kernel_rfl,by kernel_rfl,by kernel_rfl,.int .i64 0,by kernel_rfl,by kernel_rfl⟩,(by kernel_rfl:Tryd.prog.underlying 3=some (.int .i64)),no_eq⟩
theorem ty4:TIOk Tryd.prog 4 ⟨.bool,1,1,some .bool,[.bool false],false⟩:=⟨⟨infoOf (Tryd.prog.info? 4),by kernel_rfl,by kernel_rfl,by kernel_rfl,.bool false,by kernel_rfl,by kernel_rfl⟩,(by kernel_rfl:Tryd.prog.underlying 4=some .bool),no_eq⟩
theorem ty5:TIOk Tryd.prog 5 ⟨.int .u8,1,1,some (.int .u8),[.int .u8 0],false⟩:=⟨⟨infoOf (Tryd.prog.info? 5),by kernel_rfl,by kernel_rfl,by kernel_rfl,.int .u8 0,by kernel_rfl,by kernel_rfl⟩,(by kernel_rfl:Tryd.prog.underlying 5=some (.int .u8)),no_eq⟩
theorem ty22:TIOk Tryd.prog 22 ⟨.slice 5,1,24,some (.list (.int .u8)),[.slice none 0 0],false⟩:=⟨⟨infoOf (Tryd.prog.info? 22),by kernel_rfl,by kernel_rfl,by kernel_rfl,.slice none 0 0,by kernel_rfl,by kernel_rfl⟩,(by kernel_rfl:Tryd.prog.underlying 22=some (.slice 5)),no_eq⟩
theorem ty23:TIOk Tryd.prog 23 ⟨.slice 3,1,24,some (.list (.int .i64)),[.slice none 0 0],false⟩:=⟨⟨infoOf (Tryd.prog.info? 23),by kernel_rfl,by kernel_rfl,by kernel_rfl,.slice none 0 0,by kernel_rfl,by kernel_rfl⟩,(by kernel_rfl:Tryd.prog.underlying 23=some (.slice 3)),no_eq⟩
theorem ty36:TIOk Tryd.prog 36 ⟨.slice 47,1,24,some (.list (.int .u64)),[.slice none 0 0],false⟩:=⟨⟨infoOf (Tryd.prog.info? 36),by kernel_rfl,by kernel_rfl,by kernel_rfl,.slice none 0 0,by kernel_rfl,by kernel_rfl⟩,(by kernel_rfl:Tryd.prog.underlying 36=some (.slice 47)),no_eq⟩
theorem ty47:TIOk Tryd.prog 47 ⟨.int .u64,1,8,some (.int .u64),[.int .u64 0],false⟩:=⟨⟨infoOf (Tryd.prog.info? 47),by kernel_rfl,by kernel_rfl,by kernel_rfl,.int .u64 0,by kernel_rfl,by kernel_rfl⟩,(by kernel_rfl:Tryd.prog.underlying 47=some (.int .u64)),no_eq⟩
theorem ty48:TIOk Tryd.prog 48 ⟨.slice 51,1,24,some (.list (.pair (.int .i64) (.pair (.int .i64) .unit))),[.slice none 0 0],false⟩:=⟨⟨infoOf (Tryd.prog.info? 48),by kernel_rfl,by kernel_rfl,by kernel_rfl,.slice none 0 0,by kernel_rfl,by kernel_rfl⟩,(by kernel_rfl:Tryd.prog.underlying 48=some (.slice 51)),no_eq⟩
theorem ty51:TIOk Tryd.prog 51 ⟨.strct [(0,3),(1,3)],2,16,some (.pair (.int .i64) (.pair (.int .i64) .unit)),[.int .i64 0,.int .i64 0],false⟩:=⟨⟨infoOf (Tryd.prog.info? 51),by kernel_rfl,by kernel_rfl,by kernel_rfl,.agg #[.int .i64 0,.int .i64 0],by kernel_rfl,by kernel_rfl⟩,⟨fieldsOf (Tryd.prog.underlying 51),by kernel_rfl,by kernel_rfl⟩,no_eq⟩
theorem ty54:TIOk Tryd.prog 54 ⟨.strct [(0,22),(1,3)],2,32,some (.pair (.list (.int .u8)) (.pair (.int .i64) .unit)),[.slice none 0 0,.int .i64 0],false⟩:=⟨⟨infoOf (Tryd.prog.info? 54),by kernel_rfl,by kernel_rfl,by kernel_rfl,.agg #[.slice none 0 0,.int .i64 0],by kernel_rfl,by kernel_rfl⟩,⟨fieldsOf (Tryd.prog.underlying 54),by kernel_rfl,by kernel_rfl⟩,no_eq⟩
theorem ty63:TIOk Tryd.prog 63 ⟨.strct [(0,23),(1,3),(2,3)],3,40,some (.pair (.list (.int .i64)) (.pair (.int .i64) (.pair (.int .i64) .unit))),[.slice none 0 0,.int .i64 0,.int .i64 0],false⟩:=⟨⟨infoOf (Tryd.prog.info? 63),by kernel_rfl,by kernel_rfl,by kernel_rfl,.agg #[.slice none 0 0,.int .i64 0,.int .i64 0],by kernel_rfl,by kernel_rfl⟩,⟨fieldsOf (Tryd.prog.underlying 63),by kernel_rfl,by kernel_rfl⟩,no_eq⟩
theorem ty64:TIOk Tryd.prog 64 ⟨.arr 9 4,9,9,none,[.bool false,.bool false,.bool false,.bool false,.bool false,.bool false,.bool false,.bool false,.bool false],false⟩:=⟨⟨infoOf (Tryd.prog.info? 64),by kernel_rfl,by kernel_rfl,by kernel_rfl,.agg #[.bool false,.bool false,.bool false,.bool false,.bool false,.bool false,.bool false,.bool false,.bool false],by kernel_rfl,by kernel_rfl⟩,(by kernel_rfl:Tryd.prog.underlying 64=some (.array 9 4)),no_eq⟩
theorem ty71:TIOk Tryd.prog 71 ⟨.arr 2 3,2,16,none,[.int .i64 0,.int .i64 0],false⟩:=⟨⟨infoOf (Tryd.prog.info? 71),by kernel_rfl,by kernel_rfl,by kernel_rfl,.agg #[.int .i64 0,.int .i64 0],by kernel_rfl,by kernel_rfl⟩,(by kernel_rfl:Tryd.prog.underlying 71=some (.array 2 3)),no_eq⟩
theorem ty81:TIOk Tryd.prog 81 ⟨.int .u64,1,8,some (.int .u64),[.int .u64 0],false⟩:=⟨⟨infoOf (Tryd.prog.info? 81),by kernel_rfl,by kernel_rfl,by kernel_rfl,.int .u64 0,by kernel_rfl,by kernel_rfl⟩,(by kernel_rfl:Tryd.prog.underlying 81=some (.int .u64)),no_eq⟩
theorem ty84:TIOk Tryd.prog 84 ⟨.arr 64 5,64,64,none,[.int .u8 0,.int .u8 0,.int .u8 0,.int .u8 0,.int .u8 0,.int .u8 0,.int .u8 0,.int .u8 0,.int .u8 0,.int .u8 0,.int .u8 0,.int .u8 0,.int .u8 0,.int .u8 0,.int .u8 0,.int .u8 0,.int .u8 0,.int .u8 0,.int .u8 0,.int .u8 0,.int .u8 0,.int .u8 0,.int .u8 0,.int .u8 0,.int .u8 0,.int .u8 0,.int .u8 0,.int .u8 0,.int .u8 0,.int .u8 0,.int .u8 0,.int .u8 0,.int .u8 0,.int .u8 0,.int .u8 0,.int .u8 0,.int .u8 0,.int .u8 0,.int .u8 0,.int .u8 0,.int .u8 0,.int .u8 0,.int .u8 0,.int .u8 0,.int .u8 0,.int .u8 0,.int .u8 0,.int .u8 0,.int .u8 0,.int .u8 0,.int .u8 0,.int .u8 0,.int .u8 0,.int .u8 0,.int .u8 0,.int .u8 0,.int .u8 0,.int .u8 0,.int .u8 0,.int .u8 0,.int .u8 0,.int .u8 0,.int .u8 0,.int .u8 0],false⟩:=⟨⟨infoOf (Tryd.prog.info? 84),by kernel_rfl,by kernel_rfl,by kernel_rfl,.agg #[.int .u8 0,.int .u8 0,.int .u8 0,.int .u8 0,.int .u8 0,.int .u8 0,.int .u8 0,.int .u8 0,.int .u8 0,.int .u8 0,.int .u8 0,.int .u8 0,.int .u8 0,.int .u8 0,.int .u8 0,.int .u8 0,.int .u8 0,.int .u8 0,.int .u8 0,.int .u8 0,.int .u8 0,.int .u8 0,.int .u8 0,.int .u8 0,.int .u8 0,.int .u8 0,.int .u8 0,.int .u8 0,.int .u8 0,.int .u8 0,.int .u8 0,.int .u8 0,.int .u8 0,.int .u8 0,.int .u8 0,.int .u8 0,.int .u8 0,.int .u8 0,.int .u8 0,.int .u8 0,.int .u8 0,.int .u8 0,.int .u8 0,.int .u8 0,.int .u8 0,.int .u8 0,.int .u8 0,.int .u8 0,.int .u8 0,.int .u8 0,.int .u8 0,.int .u8 0,.int .u8 0,.int .u8 0,.int .u8 0,.int .u8 0,.int .u8 0,.int .u8 0,.int .u8 0,.int .u8 0,.int .u8 0,.int .u8 0,.int .u8 0,.int .u8 0],by kernel_rfl,by kernel_rfl⟩,(by kernel_rfl:Tryd.prog.underlying 84=some (.array 64 5)),no_eq⟩
def tys:List (TypeId×TI):=[(3,⟨.int .i64,1,8,some (.int .i64),[.int .i64 0],false⟩),(4,⟨.bool,1,1,some .bool,[.bool false],false⟩),(5,⟨.int .u8,1,1,some (.int .u8),[.int .u8 0],false⟩),(22,⟨.slice 5,1,24,some (.list (.int .u8)),[.slice none 0 0],false⟩),(23,⟨.slice 3,1,24,some (.list (.int .i64)),[.slice none 0 0],false⟩),(36,⟨.slice 47,1,24,some (.list (.int .u64)),[.slice none 0 0],false⟩),(47,⟨.int .u64,1,8,some (.int .u64),[.int .u64 0],false⟩),(48,⟨.slice 51,1,24,some (.list (.pair (.int .i64) (.pair (.int .i64) .unit))),[.slice none 0 0],false⟩),(51,⟨.strct [(0,3),(1,3)],2,16,some (.pair (.int .i64) (.pair (.int .i64) .unit)),[.int .i64 0,.int .i64 0],false⟩),(54,⟨.strct [(0,22),(1,3)],2,32,some (.pair (.list (.int .u8)) (.pair (.int .i64) .unit)),[.slice none 0 0,.int .i64 0],false⟩),(63,⟨.strct [(0,23),(1,3),(2,3)],3,40,some (.pair (.list (.int .i64)) (.pair (.int .i64) (.pair (.int .i64) .unit))),[.slice none 0 0,.int .i64 0,.int .i64 0],false⟩),(64,⟨.arr 9 4,9,9,none,[.bool false,.bool false,.bool false,.bool false,.bool false,.bool false,.bool false,.bool false,.bool false],false⟩),(71,⟨.arr 2 3,2,16,none,[.int .i64 0,.int .i64 0],false⟩),(81,⟨.int .u64,1,8,some (.int .u64),[.int .u64 0],false⟩),(84,⟨.arr 64 5,64,64,none,[.int .u8 0,.int .u8 0,.int .u8 0,.int .u8 0,.int .u8 0,.int .u8 0,.int .u8 0,.int .u8 0,.int .u8 0,.int .u8 0,.int .u8 0,.int .u8 0,.int .u8 0,.int .u8 0,.int .u8 0,.int .u8 0,.int .u8 0,.int .u8 0,.int .u8 0,.int .u8 0,.int .u8 0,.int .u8 0,.int .u8 0,.int .u8 0,.int .u8 0,.int .u8 0,.int .u8 0,.int .u8 0,.int .u8 0,.int .u8 0,.int .u8 0,.int .u8 0,.int .u8 0,.int .u8 0,.int .u8 0,.int .u8 0,.int .u8 0,.int .u8 0,.int .u8 0,.int .u8 0,.int .u8 0,.int .u8 0,.int .u8 0,.int .u8 0,.int .u8 0,.int .u8 0,.int .u8 0,.int .u8 0,.int .u8 0,.int .u8 0,.int .u8 0,.int .u8 0,.int .u8 0,.int .u8 0,.int .u8 0,.int .u8 0,.int .u8 0,.int .u8 0,.int .u8 0,.int .u8 0,.int .u8 0,.int .u8 0,.int .u8 0,.int .u8 0],false⟩)]
theorem tys_ok:TOk Tryd.prog (tlook tys):=tok_of (allc ty3 (allc ty4 (allc ty5 (allc ty22 (allc ty23 (allc ty36 (allc ty47 (allc ty48 (allc ty51 (allc ty54 (allc ty63 (allc ty64 (allc ty71 (allc ty81 (allc ty84 alln)))))))))))))))
def ioF (f:FuncId) (i:Nat):Bool:=[(39,0),(44,0),(51,0),(54,1),(57,0),(57,2),(60,0)].any fun(p:Nat×Nat)=>Nat.beq p.1 f&&Nat.beq p.2 i
def Nc0:Ann:=(.seq (.leaf [0]) (.seq (.seq (.leaf [0,5]) (.cond (.leaf [0]) (.leaf [0]))) (.seq (.leaf [2]) (.leaf [2]))))
noncomputable def N9n:Ctx:=⟨tlook tys,olook [],ioF,0,false,[]⟩
theorem Nin (x18:List Int):Link N9n LL (bodyOf Tryd.f17) Nc0 ⟨mkE 11 0 [(0,dV x18)],[]⟩ (N74 x18) (fun(t:(List Int))=>(Exit.ret,⟨mkE 11 0 [(2,.ptr 0 0)],[some (.box [dV t,dI 0])]⟩)):= .of fun K h=>by
 simp only[N74,wpW] at h
 exact .of (by kernel_rfl) h
theorem Npq (x18:List Int) {r:AV} {H':Heap} (h:(Ans.mk _ (N2b x18) (fun(t:(List Int))=>(.ptr 0 0,[some (.box [dV t,dI 0])])) [] none).run=some (r,H')):Awp N9n LL (bodyOf Tryd.f17) Nc0 ⟨mkE 11 0 [(0,dV x18)],[]⟩ (Ret (tlook tys) Tryd.f17.results.toList r H'):=
 ret_of' (Nin x18) (by unfold N2b;kernel_rfl) (by
 intro t
 exact ret_mk [.ptr 0 0] (by kernel_rfl) (by kernel_rfl) (by kernel_rfl) (by kernel_rfl)) h
def Nbr:Fun:=fun avs H=>
 match avs,H with
 |[.dat (.list (.int .u8)) x18],[]=>⟨_,N2b x18,fun(t:(List Int))=>(.ptr 0 0,[some (.box [dV t,dI 0])]),[],none⟩
 |_,_=>Ans.no
theorem Ntt:Sound Tryd.prog 17 Nbr:=by
 refine fn_sound' (C:=N9n) (c:=bodyOf Tryd.f17) (cok_of tys_ok (alln) (alln) (by kernel_rfl)) Tryd.func17 (by kernel_rfl) LL Nc0 ?_
 intro avs H r H' h
 unfold Nbr at h
 split at h
 ·refine Awp.cast ?_ ?_ ?_ (Npq _ h)<;>kernel_rfl
 ·simp[Ans.no,Ans.run] at h
def Ncm:Ann:=(.seq (.leaf [0,1]) (.seq (.leaf [0,1]) (.seq (.seq (.leaf [0,1,24]) (.cond (.seq (.leaf [4]) (.leaf [4])) (.leaf [0,1]))) (.seq (.leaf [0,1,5]) (.seq (.seq (.leaf [0,1,5,36]) (.cond (.seq (.leaf [4]) (.leaf [4])) (.leaf [0,1,5]))) (.seq (.draw [] [0,1,2,3,4,5,6,7,8,9,10,11,12,13,14,15,16,17,18,19,20,21,22,23,24,25,26,27,28,29,30,31,32,33,34,35,36,37,38,39,40,41,42,43,44,45] [] [1,6]) (.seq (.leaf [1,6]) (.seq (.leaf [4]) (.leaf [4])))))))))
noncomputable def Ncb:Ctx:=⟨tlook tys,olook [],ioF,1,false,[]⟩
theorem Nrc (x47:Int) (x48:List Int) (x49:Int):Link Ncb LL (bodyOf Tryd.f35) Ncm ⟨mkE 99 0 [(0,.ptr 0 0),(1,dI x47)],[some (.box [dV x48,dI x49])]⟩ (N8f x47 x48 x49) (fun(t:Int×Int)=>(Exit.ret,⟨mkE 99 0 [(4,dI t.1)],[some (.box [dV x48,dI t.2])]⟩)):= .of fun K h=>by
 simp only[N8f,wpW] at h
 exact .of (by kernel_rfl) h
theorem Nl1 (x47:Int) (x48:List Int) (x49:Int) {r:AV} {H':Heap} (h:(Ans.mk _ (N1 x47 x48 x49) (fun(t:Int×Int)=>(dI t.1,[some (.box [dV x48,dI t.2])])) [] none).run=some (r,H')):Awp Ncb LL (bodyOf Tryd.f35) Ncm ⟨mkE 99 0 [(0,.ptr 0 0),(1,dI x47)],[some (.box [dV x48,dI x49])]⟩ (Ret (tlook tys) Tryd.f35.results.toList r H'):=
 ret_of' (Nrc x47 x48 x49) (by unfold N1;kernel_rfl) (by
 intro t
 exact ret_mk [dI t.1] (by kernel_rfl) (by kernel_rfl) (by kernel_rfl) (by kernel_rfl)) h
def N1w:Fun:=fun avs H=>
 match avs,H with
 |[.ptr 0 0,.dat (.int .i64) x47],[some (.box [.dat (.list (.int .u8)) x48,.dat (.int .i64) x49])]=>⟨_,N1 x47 x48 x49,fun(t:Int×Int)=>(dI t.1,[some (.box [dV x48,dI t.2])]),[],none⟩
 |_,_=>Ans.no
theorem N3a:Sound Tryd.prog 35 N1w:=by
 refine fn_sound' (C:=Ncb) (c:=bodyOf Tryd.f35) (cok_of tys_ok (alln) (alln) (by kernel_rfl)) Tryd.func35 (by kernel_rfl) LL Ncm ?_
 intro avs H r H' h
 unfold N1w at h
 split at h
 ·refine Awp.cast ?_ ?_ ?_ (Nl1 _ _ _ h)<;>kernel_rfl
 ·simp[Ans.no,Ans.run] at h
def Nn:Ann:=(.seq (.leaf [0,1]) (.seq (.leaf [0,1,5]) (.seq (.leaf [0,1,5,6]) (.seq (.seq (.leaf [0,1,5,6,7]) (.block (.loop (.seq (.seq (.leaf [0,1,5,6,7,15]) (.cond (.leaf [0,1,5,6,7]) (.leaf [5]))) (.seq (.block (.seq (.leaf [0,1,5,6,7,8]) (.seq (.seq (.leaf [0,1,5,6,7,8,26]) (.cond (.leaf [0,1,5,6,7,8]) (.leaf [0,1,5,6,7,8]))) (.seq (.leaf [0,1,5,6,7,8,9]) (.seq (.leaf [0,1,5,6,7,8,9]) (.leaf [0,1,5,6,7])))))) (.leaf [0,1,5,6,7])))))) (.seq (.leaf [4]) (.leaf [4]))))))
noncomputable def N3p:Ctx:=⟨tlook tys,olook [(35,N1w)],ioF,1,false,[]⟩
theorem Nkc (a:Int) (b:List Int) (c:Int):Link N3p LL (Code.seq (cq [0] (bodyOf Tryd.f37)) (Code.seq (cq [0,1] (bodyOf Tryd.f37)) (cq [0,1,1] (bodyOf Tryd.f37)))) (Ann.seq (aq [0] Nn) (Ann.seq (aq [0,1] Nn) (aq [0,1,1] Nn))) ⟨mkE 45 0 [(0,.ptr 0 0),(1,dI a)],[some (.box [dV b,dI c])]⟩ (N78 b c) (fun(t:Int×Int)=>(Exit.normal,⟨mkE 45 0 [(0,.ptr 0 0),(1,dI a),(5,.slc 1),(6,dI t.1)],[some (.box [dV b,dI t.2]),some (sI ([]:List Int))]⟩)):= .of fun K h=>by
 simp only[N78,wpW] at h
 exact .of (by kernel_rfl) h
theorem Nrg (a b:Int) (c:List Int) (d:Int):Link N3p LL (cq [0,0,1,1,1] (bodyOf Tryd.f37)) (aq [0,0,1,1,1] Nn) ⟨mkE 45 0 [(0,.ptr 0 0),(1,dI a),(5,.slc 1),(6,dI b)],[some (.box [dV c,dI d]),some (sI ([]:List Int))]⟩ (N8j) (fun(t:Unit)=>(Exit.normal,⟨mkE 45 0 [(0,.ptr 0 0),(1,dI a),(5,.slc 1),(6,dI b),(7,dI 1)],[some (.box [dV c,dI d]),some (sI ([]:List Int))]⟩)):= .of fun K h=>by
 simp only[N8j,wpW] at h
 exact .of (by kernel_rfl) h
theorem Nj7 (a b c:Int) (d:List Int) (g:Int) (i:List Int):Link N3p LL (cq [0,0,1,0,1,1,1] (bodyOf Tryd.f37)) (aq [0,0,1,0,1,1,1] Nn) ⟨mkE 45 0 [(0,.ptr 0 0),(1,dI a),(5,.slc 1),(6,dI b),(7,dI c)],[some (.box [dV d,dI g]),some (sI i)]⟩ (N4b a b c d g i) (Sum.elim (fun(t:Int×Int×(List Int))=>(Exit.normal,⟨mkE 45 0 [(0,.ptr 0 0),(1,dI a),(5,.slc 1),(6,dI b),(7,dI t.1)],[some (.box [dV d,dI t.2.1]),some (sI t.2.2)]⟩)) (fun(t:Int×(List Int))=>((Exit.exit 0),⟨mkE 45 0 [(5,.slc 1)],[some (.box [dV d,dI t.1]),some (sI t.2)]⟩))):= .of fun K h=>by
 simp only[N4b,wpW] at h
 exact .of (by kernel_rfl) h
theorem Nsf (a:List Int) (b:Int) (c:List Int):Link N3p LL (cq [1,1,1,1] (bodyOf Tryd.f37)) (aq [1,1,1,1] Nn) ⟨mkE 45 0 [(5,.slc 1)],[some (.box [dV a,dI b]),some (sI c)]⟩ (Nct b c) (fun(t:Int×(List Int))=>(Exit.ret,⟨mkE 45 0 [(4,.slc 1)],[some (.box [dV a,dI t.1]),some (sI t.2)]⟩)):= .of fun K h=>by
 simp only[Nct,wpW] at h
 exact .of (by kernel_rfl) h
theorem No5 (b:Int) (d:List Int) (g:Int) {r:AV} {H':Heap} (h:(Ans.mk _ (N2h b d g) (fun(t:Int×(List Int))=>(.slc 1,[some (.box [dV d,dI t.1]),some (sI t.2)])) [] none).run=some (r,H')):Awp N3p LL (bodyOf Tryd.f37) Nn ⟨mkE 45 0 [(0,.ptr 0 0),(1,dI b)],[some (.box [dV d,dI g])]⟩ (Ret (tlook tys) Tryd.f37.results.toList r H'):=
 ret_of' (Link.cast (by kernel_rfl) (by kernel_rfl) (link_group (c:=(cq [0,1,1] (bodyOf Tryd.f37))) (a:=(aq [0,1,1] Nn)) [(cq [0] (bodyOf Tryd.f37)),(cq [0,1] (bodyOf Tryd.f37))] [(aq [0] Nn),(aq [0,1] Nn)] rfl (link_seq (Nkc b d g) (fun(t:Int×Int)=>(link_seq (link_seq (Nrg b t.1 d t.2) (fun(t34:Unit)=>(link_block (fin2:=(fun(t34:Int×(List Int))=>(Exit.normal,⟨mkE 45 0 [(5,.slc 1)],[some (.box [dV d,dI t34.1]),some (sI t34.2)]⟩))) (id:=0) (link_loop (mk:=fun(s:Int×Int×(List Int))=>⟨mkE 45 0 [(0,.ptr 0 0),(1,dI b),(5,.slc 1),(6,dI t.1),(7,dI s.1)],[some (.box [dV d,dI s.2.1]),some (sI s.2.2)]⟩) (fin:=(fun(t34:Int×(List Int))=>((Exit.exit 0),⟨mkE 45 0 [(5,.slc 1)],[some (.box [dV d,dI t34.1]),some (sI t34.2)]⟩))) (by
 rintro t34 f K h
 ·exact h) (fun s=>link_map (Nj7 b t.1 s.1 d s.2.1 s.2.2) (Sum.elim (fun(t34:Int×Int×(List Int))=>Sum.inl (t34.1,t34.2.1,t34.2.2)) (fun(t34:Int×(List Int))=>Sum.inr t34)) (by
 rintro(t34|t34)
 ·kernel_rfl
 ·kernel_rfl)) (1,t.2,([]:List Int))) (fun(t34:Int×(List Int))=>(t34.1,t34.2)) (by
 rintro t34 K h
 ·exact Eq.mp (by kernel_rfl) h)))) (fun(t34:Int×(List Int))=>(Nsf d t34.1 t34.2))))))) (by unfold N2h;kernel_rfl) (by
 intro t
 exact ret_mk [.slc 1] (by kernel_rfl) (by kernel_rfl) (by kernel_rfl) (by kernel_rfl)) h
def N69:Fun:=fun avs H=>
 match avs,H with
 |[.ptr 0 0,.dat (.int .i64) a],[some (.box [.dat (.list (.int .u8)) b,.dat (.int .i64) c])]=>⟨_,N2h a b c,fun(t:Int×(List Int))=>(.slc 1,[some (.box [dV b,dI t.1]),some (sI t.2)]),[],none⟩
 |_,_=>Ans.no
theorem Nh9:Sound Tryd.prog 37 N69:=by
 refine fn_sound' (C:=N3p) (c:=bodyOf Tryd.f37) (cok_of tys_ok (allc N3a alln) (allc Tryd.call35 alln) (by kernel_rfl)) Tryd.func37 (by kernel_rfl) LL Nn ?_
 intro avs H r H' h
 unfold N69 at h
 split at h
 ·refine Awp.cast ?_ ?_ ?_ (No5 _ _ _ h)<;>kernel_rfl
 ·simp[Ans.no,Ans.run] at h
def N9u:Ann:=(.seq (.leaf [0,1]) (.seq (.leaf [4]) (.leaf [4])))
noncomputable def Nb8:Ctx:=⟨tlook tys,olook [(35,N1w)],ioF,1,false,[]⟩
theorem Nue (a:Int) (b:List Int) (c:Int):Link Nb8 LL (bodyOf Tryd.f52) N9u ⟨mkE 15 0 [(0,.ptr 0 0),(1,dI a)],[some (.box [dV b,dI c])]⟩ (N8a a b c) (fun(t:Bool×Int)=>(Exit.ret,⟨mkE 15 0 [(4,dB t.1)],[some (.box [dV b,dI t.2])]⟩)):= .of fun K h=>by
 simp only[N8a,wpW] at h
 exact .of (by kernel_rfl) h
theorem Nsy (a:Int) (b:List Int) (c:Int) {r:AV} {H':Heap} (h:(Ans.mk _ (N46 a b c) (fun(t:Bool×Int)=>(dB t.1,[some (.box [dV b,dI t.2])])) [] none).run=some (r,H')):Awp Nb8 LL (bodyOf Tryd.f52) N9u ⟨mkE 15 0 [(0,.ptr 0 0),(1,dI a)],[some (.box [dV b,dI c])]⟩ (Ret (tlook tys) Tryd.f52.results.toList r H'):=
 ret_of' (Nue a b c) (by unfold N46;kernel_rfl) (by
 intro t
 exact ret_mk [dB t.1] (by kernel_rfl) (by kernel_rfl) (by kernel_rfl) (by kernel_rfl)) h
def N9w:Fun:=fun avs H=>
 match avs,H with
 |[.ptr 0 0,.dat (.int .i64) a],[some (.box [.dat (.list (.int .u8)) b,.dat (.int .i64) c])]=>⟨_,N46 a b c,fun(t:Bool×Int)=>(dB t.1,[some (.box [dV b,dI t.2])]),[],none⟩
 |_,_=>Ans.no
theorem Nox:Sound Tryd.prog 52 N9w:=by
 refine fn_sound' (C:=Nb8) (c:=bodyOf Tryd.f52) (cok_of tys_ok (allc N3a alln) (allc Tryd.call35 alln) (by kernel_rfl)) Tryd.func52 (by kernel_rfl) LL N9u ?_
 intro avs H r H' h
 unfold N9w at h
 split at h
 ·refine Awp.cast ?_ ?_ ?_ (Nsy _ _ _ h)<;>kernel_rfl
 ·simp[Ans.no,Ans.run] at h
def N7:Ann:=(.seq (.leaf [0,1]) (.seq (.leaf [0,1,5]) (.seq (.leaf [0,1,5,6]) (.seq (.leaf [0,1,5,6,7]) (.seq (.leaf [0,1,5,6,7,8]) (.seq (.seq (.leaf [0,1,5,6,7,8,9]) (.block (.loop (.seq (.seq (.leaf [0,1,5,6,7,8,9,23]) (.cond (.leaf [0,1,5,6,7,8,9]) (.leaf [0,1,5,7]))) (.seq (.block (.seq (.leaf [0,1,5,6,7,8,9,10]) (.seq (.seq (.leaf [0,1,5,6,7,8,9,10,35]) (.cond (.leaf [0,1,5,6,7,8,9,10]) (.leaf [0,1,5,6,7,8,9,10]))) (.draw [] [0,1,2,3,4,5,6,7,8,9,10,11] [] [0,1,5,6,7,8,9])))) (.leaf [0,1,5,6,7,8,9])))))) (.seq (.seq (.leaf [0,5,7,51]) (.cond (.seq (.leaf [0,5,7,53]) (.block (.seq (.leaf [0,5,7,53,63]) (.cond (.seq (.leaf [4]) (.leaf [4])) (.seq (.leaf [0,5,7,53,66]) (.cond (.seq (.leaf [4]) (.leaf [4])) (.seq (.leaf [0,5,7,69]) (.cond (.seq (.leaf [7]) (.seq (.leaf [4]) (.leaf [4]))) (.leaf [7]))))))))) (.leaf [7]))) (.seq (.leaf [4]) (.leaf [4])))))))))
noncomputable def N2q:Ctx:=⟨tlook tys,olook [(35,N1w),(37,N69),(52,N9w)],ioF,1,false,[]⟩
theorem Nsq (x43:Int) (x44:List Int) (x45:Int):Link N2q LL (Code.seq (cq [0] (bodyOf Tryd.f34)) (Code.seq (cq [0,1] (bodyOf Tryd.f34)) (Code.seq (cq [0,1,1] (bodyOf Tryd.f34)) (Code.seq (cq [0,1,1,1] (bodyOf Tryd.f34)) (cq [0,1,1,1,1] (bodyOf Tryd.f34)))))) (Ann.seq (aq [0] N7) (Ann.seq (aq [0,1] N7) (Ann.seq (aq [0,1,1] N7) (Ann.seq (aq [0,1,1,1] N7) (aq [0,1,1,1,1] N7))))) ⟨mkE 80 0 [(0,.ptr 0 0),(1,dI x43)],[some (.box [dV x44,dI x45])]⟩ (N6c x44 x45) (fun(t:Int×Int×Int×(List Int)×(List Int))=>(Exit.normal,⟨mkE 80 0 [(0,.ptr 0 0),(1,dI x43),(5,dI t.1),(6,.slc 1),(7,.slc 2),(8,dI t.2.1)],[some (.box [dV x44,dI t.2.2.1]),some (sI t.2.2.2.1),some (sI t.2.2.2.2)]⟩)):= .of fun K h=>by
 simp only[N6c,wpW] at h
 exact .of (by kernel_rfl) h
theorem Nqc (x43 a b:Int) (x44:List Int) (c:Int) (d g:List Int):Link N2q LL (cq [0,0,1,1,1,1,1] (bodyOf Tryd.f34)) (aq [0,0,1,1,1,1,1] N7) ⟨mkE 80 0 [(0,.ptr 0 0),(1,dI x43),(5,dI a),(6,.slc 1),(7,.slc 2),(8,dI b)],[some (.box [dV x44,dI c]),some (sI d),some (sI g)]⟩ (N8e) (fun(t:Unit)=>(Exit.normal,⟨mkE 80 0 [(0,.ptr 0 0),(1,dI x43),(5,dI a),(6,.slc 1),(7,.slc 2),(8,dI b),(9,dI 1)],[some (.box [dV x44,dI c]),some (sI d),some (sI g)]⟩)):= .of fun K h=>by
 simp only[N8e,wpW] at h
 exact .of (by kernel_rfl) h
theorem Nkj (x43 a b c:Int) (x44:List Int) (d:Int) (g i:List Int):Link N2q LL (cq [0,0,1,0,1,1,1,1,1] (bodyOf Tryd.f34)) (aq [0,0,1,0,1,1,1,1,1] N7) ⟨mkE 80 0 [(0,.ptr 0 0),(1,dI x43),(5,dI a),(6,.slc 1),(7,.slc 2),(8,dI b),(9,dI c)],[some (.box [dV x44,dI d]),some (sI g),some (sI i)]⟩ (N56 a b c x44 d g i) (Sum.elim (fun(t:Int×Int×(List Int))=>(Exit.normal,⟨mkE 80 0 [(0,.ptr 0 0),(1,dI x43),(5,dI a),(6,.slc 1),(7,.slc 2),(8,dI b),(9,dI t.1)],[some (.box [dV x44,dI t.2.1]),some (sI g),some (sI t.2.2)]⟩)) (fun(t:Int×(List Int))=>((Exit.exit 0),⟨mkE 80 0 [(0,.ptr 0 0),(1,dI x43),(5,dI a),(7,.slc 1)],[some (.box [dV x44,dI t.1]),some (sI t.2)]⟩))):= .of fun K h=>by
 simp only[N56,wpW] at h
 exact .of (by kernel_rfl) h
theorem Nus (x43 a:Int) (x44:List Int) (b:Int) (c:List Int):Link N2q LL (cq [1,1,1,1,1,1] (bodyOf Tryd.f34)) (aq [1,1,1,1,1,1] N7) ⟨mkE 80 0 [(0,.ptr 0 0),(1,dI x43),(5,dI a),(7,.slc 1)],[some (.box [dV x44,dI b]),some (sI c)]⟩ (N7d x43 a x44 b c) (fun(t:Int×(List Int))=>(Exit.ret,⟨mkE 80 0 [(4,.slc 1)],[some (.box [dV x44,dI t.1]),some (sI t.2)]⟩)):= .of fun K h=>by
 simp only[N7d,wpW] at h
 exact .of (by kernel_rfl) h
theorem Nnm (x43:Int) (x44:List Int) (x45:Int) {r:AV} {H':Heap} (h:(Ans.mk _ (N22 x43 x44 x45) (fun(t:Int×(List Int))=>(.slc 1,[some (.box [dV x44,dI t.1]),some (sI t.2)])) [] none).run=some (r,H')):Awp N2q LL (bodyOf Tryd.f34) N7 ⟨mkE 80 0 [(0,.ptr 0 0),(1,dI x43)],[some (.box [dV x44,dI x45])]⟩ (Ret (tlook tys) Tryd.f34.results.toList r H'):=
 ret_of' (Link.cast (by kernel_rfl) (by kernel_rfl) (link_group (c:=(cq [0,1,1,1,1] (bodyOf Tryd.f34))) (a:=(aq [0,1,1,1,1] N7)) [(cq [0] (bodyOf Tryd.f34)),(cq [0,1] (bodyOf Tryd.f34)),(cq [0,1,1] (bodyOf Tryd.f34)),(cq [0,1,1,1] (bodyOf Tryd.f34))] [(aq [0] N7),(aq [0,1] N7),(aq [0,1,1] N7),(aq [0,1,1,1] N7)] rfl (link_seq (Nsq x43 x44 x45) (fun(t:Int×Int×Int×(List Int)×(List Int))=>(link_seq (link_seq (Nqc x43 t.1 t.2.1 x44 t.2.2.1 t.2.2.2.1 t.2.2.2.2) (fun(t35:Unit)=>(link_block (fin2:=(fun(t35:Int×(List Int))=>(Exit.normal,⟨mkE 80 0 [(0,.ptr 0 0),(1,dI x43),(5,dI t.1),(7,.slc 1)],[some (.box [dV x44,dI t35.1]),some (sI t35.2)]⟩))) (id:=0) (link_loop (mk:=fun(s:Int×Int×(List Int))=>⟨mkE 80 0 [(0,.ptr 0 0),(1,dI x43),(5,dI t.1),(6,.slc 1),(7,.slc 2),(8,dI t.2.1),(9,dI s.1)],[some (.box [dV x44,dI s.2.1]),some (sI t.2.2.2.1),some (sI s.2.2)]⟩) (fin:=(fun(t35:Int×(List Int))=>((Exit.exit 0),⟨mkE 80 0 [(0,.ptr 0 0),(1,dI x43),(5,dI t.1),(7,.slc 1)],[some (.box [dV x44,dI t35.1]),some (sI t35.2)]⟩))) (by
 rintro t35 f K h
 ·exact h) (fun s=>link_map (Nkj x43 t.1 t.2.1 s.1 x44 s.2.1 t.2.2.2.1 s.2.2) (Sum.elim (fun(t35:Int×Int×(List Int))=>Sum.inl (t35.1,t35.2.1,t35.2.2)) (fun(t35:Int×(List Int))=>Sum.inr t35)) (by
 rintro(t35|t35)
 ·kernel_rfl
 ·kernel_rfl)) (1,t.2.2.1,t.2.2.2.2)) (fun(t35:Int×(List Int))=>(t35.1,t35.2)) (by
 rintro t35 K h
 ·exact Eq.mp (by kernel_rfl) h)))) (fun(t35:Int×(List Int))=>(Nus x43 t.1 x44 t35.1 t35.2))))))) (by unfold N22;kernel_rfl) (by
 intro t
 exact ret_mk [.slc 1] (by kernel_rfl) (by kernel_rfl) (by kernel_rfl) (by kernel_rfl)) h
def N61:Fun:=fun avs H=>
 match avs,H with
 |[.ptr 0 0,.dat (.int .i64) x43],[some (.box [.dat (.list (.int .u8)) x44,.dat (.int .i64) x45])]=>⟨_,N22 x43 x44 x45,fun(t:Int×(List Int))=>(.slc 1,[some (.box [dV x44,dI t.1]),some (sI t.2)]),[],none⟩
 |_,_=>Ans.no
theorem Nep:Sound Tryd.prog 34 N61:=by
 refine fn_sound' (C:=N2q) (c:=bodyOf Tryd.f34) (cok_of tys_ok (allc N3a (allc Nh9 (allc Nox alln))) (allc Tryd.call35 (allc Tryd.call37 (allc Tryd.call52 alln))) (by kernel_rfl)) Tryd.func34 (by kernel_rfl) LL N7 ?_
 intro avs H r H' h
 unfold N61 at h
 split at h
 ·refine Awp.cast ?_ ?_ ?_ (Nnm _ _ _ h)<;>kernel_rfl
 ·simp[Ans.no,Ans.run] at h
def Na9:Ann:=(.seq (.leaf [0,1,2]) (.seq (.leaf [6]) (.leaf [6])))
noncomputable def Naw:Ctx:=⟨tlook tys,olook [],ioF,0,false,[]⟩
theorem Njp (a b c:Int):Link Naw LL (bodyOf Tryd.f46) Na9 ⟨mkE 15 0 [(0,dI a),(1,dI b),(2,dI c)],[]⟩ (N6e a b c) (fun(t:Bool)=>(Exit.ret,⟨mkE 15 0 [(6,dB t)],[]⟩)):= .of fun K h=>by
 simp only[N6e,wpW] at h
 exact .of (by kernel_rfl) h
theorem Nit (a b c:Int) {r:AV} {H':Heap} (h:(Ans.mk _ (Np a b c) (fun(t:Bool)=>(dB t,[])) [] none).run=some (r,H')):Awp Naw LL (bodyOf Tryd.f46) Na9 ⟨mkE 15 0 [(0,dI a),(1,dI b),(2,dI c)],[]⟩ (Ret (tlook tys) Tryd.f46.results.toList r H'):=
 ret_of' (Njp a b c) (by unfold Np;kernel_rfl) (by
 intro t
 exact ret_mk [dB t] (by kernel_rfl) (by kernel_rfl) (by kernel_rfl) (by kernel_rfl)) h
def N8h:Fun:=fun avs H=>
 match avs,H with
 |[.dat (.int .i64) a,.dat (.int .i64) b,.dat (.int .i64) c],[]=>⟨_,Np a b c,fun(t:Bool)=>(dB t,[]),[],none⟩
 |_,_=>Ans.no
theorem Ndh:Sound Tryd.prog 46 N8h:=by
 refine fn_sound' (C:=Naw) (c:=bodyOf Tryd.f46) (cok_of tys_ok (alln) (alln) (by kernel_rfl)) Tryd.func46 (by kernel_rfl) LL Na9 ?_
 intro avs H r H' h
 unfold N8h at h
 split at h
 ·refine Awp.cast ?_ ?_ ?_ (Nit _ _ _ h)<;>kernel_rfl
 ·simp[Ans.no,Ans.run] at h
def N2:Ann:=(.seq (.leaf [0]) (.seq (.leaf [0,3]) (.seq (.seq (.leaf [0,3,12]) (.cond (.seq (.leaf [2]) (.leaf [2])) (.leaf [0,3]))) (.seq (.leaf [0,3,4]) (.seq (.seq (.leaf [0,3,4,5]) (.block (.loop (.seq (.seq (.leaf [0,3,4,5,15]) (.cond (.leaf [0,3,4,5]) (.leaf [4]))) (.seq (.block (.seq (.seq (.leaf [0,3,4,5,33]) (.cond (.seq (.leaf [2]) (.leaf [2])) (.leaf [0,3,4,5]))) (.seq (.seq (.leaf [0,3,4,5,38]) (.cond (.leaf [0,3,4,5]) (.leaf [0,3,4,5]))) (.seq (.leaf [0,3,4,5,6]) (.seq (.seq (.leaf [0,3,4,5,6,7]) (.block (.loop (.seq (.seq (.leaf [0,3,4,5,6,7,49]) (.cond (.leaf [0,3,4,5,6,7]) (.leaf [0,3,4,5,6]))) (.seq (.block (.seq (.leaf [0,3,4,5,6,7]) (.seq (.leaf [0,3,4,5,6,7,60]) (.cond (.seq (.leaf [2]) (.leaf [2])) (.leaf [0,3,4,5,6,7]))))) (.leaf [0,3,4,5,6,7])))))) (.seq (.leaf [0,3,4,5,62]) (.cond (.seq (.leaf [2]) (.leaf [2])) (.leaf [0,3,4,5])))))))) (.leaf [0,3,4,5])))))) (.seq (.leaf [2]) (.leaf [2])))))))
noncomputable def Ni:Ctx:=⟨tlook tys,olook [(46,N8h)],ioF,0,false,[]⟩
theorem Nnn (a:List Int):Link Ni LL (Code.seq (cq [0] (bodyOf Tryd.f21)) (Code.seq (cq [0,1] (bodyOf Tryd.f21)) (Code.seq (cq [0,1,1] (bodyOf Tryd.f21)) (cq [0,1,1,1] (bodyOf Tryd.f21))))) (Ann.seq (aq [0] N2) (Ann.seq (aq [0,1] N2) (Ann.seq (aq [0,1,1] N2) (aq [0,1,1,1] N2)))) ⟨mkE 65 0 [(0,dL a)],[]⟩ (N73 a) (Sum.elim (fun(t:Int)=>(Exit.normal,⟨mkE 65 0 [(0,dL a),(3,dI t),(4,dI 0)],[]⟩)) (fun(t:Bool)=>(Exit.ret,⟨mkE 65 0 [(2,dB t)],[]⟩))):= .of fun K h=>by
 simp only[N73,wpW] at h
 exact .of (by kernel_rfl) h
theorem Nqm (a:List Int) (b:Int):Link Ni LL (cq [0,0,1,1,1,1] (bodyOf Tryd.f21)) (aq [0,0,1,1,1,1] N2) ⟨mkE 65 0 [(0,dL a),(3,dI b),(4,dI 0)],[]⟩ (N8o) (fun(t:Unit)=>(Exit.normal,⟨mkE 65 0 [(0,dL a),(3,dI b),(4,dI 0),(5,dI 0)],[]⟩)):= .of fun K h=>by
 simp only[N8o,wpW] at h
 exact .of (by kernel_rfl) h
theorem Nte (a:List Int) (b c d:Int):Link Ni LL (cq [0,0,0,1,0,1,1,1,1] (bodyOf Tryd.f21)) (aq [0,0,0,1,0,1,1,1,1] N2) ⟨mkE 65 0 [(0,dL a),(3,dI b),(4,dI c),(5,dI d)],[]⟩ (N4r b c d) (Sum.elim (fun(t:Unit)=>(Exit.normal,⟨mkE 65 0 [(0,dL a),(3,dI b),(4,dI c),(5,dI d)],[]⟩)) (fun(t:Int)=>((Exit.exit 0),⟨mkE 65 0 [(4,dI t)],[]⟩))):= .of fun K h=>by
 simp only[N4r,wpW] at h
 exact .of (by kernel_rfl) h
theorem Ntd (a:List Int) (b c d:Int):Link Ni LL (Code.seq (cq [0,0,0,1,0,0,1,0,1,1,1,1] (bodyOf Tryd.f21)) (Code.seq (cq [0,1,0,0,1,0,0,1,0,1,1,1,1] (bodyOf Tryd.f21)) (cq [0,1,1,0,0,1,0,0,1,0,1,1,1,1] (bodyOf Tryd.f21)))) (Ann.seq (aq [0,0,0,1,0,0,1,0,1,1,1,1] N2) (Ann.seq (aq [0,1,0,0,1,0,0,1,0,1,1,1,1] N2) (aq [0,1,1,0,0,1,0,0,1,0,1,1,1,1] N2))) ⟨mkE 65 0 [(0,dL a),(3,dI b),(4,dI c),(5,dI d)],[]⟩ (N5d a b c d) (Sum.elim (fun(t:Int×Int)=>(Exit.normal,⟨mkE 65 0 [(0,dL a),(3,dI b),(4,dI t.1),(5,dI d),(6,dI t.2)],[]⟩)) (fun(t:Bool)=>(Exit.ret,⟨mkE 65 0 [(2,dB t)],[]⟩))):= .of fun K h=>by
 simp only[N5d,wpW] at h
 exact .of (by kernel_rfl) h
theorem Nt6 (a:List Int) (b c d g:Int):Link Ni LL (cq [0,0,1,1,1,0,0,1,0,0,1,0,1,1,1,1] (bodyOf Tryd.f21)) (aq [0,0,1,1,1,0,0,1,0,0,1,0,1,1,1,1] N2) ⟨mkE 65 0 [(0,dL a),(3,dI b),(4,dI c),(5,dI d),(6,dI g)],[]⟩ (N5h) (fun(t:Unit)=>(Exit.normal,⟨mkE 65 0 [(0,dL a),(3,dI b),(4,dI c),(5,dI d),(6,dI g),(7,dI 0)],[]⟩)):= .of fun K h=>by
 simp only[N5h,wpW] at h
 exact .of (by kernel_rfl) h
theorem Nq6 (a:List Int) (b c d g i:Int):Link Ni LL (cq [0,0,1,0,1,1,1,0,0,1,0,0,1,0,1,1,1,1] (bodyOf Tryd.f21)) (aq [0,0,1,0,1,1,1,0,0,1,0,0,1,0,1,1,1,1] N2) ⟨mkE 65 0 [(0,dL a),(3,dI b),(4,dI c),(5,dI d),(6,dI g),(7,dI i)],[]⟩ (N4w a b g i) (Sum.elim (fun(t:Int×Int)=>(Exit.normal,⟨mkE 65 0 [(0,dL a),(3,dI b),(4,dI c),(5,dI d),(6,dI t.1),(7,dI t.2)],[]⟩)) (Sum.elim (fun(t:Bool)=>(Exit.ret,⟨mkE 65 0 [(2,dB t)],[]⟩)) (fun(t:Int)=>((Exit.exit 2),⟨mkE 65 0 [(0,dL a),(3,dI b),(4,dI c),(5,dI d),(6,dI t)],[]⟩)))):= .of fun K h=>by
 simp only[N4w,wpW] at h
 exact .of (by kernel_rfl) h
theorem Nqi (a:List Int) (b c d g:Int):Link Ni LL (cq [1,1,1,1,0,0,1,0,0,1,0,1,1,1,1] (bodyOf Tryd.f21)) (aq [1,1,1,1,0,0,1,0,0,1,0,1,1,1,1] N2) ⟨mkE 65 0 [(0,dL a),(3,dI b),(4,dI c),(5,dI d),(6,dI g)],[]⟩ (N5p g) (Sum.elim (fun(t:Unit)=>(Exit.normal,⟨mkE 65 0 [(0,dL a),(3,dI b),(4,dI c),(5,dI d)],[]⟩)) (fun(t:Bool)=>(Exit.ret,⟨mkE 65 0 [(2,dB t)],[]⟩))):= .of fun K h=>by
 simp only[N5p,wpW] at h
 exact .of (by kernel_rfl) h
theorem Nuy (a:List Int) (b c d:Int):Link Ni LL (cq [1,1,0,0,1,0,1,1,1,1] (bodyOf Tryd.f21)) (aq [1,1,0,0,1,0,1,1,1,1] N2) ⟨mkE 65 0 [(0,dL a),(3,dI b),(4,dI c),(5,dI d)],[]⟩ (N7f d) (fun(t:Int)=>(Exit.normal,⟨mkE 65 0 [(0,dL a),(3,dI b),(4,dI c),(5,dI t)],[]⟩)):= .of fun K h=>by
 simp only[N7f,wpW] at h
 exact .of (by kernel_rfl) h
theorem Nur (a:Int):Link Ni LL (cq [1,1,1,1,1] (bodyOf Tryd.f21)) (aq [1,1,1,1,1] N2) ⟨mkE 65 0 [(4,dI a)],[]⟩ (N6w a) (fun(t:Bool)=>(Exit.ret,⟨mkE 65 0 [(2,dB t)],[]⟩)):= .of fun K h=>by
 simp only[N6w,wpW] at h
 exact .of (by kernel_rfl) h
theorem Nve (b:List Int) {r:AV} {H':Heap} (h:(Ans.mk _ (Nx b) (fun(t:Bool)=>(dB t,[])) [] none).run=some (r,H')):Awp Ni LL (bodyOf Tryd.f21) N2 ⟨mkE 65 0 [(0,dL b)],[]⟩ (Ret (tlook tys) Tryd.f21.results.toList r H'):=
 ret_of' (Link.cast (by kernel_rfl) (by kernel_rfl) (link_group (c:=(cq [0,1,1,1] (bodyOf Tryd.f21))) (a:=(aq [0,1,1,1] N2)) [(cq [0] (bodyOf Tryd.f21)),(cq [0,1] (bodyOf Tryd.f21)),(cq [0,1,1] (bodyOf Tryd.f21))] [(aq [0] N2),(aq [0,1] N2),(aq [0,1,1] N2)] rfl (link_seq2 (Nnn b) (fun(t:Int)=>(link_seq2 (link_seq (Nqm b t) (fun(t37:Unit)=>(link_block (fin2:=(Sum.elim (fun(t37:Int)=>(Exit.normal,⟨mkE 65 0 [(4,dI t37)],[]⟩)) (fun(t37:Bool)=>(Exit.ret,⟨mkE 65 0 [(2,dB t37)],[]⟩)))) (id:=0) (link_loop (mk:=fun(s:Int×Int)=>⟨mkE 65 0 [(0,dL b),(3,dI t),(4,dI s.1),(5,dI s.2)],[]⟩) (fin:=(Sum.elim (fun(t37:Bool)=>(Exit.ret,⟨mkE 65 0 [(2,dB t37)],[]⟩)) (fun(t37:Int)=>((Exit.exit 0),⟨mkE 65 0 [(4,dI t37)],[]⟩)))) (by
 rintro(t37|t37) f K h
 ·exact h
 ·exact h) (fun s=>link_map (link_seq2 (Nte b t s.1 s.2) (fun(t56:Unit)=>(link_map (fin2:=(Sum.elim (fun(t56:Int×Int)=>(Exit.normal,⟨mkE 65 0 [(0,dL b),(3,dI t),(4,dI t56.1),(5,dI t56.2)],[]⟩)) (Sum.elim (fun(t56:Bool)=>(Exit.ret,⟨mkE 65 0 [(2,dB t56)],[]⟩)) (fun(t56:Int)=>((Exit.exit 0),⟨mkE 65 0 [(4,dI t56)],[]⟩))))) (link_seq2 (link_block (fin2:=(Sum.elim (fun(t56:Int)=>(Exit.normal,⟨mkE 65 0 [(0,dL b),(3,dI t),(4,dI t56),(5,dI s.2)],[]⟩)) (fun(t56:Bool)=>(Exit.ret,⟨mkE 65 0 [(2,dB t56)],[]⟩)))) (id:=1) (link_group (c:=(cq [0,1,1,0,0,1,0,0,1,0,1,1,1,1] (bodyOf Tryd.f21))) (a:=(aq [0,1,1,0,0,1,0,0,1,0,1,1,1,1] N2)) [(cq [0,0,0,1,0,0,1,0,1,1,1,1] (bodyOf Tryd.f21)),(cq [0,1,0,0,1,0,0,1,0,1,1,1,1] (bodyOf Tryd.f21))] [(aq [0,0,0,1,0,0,1,0,1,1,1,1] N2),(aq [0,1,0,0,1,0,0,1,0,1,1,1,1] N2)] rfl (link_seq2 (Ntd b t s.1 s.2) (fun(t56:Int×Int)=>(link_map (fin2:=(Sum.elim (fun(t56:Int)=>(Exit.normal,⟨mkE 65 0 [(0,dL b),(3,dI t),(4,dI t56),(5,dI s.2)],[]⟩)) (fun(t56:Bool)=>(Exit.ret,⟨mkE 65 0 [(2,dB t56)],[]⟩)))) (link_seq2 (link_seq (Nt6 b t t56.1 s.2 t56.2) (fun(t36:Unit)=>(link_block (fin2:=(Sum.elim (fun(t36:Int)=>(Exit.normal,⟨mkE 65 0 [(0,dL b),(3,dI t),(4,dI t56.1),(5,dI s.2),(6,dI t36)],[]⟩)) (fun(t36:Bool)=>(Exit.ret,⟨mkE 65 0 [(2,dB t36)],[]⟩)))) (id:=2) (link_loop (mk:=fun(s55:Int×Int)=>⟨mkE 65 0 [(0,dL b),(3,dI t),(4,dI t56.1),(5,dI s.2),(6,dI s55.1),(7,dI s55.2)],[]⟩) (fin:=(Sum.elim (fun(t36:Bool)=>(Exit.ret,⟨mkE 65 0 [(2,dB t36)],[]⟩)) (fun(t36:Int)=>((Exit.exit 2),⟨mkE 65 0 [(0,dL b),(3,dI t),(4,dI t56.1),(5,dI s.2),(6,dI t36)],[]⟩)))) (by
 rintro(t36|t36) f K h
 ·exact h
 ·exact h) (fun s55=>link_map (Nq6 b t t56.1 s.2 s55.1 s55.2) (Sum.elim (fun(t36:Int×Int)=>Sum.inl (t36.1,t36.2)) (Sum.elim (fun(t36:Bool)=>Sum.inr (Sum.inl t36)) (fun(t36:Int)=>Sum.inr (Sum.inr t36)))) (by
 rintro(t36|t36|t36)
 ·kernel_rfl
 ·kernel_rfl
 ·kernel_rfl)) (t56.2,0)) (Sum.elim (fun(t36:Bool)=>(Sum.inr t36)) (fun(t36:Int)=>(Sum.inl t36))) (by
 rintro(t36|t36) K h
 ·exact Eq.mp (by kernel_rfl) h
 ·exact Eq.mp (by kernel_rfl) h)))) (fun(t36:Int)=>(Nqi b t t56.1 s.2 t36)) (fun(t36:Bool)=>(Sum.inr t36)) (by
 rintro t36
 ·kernel_rfl) (by
 rintro t36 f K h
 ·exact h)) (Sum.elim (fun(u:Unit)=>(Sum.inl t56.1)) (fun(u:Bool)=>(Sum.inr u))) (by
 rintro(t56|t56)
 ·kernel_rfl
 ·kernel_rfl))) (fun(t56:Bool)=>(Sum.inr t56)) (by
 rintro t56
 ·kernel_rfl) (by
 rintro t56 f K h
 ·exact h))) (Sum.elim (fun(t56:Int)=>(Sum.inl t56)) (fun(t56:Bool)=>(Sum.inr t56))) (by
 rintro(t56|t56) K h
 ·exact Eq.mp (by kernel_rfl) h
 ·exact Eq.mp (by kernel_rfl) h)) (fun(t56:Int)=>(link_map (fin2:=(Sum.elim (fun(t56:Int×Int)=>(Exit.normal,⟨mkE 65 0 [(0,dL b),(3,dI t),(4,dI t56.1),(5,dI t56.2)],[]⟩)) (fun(t56:Bool)=>(Exit.ret,⟨mkE 65 0 [(2,dB t56)],[]⟩)))) (Nuy b t t56 s.2) (fun(u:Int)=>(Sum.inl (t56,u))) (by
 rintro t56
 ·kernel_rfl))) (fun(t56:Bool)=>(Sum.inr t56)) (by
 rintro t56
 ·kernel_rfl) (by
 rintro t56 f K h
 ·exact h)) (Sum.elim (fun(t56:Int×Int)=>(Sum.inl (t56.1,t56.2))) (fun(t56:Bool)=>(Sum.inr (Sum.inl t56)))) (by
 rintro(t56|t56)
 ·kernel_rfl
 ·kernel_rfl))) (fun(t56:Int)=>(Sum.inr (Sum.inr t56))) (by
 rintro t56
 ·kernel_rfl) (by
 rintro t56 f K h
 ·exact h)) (Sum.elim (fun(t37:Int×Int)=>Sum.inl (t37.1,t37.2)) (Sum.elim (fun(t37:Bool)=>Sum.inr (Sum.inl t37)) (fun(t37:Int)=>Sum.inr (Sum.inr t37)))) (by
 rintro(t37|t37|t37)
 ·kernel_rfl
 ·kernel_rfl
 ·kernel_rfl)) (0,0)) (Sum.elim (fun(t37:Bool)=>(Sum.inr t37)) (fun(t37:Int)=>(Sum.inl t37))) (by
 rintro(t37|t37) K h
 ·exact Eq.mp (by kernel_rfl) h
 ·exact Eq.mp (by kernel_rfl) h)))) (fun(t37:Int)=>(Nur t37)) (fun(t37:Bool)=>t37) (by
 rintro t37
 ·kernel_rfl) (by
 rintro t37 f K h
 ·exact h))) (fun(t:Bool)=>t) (by
 rintro t
 ·kernel_rfl) (by
 rintro t f K h
 ·exact h)))) (by unfold Nx;kernel_rfl) (by
 intro t
 exact ret_mk [dB t] (by kernel_rfl) (by kernel_rfl) (by kernel_rfl) (by kernel_rfl)) h
def N4p:Fun:=fun avs H=>
 match avs,H with
 |[.dat (.list (.int .i64)) a],[]=>⟨_,Nx a,fun(t:Bool)=>(dB t,[]),[],none⟩
 |_,_=>Ans.no
theorem Nb5:Sound Tryd.prog 21 N4p:=by
 refine fn_sound' (C:=Ni) (c:=bodyOf Tryd.f21) (cok_of tys_ok (allc Ndh alln) (allc Tryd.call46 alln) (by kernel_rfl)) Tryd.func21 (by kernel_rfl) LL N2 ?_
 intro avs H r H' h
 unfold N4p at h
 split at h
 ·refine Awp.cast ?_ ?_ ?_ (Nve _ h)<;>kernel_rfl
 ·simp[Ans.no,Ans.run] at h
def Nh:Ann:=(.seq (.leaf [0,1]) (.seq (.seq (.leaf [0,1,5]) (.block (.loop (.seq (.seq (.leaf [0,1,5,10]) (.cond (.leaf [0,1,5]) (.leaf [0,1]))) (.seq (.block (.seq (.seq (.leaf [0,1,5,19]) (.cond (.seq (.leaf [4]) (.leaf [4])) (.leaf [0,1,5]))) (.seq (.leaf [0,1,5,6]) (.block (.loop (.seq (.seq (.leaf [0,1,5,6,22]) (.cond (.leaf [0,1,5,6]) (.leaf [0,1,5]))) (.seq (.block (.seq (.draw [] [0,1,2,3,4,5,6,7,8] [] [0,1,5,6,33]) (.cond (.seq (.leaf [4]) (.leaf [4])) (.leaf [0,1,5,6])))) (.leaf [0,1,5,6])))))))) (.leaf [0,1,5])))))) (.seq (.leaf [4]) (.leaf [4]))))
noncomputable def N1n:Ctx:=⟨tlook tys,olook [(46,N8h)],ioF,0,false,[]⟩
theorem Nq0 (a:List Int) (b:Int):Link N1n LL (cq [0] (bodyOf Tryd.f53)) (aq [0] Nh) ⟨mkE 42 0 [(0,dL a),(1,dI b)],[]⟩ (N5o) (fun(t:Unit)=>(Exit.normal,⟨mkE 42 0 [(0,dL a),(1,dI b)],[]⟩)):= .of fun K h=>by
 simp only[N5o,wpW] at h
 exact .of (by kernel_rfl) h
theorem Nvq (a:List Int) (b:Int):Link N1n LL (cq [0,0,1] (bodyOf Tryd.f53)) (aq [0,0,1] Nh) ⟨mkE 42 0 [(0,dL a),(1,dI b)],[]⟩ (N8i) (fun(t:Unit)=>(Exit.normal,⟨mkE 42 0 [(0,dL a),(1,dI b),(5,dI 0)],[]⟩)):= .of fun K h=>by
 simp only[N8i,wpW] at h
 exact .of (by kernel_rfl) h
theorem Nnd (a:List Int) (b c:Int):Link N1n LL (cq [0,0,0,1,0,1] (bodyOf Tryd.f53)) (aq [0,0,0,1,0,1] Nh) ⟨mkE 42 0 [(0,dL a),(1,dI b),(5,dI c)],[]⟩ (N6i a c) (Sum.elim (fun(t:Unit)=>(Exit.normal,⟨mkE 42 0 [(0,dL a),(1,dI b),(5,dI c)],[]⟩)) (fun(t:Unit)=>((Exit.exit 0),⟨mkE 42 0 [(0,dL a),(1,dI b)],[]⟩))):= .of fun K h=>by
 simp only[N6i,wpW] at h
 exact .of (by kernel_rfl) h
theorem Non (a:List Int) (b c:Int):Link N1n LL (Code.seq (cq [0,0,0,1,0,0,1,0,1] (bodyOf Tryd.f53)) (cq [0,1,0,0,1,0,0,1,0,1] (bodyOf Tryd.f53))) (Ann.seq (aq [0,0,0,1,0,0,1,0,1] Nh) (aq [0,1,0,0,1,0,0,1,0,1] Nh)) ⟨mkE 42 0 [(0,dL a),(1,dI b),(5,dI c)],[]⟩ (N88 a b c) (Sum.elim (fun(t:Unit)=>(Exit.normal,⟨mkE 42 0 [(0,dL a),(1,dI b),(5,dI c),(6,dI 0)],[]⟩)) (fun(t:Bool)=>(Exit.ret,⟨mkE 42 0 [(4,dB t)],[]⟩))):= .of fun K h=>by
 simp only[N88,wpW] at h
 exact .of (by kernel_rfl) h
theorem Njd (a:List Int) (b c d:Int):Link N1n LL (cq [0,0,1,1,0,0,1,0,0,1,0,1] (bodyOf Tryd.f53)) (aq [0,0,1,1,0,0,1,0,0,1,0,1] Nh) ⟨mkE 42 0 [(0,dL a),(1,dI b),(5,dI c),(6,dI d)],[]⟩ (N4j a c d) (Sum.elim (fun(t:Int)=>(Exit.normal,⟨mkE 42 0 [(0,dL a),(1,dI b),(5,dI c),(6,dI t)],[]⟩)) (Sum.elim (fun(t:Bool)=>(Exit.ret,⟨mkE 42 0 [(4,dB t)],[]⟩)) (fun(t:Unit)=>((Exit.exit 2),⟨mkE 42 0 [(0,dL a),(1,dI b),(5,dI c)],[]⟩)))):= .of fun K h=>by
 simp only[N4j,wpW] at h
 exact .of (by kernel_rfl) h
theorem Nty (a:List Int) (b c:Int):Link N1n LL (cq [1,1,0,0,1,0,1] (bodyOf Tryd.f53)) (aq [1,1,0,0,1,0,1] Nh) ⟨mkE 42 0 [(0,dL a),(1,dI b),(5,dI c)],[]⟩ (N81 c) (fun(t:Int)=>(Exit.normal,⟨mkE 42 0 [(0,dL a),(1,dI b),(5,dI t)],[]⟩)):= .of fun K h=>by
 simp only[N81,wpW] at h
 exact .of (by kernel_rfl) h
theorem Ntm (a:List Int) (b:Int):Link N1n LL (cq [1,1] (bodyOf Tryd.f53)) (aq [1,1] Nh) ⟨mkE 42 0 [(0,dL a),(1,dI b)],[]⟩ (N66 a b) (fun(t:Bool)=>(Exit.ret,⟨mkE 42 0 [(4,dB t)],[]⟩)):= .of fun K h=>by
 simp only[N66,wpW] at h
 exact .of (by kernel_rfl) h
theorem Noq (b:List Int) (d:Int) {r:AV} {H':Heap} (h:(Ans.mk _ (N3i b d) (fun(t:Bool)=>(dB t,[])) [] none).run=some (r,H')):Awp N1n LL (bodyOf Tryd.f53) Nh ⟨mkE 42 0 [(0,dL b),(1,dI d)],[]⟩ (Ret (tlook tys) Tryd.f53.results.toList r H'):=
 ret_of' (Link.cast (by kernel_rfl) (by kernel_rfl) (link_seq (Nq0 b d) (fun(t:Unit)=>(link_seq2 (link_seq (Nvq b d) (fun(t:Unit)=>(link_block (fin2:=(Sum.elim (fun(t:Unit)=>(Exit.normal,⟨mkE 42 0 [(0,dL b),(1,dI d)],[]⟩)) (fun(t:Bool)=>(Exit.ret,⟨mkE 42 0 [(4,dB t)],[]⟩)))) (id:=0) (link_loop (mk:=fun(s:Int)=>⟨mkE 42 0 [(0,dL b),(1,dI d),(5,dI s)],[]⟩) (fin:=(Sum.elim (fun(t:Bool)=>(Exit.ret,⟨mkE 42 0 [(4,dB t)],[]⟩)) (fun(t:Unit)=>((Exit.exit 0),⟨mkE 42 0 [(0,dL b),(1,dI d)],[]⟩)))) (by
 rintro(t|t) f K h
 ·exact h
 ·exact h) (fun s=>link_map (link_seq2 (Nnd b d s) (fun(t:Unit)=>(link_map (fin2:=(Sum.elim (fun(t:Int)=>(Exit.normal,⟨mkE 42 0 [(0,dL b),(1,dI d),(5,dI t)],[]⟩)) (Sum.elim (fun(t:Bool)=>(Exit.ret,⟨mkE 42 0 [(4,dB t)],[]⟩)) (fun(t:Unit)=>((Exit.exit 0),⟨mkE 42 0 [(0,dL b),(1,dI d)],[]⟩))))) (link_seq2 (link_block (fin2:=(Sum.elim (fun(t:Unit)=>(Exit.normal,⟨mkE 42 0 [(0,dL b),(1,dI d),(5,dI s)],[]⟩)) (fun(t:Bool)=>(Exit.ret,⟨mkE 42 0 [(4,dB t)],[]⟩)))) (id:=1) (link_group (c:=(cq [0,1,0,0,1,0,0,1,0,1] (bodyOf Tryd.f53))) (a:=(aq [0,1,0,0,1,0,0,1,0,1] Nh)) [(cq [0,0,0,1,0,0,1,0,1] (bodyOf Tryd.f53))] [(aq [0,0,0,1,0,0,1,0,1] Nh)] rfl (link_seq2 (Non b d s) (fun(t:Unit)=>(link_block (fin2:=(Sum.elim (fun(t:Unit)=>(Exit.normal,⟨mkE 42 0 [(0,dL b),(1,dI d),(5,dI s)],[]⟩)) (fun(t:Bool)=>(Exit.ret,⟨mkE 42 0 [(4,dB t)],[]⟩)))) (id:=2) (link_loop (mk:=fun(s38:Int)=>⟨mkE 42 0 [(0,dL b),(1,dI d),(5,dI s),(6,dI s38)],[]⟩) (fin:=(Sum.elim (fun(t:Bool)=>(Exit.ret,⟨mkE 42 0 [(4,dB t)],[]⟩)) (fun(t:Unit)=>((Exit.exit 2),⟨mkE 42 0 [(0,dL b),(1,dI d),(5,dI s)],[]⟩)))) (by
 rintro(t|t) f K h
 ·exact h
 ·exact h) (fun s38=>link_map (Njd b d s s38) (Sum.elim (fun(t:Int)=>Sum.inl t) (Sum.elim (fun(t:Bool)=>Sum.inr (Sum.inl t)) (fun(t:Unit)=>Sum.inr (Sum.inr t)))) (by
 rintro(t|t|t)
 ·kernel_rfl
 ·kernel_rfl
 ·kernel_rfl)) 0) (Sum.elim (fun(t:Bool)=>(Sum.inr t)) (fun(t:Unit)=>(Sum.inl ()))) (by
 rintro(t|t) K h
 ·exact Eq.mp (by kernel_rfl) h
 ·exact Eq.mp (by kernel_rfl) h))) (fun(t:Bool)=>(Sum.inr t)) (by
 rintro t
 ·kernel_rfl) (by
 rintro t f K h
 ·exact h))) (Sum.elim (fun(t:Unit)=>(Sum.inl ())) (fun(t:Bool)=>(Sum.inr t))) (by
 rintro(t|t) K h
 ·exact Eq.mp (by kernel_rfl) h
 ·exact Eq.mp (by kernel_rfl) h)) (fun(t:Unit)=>(link_map (fin2:=(Sum.elim (fun(t:Int)=>(Exit.normal,⟨mkE 42 0 [(0,dL b),(1,dI d),(5,dI t)],[]⟩)) (fun(t:Bool)=>(Exit.ret,⟨mkE 42 0 [(4,dB t)],[]⟩)))) (Nty b d s) (fun(t:Int)=>(Sum.inl t)) (by
 rintro t
 ·kernel_rfl))) (fun(t:Bool)=>(Sum.inr t)) (by
 rintro t
 ·kernel_rfl) (by
 rintro t f K h
 ·exact h)) (Sum.elim (fun(t:Int)=>(Sum.inl t)) (fun(t:Bool)=>(Sum.inr (Sum.inl t)))) (by
 rintro(t|t)
 ·kernel_rfl
 ·kernel_rfl))) (fun(t:Unit)=>(Sum.inr (Sum.inr t))) (by
 rintro t
 ·kernel_rfl) (by
 rintro t f K h
 ·exact h)) (Sum.elim (fun(t:Int)=>Sum.inl t) (Sum.elim (fun(t:Bool)=>Sum.inr (Sum.inl t)) (fun(t:Unit)=>Sum.inr (Sum.inr t)))) (by
 rintro(t|t|t)
 ·kernel_rfl
 ·kernel_rfl
 ·kernel_rfl)) 0) (Sum.elim (fun(t:Bool)=>(Sum.inr t)) (fun(t:Unit)=>(Sum.inl ()))) (by
 rintro(t|t) K h
 ·exact Eq.mp (by kernel_rfl) h
 ·exact Eq.mp (by kernel_rfl) h)))) (fun(t:Unit)=>(Ntm b d)) (fun(t:Bool)=>t) (by
 rintro t
 ·kernel_rfl) (by
 rintro t f K h
 ·exact h))))) (by unfold N3i;kernel_rfl) (by
 intro t
 exact ret_mk [dB t] (by kernel_rfl) (by kernel_rfl) (by kernel_rfl) (by kernel_rfl)) h
def Ncw:Fun:=fun avs H=>
 match avs,H with
 |[.dat (.list (.int .i64)) a,.dat (.int .i64) b],[]=>⟨_,N3i a b,fun(t:Bool)=>(dB t,[]),[],none⟩
 |_,_=>Ans.no
theorem Nl9:Sound Tryd.prog 53 Ncw:=by
 refine fn_sound' (C:=N1n) (c:=bodyOf Tryd.f53) (cok_of tys_ok (allc Ndh alln) (allc Tryd.call46 alln) (by kernel_rfl)) Tryd.func53 (by kernel_rfl) LL Nh ?_
 intro avs H r H' h
 unfold Ncw at h
 split at h
 ·refine Awp.cast ?_ ?_ ?_ (Noq _ _ h)<;>kernel_rfl
 ·simp[Ans.no,Ans.run] at h
def Na:Ann:=(.seq (.leaf [0,1]) (.seq (.seq (.leaf [0,1,19]) (.cond (.seq (.leaf [4,5]) (.leaf [4,5])) (.leaf [0,1]))) (.seq (.leaf [0,1,6]) (.seq (.seq (.leaf [0,1,6,7]) (.block (.loop (.seq (.seq (.leaf [0,1,6,7,28]) (.cond (.leaf [0,1,6,7]) (.leaf [0,1,6]))) (.seq (.block (.leaf [0,1,6,7])) (.leaf [0,1,6,7])))))) (.seq (.leaf [0,1,6,8]) (.seq (.seq (.leaf [0,1,6,8,9]) (.block (.loop (.seq (.seq (.leaf [0,1,6,8,9,43]) (.cond (.leaf [0,1,6,8,9]) (.leaf [8]))) (.seq (.block (.leaf [0,1,6,8,9])) (.leaf [0,1,6,8,9])))))) (.seq (.leaf [4,5]) (.leaf [4,5]))))))))
noncomputable def N1m:Ctx:=⟨tlook tys,olook [(21,N4p),(53,Ncw)],ioF,0,false,[]⟩
theorem Nuv (a b:List Int):Link N1m LL (Code.seq (cq [0] (bodyOf Tryd.f36)) (Code.seq (cq [0,1] (bodyOf Tryd.f36)) (cq [0,1,1] (bodyOf Tryd.f36)))) (Ann.seq (aq [0] Na) (Ann.seq (aq [0,1] Na) (aq [0,1,1] Na))) ⟨mkE 61 0 [(0,dL a),(1,dL b)],[]⟩ (N89 a b) (Sum.elim (fun(t:(List Int))=>(Exit.normal,⟨mkE 61 0 [(0,dL a),(1,dL b),(6,.slc 0)],[some (sI t)]⟩)) (fun(t:Bool×(List Int))=>(Exit.ret,⟨mkE 61 0 [(4,.slc 0),(5,dB t.1)],[some (sI t.2)]⟩))):= .of fun K h=>by
 simp only[N89,wpW] at h
 exact .of (by kernel_rfl) h
theorem Nts (a b c:List Int):Link N1m LL (cq [0,0,1,1,1] (bodyOf Tryd.f36)) (aq [0,0,1,1,1] Na) ⟨mkE 61 0 [(0,dL a),(1,dL b),(6,.slc 0)],[some (sI c)]⟩ (N7e) (fun(t:Unit)=>(Exit.normal,⟨mkE 61 0 [(0,dL a),(1,dL b),(6,.slc 0),(7,dI 0)],[some (sI c)]⟩)):= .of fun K h=>by
 simp only[N7e,wpW] at h
 exact .of (by kernel_rfl) h
theorem Nmb (a b:List Int) (c:Int) (d:List Int):Link N1m LL (cq [0,0,1,0,1,1,1] (bodyOf Tryd.f36)) (aq [0,0,1,0,1,1,1] Na) ⟨mkE 61 0 [(0,dL a),(1,dL b),(6,.slc 0),(7,dI c)],[some (sI d)]⟩ (N8r b c d) (Sum.elim (fun(t:Int×(List Int))=>(Exit.normal,⟨mkE 61 0 [(0,dL a),(1,dL b),(6,.slc 0),(7,dI t.1)],[some (sI t.2)]⟩)) (fun(t:(List Int))=>((Exit.exit 0),⟨mkE 61 0 [(0,dL a),(1,dL b),(6,.slc 0)],[some (sI t)]⟩))):= .of fun K h=>by
 simp only[N8r,wpW] at h
 exact .of (by kernel_rfl) h
theorem Nwq (a b c:List Int):Link N1m LL (cq [0,1,1,1,1] (bodyOf Tryd.f36)) (aq [0,1,1,1,1] Na) ⟨mkE 61 0 [(0,dL a),(1,dL b),(6,.slc 0)],[some (sI c)]⟩ (N6b) (fun(t:Unit)=>(Exit.normal,⟨mkE 61 0 [(0,dL a),(1,dL b),(6,.slc 0),(8,.slc 1)],[some (sI c),some (sI ([]:List Int))]⟩)):= .of fun K h=>by
 simp only[N6b,wpW] at h
 exact .of (by kernel_rfl) h
theorem Njv (a b c:List Int):Link N1m LL (cq [0,0,1,1,1,1,1] (bodyOf Tryd.f36)) (aq [0,0,1,1,1,1,1] Na) ⟨mkE 61 0 [(0,dL a),(1,dL b),(6,.slc 0),(8,.slc 1)],[some (sI c),some (sI ([]:List Int))]⟩ (N8b) (fun(t:Unit)=>(Exit.normal,⟨mkE 61 0 [(0,dL a),(1,dL b),(6,.slc 0),(8,.slc 1),(9,dI 0)],[some (sI c),some (sI ([]:List Int))]⟩)):= .of fun K h=>by
 simp only[N8b,wpW] at h
 exact .of (by kernel_rfl) h
theorem Nrj (a b:List Int) (c:Int) (d g:List Int):Link N1m LL (cq [0,0,1,0,1,1,1,1,1] (bodyOf Tryd.f36)) (aq [0,0,1,0,1,1,1,1,1] Na) ⟨mkE 61 0 [(0,dL a),(1,dL b),(6,.slc 0),(8,.slc 1),(9,dI c)],[some (sI d),some (sI g)]⟩ (N4z a b c d g) (Sum.elim (fun(t:Int×(List Int))=>(Exit.normal,⟨mkE 61 0 [(0,dL a),(1,dL b),(6,.slc 0),(8,.slc 1),(9,dI t.1)],[some (sI d),some (sI t.2)]⟩)) (fun(t:(List Int))=>((Exit.exit 2),⟨mkE 61 0 [(8,.slc 0)],[some (sI t)]⟩))):= .of fun K h=>by
 simp only[N4z,wpW] at h
 exact .of (by kernel_rfl) h
theorem Ntx (a:List Int):Link N1m LL (cq [1,1,1,1,1,1] (bodyOf Tryd.f36)) (aq [1,1,1,1,1,1] Na) ⟨mkE 61 0 [(8,.slc 0)],[some (sI a)]⟩ (N6s a) (fun(t:Bool×(List Int))=>(Exit.ret,⟨mkE 61 0 [(4,.slc 0),(5,dB t.1)],[some (sI t.2)]⟩)):= .of fun K h=>by
 simp only[N6s,wpW] at h
 exact .of (by kernel_rfl) h
theorem Np0 (b d:List Int) {r:AV} {H':Heap} (h:(Ans.mk _ (N31 b d) (fun(t:Bool×(List Int))=>(.tup [.slc 0,dB t.1],[some (sI t.2)])) [] none).run=some (r,H')):Awp N1m LL (bodyOf Tryd.f36) Na ⟨mkE 61 0 [(0,dL b),(1,dL d)],[]⟩ (Ret (tlook tys) Tryd.f36.results.toList r H'):=
 ret_of' (Link.cast (by kernel_rfl) (by kernel_rfl) (link_group (c:=(cq [0,1,1] (bodyOf Tryd.f36))) (a:=(aq [0,1,1] Na)) [(cq [0] (bodyOf Tryd.f36)),(cq [0,1] (bodyOf Tryd.f36))] [(aq [0] Na),(aq [0,1] Na)] rfl (link_seq2 (Nuv b d) (fun(t:(List Int))=>(link_seq (link_seq (Nts b d t) (fun(t39:Unit)=>(link_block (fin2:=(fun(t39:(List Int))=>(Exit.normal,⟨mkE 61 0 [(0,dL b),(1,dL d),(6,.slc 0)],[some (sI t39)]⟩))) (id:=0) (link_loop (mk:=fun(s:Int×(List Int))=>⟨mkE 61 0 [(0,dL b),(1,dL d),(6,.slc 0),(7,dI s.1)],[some (sI s.2)]⟩) (fin:=(fun(t39:(List Int))=>((Exit.exit 0),⟨mkE 61 0 [(0,dL b),(1,dL d),(6,.slc 0)],[some (sI t39)]⟩))) (by
 rintro t39 f K h
 ·exact h) (fun s=>link_map (Nmb b d s.1 s.2) (Sum.elim (fun(t39:Int×(List Int))=>Sum.inl (t39.1,t39.2)) (fun(t39:(List Int))=>Sum.inr t39)) (by
 rintro(t39|t39)
 ·kernel_rfl
 ·kernel_rfl)) (0,t)) (fun(t39:(List Int))=>t39) (by
 rintro t39 K h
 ·exact Eq.mp (by kernel_rfl) h)))) (fun(t39:(List Int))=>(link_seq (Nwq b d t39) (fun(t:Unit)=>(link_seq (link_seq (Njv b d t39) (fun(t:Unit)=>(link_block (fin2:=(fun(t:(List Int))=>(Exit.normal,⟨mkE 61 0 [(8,.slc 0)],[some (sI t)]⟩))) (id:=2) (link_loop (mk:=fun(s:Int×(List Int))=>⟨mkE 61 0 [(0,dL b),(1,dL d),(6,.slc 0),(8,.slc 1),(9,dI s.1)],[some (sI t39),some (sI s.2)]⟩) (fin:=(fun(t:(List Int))=>((Exit.exit 2),⟨mkE 61 0 [(8,.slc 0)],[some (sI t)]⟩))) (by
 rintro t f K h
 ·exact h) (fun s=>link_map (Nrj b d s.1 t39 s.2) (Sum.elim (fun(t:Int×(List Int))=>Sum.inl (t.1,t.2)) (fun(t:(List Int))=>Sum.inr t)) (by
 rintro(t|t)
 ·kernel_rfl
 ·kernel_rfl)) (0,([]:List Int))) (fun(t:(List Int))=>t) (by
 rintro t K h
 ·exact Eq.mp (by kernel_rfl) h)))) (fun(t:(List Int))=>(Ntx t)))))))) (fun(t:Bool×(List Int))=>t) (by
 rintro t
 ·kernel_rfl) (by
 rintro t f K h
 ·exact h)))) (by unfold N31;kernel_rfl) (by
 intro t
 exact ret_mk [.slc 0,dB t.1] (by kernel_rfl) (by kernel_rfl) (by kernel_rfl) (by kernel_rfl)) h
def Nay:Fun:=fun avs H=>
 match avs,H with
 |[.dat (.list (.int .i64)) a,.dat (.list (.int .i64)) b],[]=>⟨_,N31 a b,fun(t:Bool×(List Int))=>(.tup [.slc 0,dB t.1],[some (sI t.2)]),[],none⟩
 |_,_=>Ans.no
theorem Niq:Sound Tryd.prog 36 Nay:=by
 refine fn_sound' (C:=N1m) (c:=bodyOf Tryd.f36) (cok_of tys_ok (allc Nb5 (allc Nl9 alln)) (allc Tryd.call21 (allc Tryd.call53 alln)) (by kernel_rfl)) Tryd.func36 (by kernel_rfl) LL Na ?_
 intro avs H r H' h
 unfold Nay at h
 split at h
 ·refine Awp.cast ?_ ?_ ?_ (Np0 _ _ h)<;>kernel_rfl
 ·simp[Ans.no,Ans.run] at h
def Nc:Ann:=(.seq (.seq (.leaf [0,1,2,3,4,16]) (.cond (.leaf []) (.leaf [0,1,2,3,4]))) (.seq (.leaf [0,1,2,3,4,10]) (.seq (.leaf [0,1,2,3,10]) (.seq (.leaf [0,1,3,10,11]) (.seq (.block (.loop (.seq (.seq (.leaf [0,1,3,10,11,33]) (.cond (.leaf [0,1,3,10,11]) (.leaf [0,1,3,10]))) (.block (.seq (.leaf [0,1,3,10,11,12]) (.seq (.leaf [0,1,3,10,12]) (.leaf [0,1,3,10,11]))))))) (.seq (.leaf [0,1,3,10,11]) (.block (.loop (.seq (.seq (.leaf [0,1,3,10,11,53]) (.cond (.leaf [0,1,3,10,11]) (.leaf []))) (.block (.seq (.leaf [0,1,3,10,11,13]) (.seq (.leaf [0,1,3,10,13]) (.leaf [0,1,3,10,11])))))))))))))
def N18 (n:Nat):Fun:=fun avs H=>
 match avs,H with
 |[.ptr 0 0,.slc 1,.dat (.int .i64) a,.dat (.int .i64) b,.dat (.int .i64) c],[some (.box [.dat (.list (.int .u8)) d,.dat (.int .i64) g]),some (.seq (.int .i64) i)]=>⟨_,N1e n a b c d g i,fun(t:Int×(List Int))=>(.tup [],[some (.box [dV d,dI t.1]),some (sI t.2)]),[],none⟩
 |_,_=>Ans.no
noncomputable def N41 (n:Nat):Ctx:=⟨tlook tys,olook [(35,N1w),(54,N18 n)],ioF,2,false,[]⟩
theorem Nqo (n:Nat) (a b c:Int) (d:List Int) (g:Int) (i:List Int):Link (N41 n) LL (Code.seq (cq [0] (bodyOf Tryd.f54)) (Code.seq (cq [0,1] (bodyOf Tryd.f54)) (Code.seq (cq [0,1,1] (bodyOf Tryd.f54)) (cq [0,1,1,1] (bodyOf Tryd.f54))))) (Ann.seq (aq [0] Nc) (Ann.seq (aq [0,1] Nc) (Ann.seq (aq [0,1,1] Nc) (aq [0,1,1,1] Nc)))) ⟨mkE 70 0 [(0,.ptr 0 0),(1,.slc 1),(2,dI a),(3,dI b),(4,dI c)],[some (.box [dV d,dI g]),some (sI i)]⟩ (N7o (N1e n) a b c d g i) (Sum.elim (fun(t:Int×Int×(List Int))=>(Exit.normal,⟨mkE 70 0 [(0,.ptr 0 0),(1,.slc 1),(3,dI b),(10,dI t.1),(11,dI a)],[some (.box [dV d,dI t.2.1]),some (sI t.2.2)]⟩)) (fun(t:Int×(List Int))=>(Exit.ret,⟨mkE 70 0 [],[some (.box [dV d,dI t.1]),some (sI t.2)]⟩))):= .of fun K h=>by
 simp only[N7o,wpW] at h
 exact .of (by kernel_rfl) h
theorem Nwc (n:Nat) (a b c:Int) (d:List Int) (g:Int) (i:List Int):Link (N41 n) LL (cq [0,0,0,1,1,1,1] (bodyOf Tryd.f54)) (aq [0,0,0,1,1,1,1] Nc) ⟨mkE 70 0 [(0,.ptr 0 0),(1,.slc 1),(3,dI a),(10,dI b),(11,dI c)],[some (.box [dV d,dI g]),some (sI i)]⟩ (N4a (N1e n) b c d g i) (Sum.elim (fun(t:Int×Int×(List Int))=>(Exit.normal,⟨mkE 70 0 [(0,.ptr 0 0),(1,.slc 1),(3,dI a),(10,dI b),(11,dI t.1)],[some (.box [dV d,dI t.2.1]),some (sI t.2.2)]⟩)) (fun(t:Int×(List Int))=>((Exit.exit 0),⟨mkE 70 0 [(0,.ptr 0 0),(1,.slc 1),(3,dI a),(10,dI b)],[some (.box [dV d,dI t.1]),some (sI t.2)]⟩))):= .of fun K h=>by
 simp only[N4a,wpW] at h
 exact .of (by kernel_rfl) h
theorem Nof (n:Nat) (a b:Int) (c:List Int) (d:Int) (g:List Int):Link (N41 n) LL (cq [0,1,1,1,1,1] (bodyOf Tryd.f54)) (aq [0,1,1,1,1,1] Nc) ⟨mkE 70 0 [(0,.ptr 0 0),(1,.slc 1),(3,dI a),(10,dI b)],[some (.box [dV c,dI d]),some (sI g)]⟩ (N5r (N1e n) b) (fun(t:Int)=>(Exit.normal,⟨mkE 70 0 [(0,.ptr 0 0),(1,.slc 1),(3,dI a),(10,dI b),(11,dI t)],[some (.box [dV c,dI d]),some (sI g)]⟩)):= .of fun K h=>by
 simp only[N5r,wpW] at h
 exact .of (by kernel_rfl) h
theorem Ns0 (n:Nat) (a b c:Int) (d:List Int) (g:Int) (i:List Int):Link (N41 n) LL (cq [0,0,1,1,1,1,1,1] (bodyOf Tryd.f54)) (aq [0,0,1,1,1,1,1,1] Nc) ⟨mkE 70 0 [(0,.ptr 0 0),(1,.slc 1),(3,dI a),(10,dI b),(11,dI c)],[some (.box [dV d,dI g]),some (sI i)]⟩ (N55 (N1e n) a b c d g i) (Sum.elim (fun(t:Int×Int×(List Int))=>(Exit.normal,⟨mkE 70 0 [(0,.ptr 0 0),(1,.slc 1),(3,dI a),(10,dI b),(11,dI t.1)],[some (.box [dV d,dI t.2.1]),some (sI t.2.2)]⟩)) (fun(t:Int×(List Int))=>((Exit.exit 2),⟨mkE 70 0 [],[some (.box [dV d,dI t.1]),some (sI t.2)]⟩))):= .of fun K h=>by
 simp only[N55,wpW] at h
 exact .of (by kernel_rfl) h
theorem Njn (n:Nat) (b d g:Int) (i:List Int) (j:Int) (k:List Int) {r:AV} {H':Heap} (h:(Ans.mk _ (N1e (n+1) b d g i j k) (fun(t:Int×(List Int))=>(.tup [],[some (.box [dV i,dI t.1]),some (sI t.2)])) [] none).run=some (r,H')):Awp (N41 n) LL (bodyOf Tryd.f54) Nc ⟨mkE 70 0 [(0,.ptr 0 0),(1,.slc 1),(2,dI b),(3,dI d),(4,dI g)],[some (.box [dV i,dI j]),some (sI k)]⟩ (Ret (tlook tys) Tryd.f54.results.toList r H'):=
 ret_of (Link.cast (by kernel_rfl) (by kernel_rfl) (link_group (c:=(cq [0,1,1,1] (bodyOf Tryd.f54))) (a:=(aq [0,1,1,1] Nc)) [(cq [0] (bodyOf Tryd.f54)),(cq [0,1] (bodyOf Tryd.f54)),(cq [0,1,1] (bodyOf Tryd.f54))] [(aq [0] Nc),(aq [0,1] Nc),(aq [0,1,1] Nc)] rfl (link_seq2 (Nqo n b d g i j k) (fun(t:Int×Int×(List Int))=>(link_map (fin2:=(Sum.elim (fun(t:Int×(List Int))=>(Exit.normal,⟨mkE 70 0 [],[some (.box [dV i,dI t.1]),some (sI t.2)]⟩)) (fun(t:Int×(List Int))=>(Exit.ret,⟨mkE 70 0 [],[some (.box [dV i,dI t.1]),some (sI t.2)]⟩)))) (link_seq (link_block (fin2:=(fun(t57:Int×(List Int))=>(Exit.normal,⟨mkE 70 0 [(0,.ptr 0 0),(1,.slc 1),(3,dI d),(10,dI t.1)],[some (.box [dV i,dI t57.1]),some (sI t57.2)]⟩))) (id:=0) (link_loop (mk:=fun(s:Int×Int×(List Int))=>⟨mkE 70 0 [(0,.ptr 0 0),(1,.slc 1),(3,dI d),(10,dI t.1),(11,dI s.1)],[some (.box [dV i,dI s.2.1]),some (sI s.2.2)]⟩) (fin:=(fun(t57:Int×(List Int))=>((Exit.exit 0),⟨mkE 70 0 [(0,.ptr 0 0),(1,.slc 1),(3,dI d),(10,dI t.1)],[some (.box [dV i,dI t57.1]),some (sI t57.2)]⟩))) (by
 rintro t57 f K h
 ·exact h) (fun s=>link_map (Nwc n d t.1 s.1 i s.2.1 s.2.2) (Sum.elim (fun(t57:Int×Int×(List Int))=>Sum.inl (t57.1,t57.2.1,t57.2.2)) (fun(t57:Int×(List Int))=>Sum.inr t57)) (by
 rintro(t57|t57)
 ·kernel_rfl
 ·kernel_rfl)) (b,t.2.1,t.2.2)) (fun(t57:Int×(List Int))=>(t57.1,t57.2)) (by
 rintro t57 K h
 ·exact Eq.mp (by kernel_rfl) h)) (fun(t57:Int×(List Int))=>(link_seq (Nof n d t.1 i t57.1 t57.2) (fun(t1:Int)=>(link_block (fin2:=(fun(t40:Int×(List Int))=>(Exit.normal,⟨mkE 70 0 [],[some (.box [dV i,dI t40.1]),some (sI t40.2)]⟩))) (id:=2) (link_loop (mk:=fun(s:Int×Int×(List Int))=>⟨mkE 70 0 [(0,.ptr 0 0),(1,.slc 1),(3,dI d),(10,dI t.1),(11,dI s.1)],[some (.box [dV i,dI s.2.1]),some (sI s.2.2)]⟩) (fin:=(fun(t40:Int×(List Int))=>((Exit.exit 2),⟨mkE 70 0 [],[some (.box [dV i,dI t40.1]),some (sI t40.2)]⟩))) (by
 rintro t40 f K h
 ·exact h) (fun s=>link_map (Ns0 n d t.1 s.1 i s.2.1 s.2.2) (Sum.elim (fun(t40:Int×Int×(List Int))=>Sum.inl (t40.1,t40.2.1,t40.2.2)) (fun(t40:Int×(List Int))=>Sum.inr t40)) (by
 rintro(t40|t40)
 ·kernel_rfl
 ·kernel_rfl)) (t1,t57.1,t57.2)) (fun(t40:Int×(List Int))=>(t40.1,t40.2)) (by
 rintro t40 K h
 ·exact Eq.mp (by kernel_rfl) h)))))) (fun(u:Int×(List Int))=>(Sum.inl (u.1,u.2))) (by
 rintro t
 ·kernel_rfl))) (fun(t:Int×(List Int))=>(Sum.inr t)) (by
 rintro t
 ·kernel_rfl) (by
 rintro t f K h
 ·exact h)))) (Sum.elim (fun(t:Int×(List Int))=>(t.1,t.2)) (fun(t:Int×(List Int))=>t)) (by(show _=_);kernel_rfl) (by
 rintro(t|t)
 ·exact ret_mk [] (by kernel_rfl) (by kernel_rfl) (by kernel_rfl) (by kernel_rfl)
 ·exact ret_mk [] (by kernel_rfl) (by kernel_rfl) (by kernel_rfl) (by kernel_rfl)) h
theorem Nlq (n:Nat) (h54:Sound Tryd.prog 54 (N18 n)):Sound Tryd.prog 54 (N18 (n+1)):=by
 refine fn_sound' (C:=N41 n) (c:=bodyOf Tryd.f54) (cok_of tys_ok (allc N3a (allc h54 alln)) (allc Tryd.call35 (allc Tryd.call54 alln)) (by kernel_rfl)) Tryd.func54 (by kernel_rfl) LL Nc ?_
 intro avs H r H' h
 unfold N18 at h
 split at h
 ·refine Awp.cast ?_ ?_ ?_ (Njn n _ _ _ _ _ _ h)<;>kernel_rfl
 ·simp[Ans.no,Ans.run] at h
theorem Nsx:Sound Tryd.prog 54 (N18 0):=by
 intro avs H r H' h
 unfold N18 at h
 split at h
 ·simp[N1e,N2e,Ans.run] at h
 ·simp[Ans.no,Ans.run] at h
theorem Ndc: ∀n,Sound Tryd.prog 54 (N18 n)
 |0=>Nsx
 |n+1=>by
  have h54:=Ndc n
  exact Nlq n h54
def N84:Fun:=fun avs H=>
 match avs,H with
 |[.ptr 0 0,.slc 1,.dat (.int .i64) a,.dat (.int .i64) b,.dat (.int .i64) c],[some (.box [.dat (.list (.int .u8)) d,.dat (.int .i64) g]),some (.seq (.int .i64) i)]=>⟨_,N4n a b c d g i,fun(t:Int×(List Int))=>(.tup [],[some (.box [dV d,dI t.1]),some (sI t.2)]),[],none⟩
 |_,_=>Ans.no
theorem Np2:Sound Tryd.prog 54 N84:=by
 have e:N84=N18 RR:=by
  funext avs H
  unfold N84 N18
  split<;>first|rfl|(simp only[N4n])
 rw[e]
 exact(Ndc RR)
def Nb1:Ann:=(.seq (.leaf [0,1]) (.seq (.seq (.leaf [0,1,9]) (.cond (.seq (.leaf [4]) (.leaf [4])) (.leaf [0]))) (.seq (.leaf [0,5]) (.seq (.leaf [0,5,6]) (.seq (.leaf [6]) (.seq (.leaf [4]) (.leaf [4])))))))
noncomputable def Nam:Ctx:=⟨tlook tys,olook [(35,N1w),(34,N61),(54,N84)],ioF,1,false,[]⟩
theorem Nns (a:Int) (b:List Int) (c:Int):Link Nam LL (bodyOf Tryd.f38) Nb1 ⟨mkE 23 0 [(0,.ptr 0 0),(1,dI a)],[some (.box [dV b,dI c])]⟩ (N4s a b c) (fun(t:Int×(List Int))=>(Exit.ret,⟨mkE 23 0 [(4,.slc 1)],[some (.box [dV b,dI t.1]),some (sI t.2)]⟩)):= .of fun K h=>by
 simp only[N4s,wpW] at h
 exact .of (by kernel_rfl) h
theorem Nke (a:Int) (b:List Int) (c:Int) {r:AV} {H':Heap} (h:(Ans.mk _ (N1j a b c) (fun(t:Int×(List Int))=>(.slc 1,[some (.box [dV b,dI t.1]),some (sI t.2)])) [] none).run=some (r,H')):Awp Nam LL (bodyOf Tryd.f38) Nb1 ⟨mkE 23 0 [(0,.ptr 0 0),(1,dI a)],[some (.box [dV b,dI c])]⟩ (Ret (tlook tys) Tryd.f38.results.toList r H'):=
 ret_of' (Nns a b c) (by unfold N1j;kernel_rfl) (by
 intro t
 exact ret_mk [.slc 1] (by kernel_rfl) (by kernel_rfl) (by kernel_rfl) (by kernel_rfl)) h
def N9x:Fun:=fun avs H=>
 match avs,H with
 |[.ptr 0 0,.dat (.int .i64) a],[some (.box [.dat (.list (.int .u8)) b,.dat (.int .i64) c])]=>⟨_,N1j a b c,fun(t:Int×(List Int))=>(.slc 1,[some (.box [dV b,dI t.1]),some (sI t.2)]),[],none⟩
 |_,_=>Ans.no
theorem Npp:Sound Tryd.prog 38 N9x:=by
 refine fn_sound' (C:=Nam) (c:=bodyOf Tryd.f38) (cok_of tys_ok (allc N3a (allc Nep (allc Np2 alln))) (allc Tryd.call35 (allc Tryd.call34 (allc Tryd.call54 alln))) (by kernel_rfl)) Tryd.func38 (by kernel_rfl) LL Nb1 ?_
 intro avs H r H' h
 unfold N9x at h
 split at h
 ·refine Awp.cast ?_ ?_ ?_ (Nke _ _ _ h)<;>kernel_rfl
 ·simp[Ans.no,Ans.run] at h
def Na7:Ann:=(.seq (.leaf [0,1]) (.seq (.leaf [0,1,5]) (.seq (.seq (.leaf [0,1,5,17]) (.cond (.seq (.leaf [6]) (.seq (.leaf [4]) (.leaf [4]))) (.leaf [0,1,5]))) (.seq (.seq (.leaf [0,1,5,30]) (.cond (.seq (.leaf [4]) (.leaf [4])) (.leaf [5]))) (.seq (.leaf [4]) (.leaf [4]))))))
noncomputable def Nai:Ctx:=⟨tlook tys,olook [(34,N61),(35,N1w),(21,N4p),(37,N69),(36,Nay),(38,N9x)],ioF,1,false,[]⟩
theorem Nsk (x40:Int) (x41:List Int) (x42:Int):Link Nai LL (bodyOf Tryd.f16) Na7 ⟨mkE 35 0 [(0,.ptr 0 0),(1,dI x40)],[some (.box [dV x41,dI x42])]⟩ (N4f x40 x41 x42) (fun(t:Int×(List Int))=>(Exit.ret,⟨mkE 35 0 [(4,.slc 1)],[some (.box [dV x41,dI t.1]),some (sI t.2)]⟩)):= .of fun K h=>by
 simp only[N4f,wpW] at h
 exact .of (by kernel_rfl) h
theorem Nrx (x40:Int) (x41:List Int) (x42:Int) {r:AV} {H':Heap} (h:(Ans.mk _ (N1u x40 x41 x42) (fun(t:Int×(List Int))=>(.slc 1,[some (.box [dV x41,dI t.1]),some (sI t.2)])) [] none).run=some (r,H')):Awp Nai LL (bodyOf Tryd.f16) Na7 ⟨mkE 35 0 [(0,.ptr 0 0),(1,dI x40)],[some (.box [dV x41,dI x42])]⟩ (Ret (tlook tys) Tryd.f16.results.toList r H'):=
 ret_of' (Nsk x40 x41 x42) (by unfold N1u;kernel_rfl) (by
 intro t
 exact ret_mk [.slc 1] (by kernel_rfl) (by kernel_rfl) (by kernel_rfl) (by kernel_rfl)) h
def Nac:Fun:=fun avs H=>
 match avs,H with
 |[.ptr 0 0,.dat (.int .i64) x40],[some (.box [.dat (.list (.int .u8)) x41,.dat (.int .i64) x42])]=>⟨_,N1u x40 x41 x42,fun(t:Int×(List Int))=>(.slc 1,[some (.box [dV x41,dI t.1]),some (sI t.2)]),[],none⟩
 |_,_=>Ans.no
theorem Nug:Sound Tryd.prog 16 Nac:=by
 refine fn_sound' (C:=Nai) (c:=bodyOf Tryd.f16) (cok_of tys_ok (allc Nep (allc N3a (allc Nb5 (allc Nh9 (allc Niq (allc Npp alln)))))) (allc Tryd.call34 (allc Tryd.call35 (allc Tryd.call21 (allc Tryd.call37 (allc Tryd.call36 (allc Tryd.call38 alln)))))) (by kernel_rfl)) Tryd.func16 (by kernel_rfl) LL Na7 ?_
 intro avs H r H' h
 unfold Nac at h
 split at h
 ·refine Awp.cast ?_ ?_ ?_ (Nrx _ _ _ h)<;>kernel_rfl
 ·simp[Ans.no,Ans.run] at h
def Nab:Ann:=(.seq (.leaf [0]) (.seq (.leaf [2]) (.leaf [2])))
noncomputable def Ncs:Ctx:=⟨tlook tys,olook [(17,Nbr),(16,Nac)],ioF,0,false,[]⟩
theorem Nrf (x16:List Int):Link Ncs LL (bodyOf Tryd.f5) Nab ⟨mkE 6 0 [(0,dV x16)],[]⟩ (N7a x16) (fun(t:(List Int))=>(Exit.ret,⟨mkE 6 0 [(2,.slc 0)],[some (sI t)]⟩)):= .of fun K h=>by
 simp only[N7a,wpW] at h
 exact .of (by kernel_rfl) h
theorem Nm1 (x16:List Int) {r:AV} {H':Heap} (h:(Ans.mk _ (N2r x16) (fun(t:(List Int))=>(.slc 0,[some (sI t)])) [] none).run=some (r,H')):Awp Ncs LL (bodyOf Tryd.f5) Nab ⟨mkE 6 0 [(0,dV x16)],[]⟩ (Ret (tlook tys) Tryd.f5.results.toList r H'):=
 ret_of' (Nrf x16) (by unfold N2r;kernel_rfl) (by
 intro t
 exact ret_mk [.slc 0] (by kernel_rfl) (by kernel_rfl) (by kernel_rfl) (by kernel_rfl)) h
def N9r:Fun:=fun avs H=>
 match avs,H with
 |[.dat (.list (.int .u8)) x16],[]=>⟨_,N2r x16,fun(t:(List Int))=>(.slc 0,[some (sI t)]),[],none⟩
 |_,_=>Ans.no
theorem Nt0:Sound Tryd.prog 5 N9r:=by
 refine fn_sound' (C:=Ncs) (c:=bodyOf Tryd.f5) (cok_of tys_ok (allc Ntt (allc Nug alln)) (allc Tryd.call17 (allc Tryd.call16 alln)) (by kernel_rfl)) Tryd.func5 (by kernel_rfl) LL Nab ?_
 intro avs H r H' h
 unfold N9r at h
 split at h
 ·refine Awp.cast ?_ ?_ ?_ (Nm1 _ h)<;>kernel_rfl
 ·simp[Ans.no,Ans.run] at h
def Ny:Ann:=(.seq (.leaf [0]) (.seq (.leaf [0,3]) (.seq (.seq (.leaf [0,3,6,7,8]) (.block (.loop (.seq (.leaf [0,3,6,7,8,9]) (.seq (.cond (.leaf [0,3,6,7,8]) (.leaf [3])) (.seq (.block (.seq (.leaf [0,3,5,6,7,8]) (.seq (.seq (.leaf [0,3,5,6,7,8,19]) (.cond (.seq (.leaf [2]) (.leaf [2])) (.leaf [0,3,5,6,7,8]))) (.seq (.leaf [0,3,6,7,8,21]) (.cond (.leaf [0,3,6,7,8]) (.leaf [0,3,6,7,8])))))) (.leaf [0,3,6,7,8]))))))) (.seq (.leaf [2]) (.leaf [2])))))
noncomputable def N40:Ctx:=⟨tlook tys,olook [],ioF,0,false,[]⟩
theorem Nqu (a:List Int):Link N40 LL (Code.seq (cq [0] (bodyOf Tryd.f24)) (cq [0,1] (bodyOf Tryd.f24))) (Ann.seq (aq [0] Ny) (aq [0,1] Ny)) ⟨mkE 27 0 [(0,dL a)],[]⟩ (N6g) (fun(t:Unit)=>(Exit.normal,⟨mkE 27 0 [(0,dL a),(3,dI 0)],[]⟩)):= .of fun K h=>by
 simp only[N6g,wpW] at h
 exact .of (by kernel_rfl) h
theorem Nle (a:List Int):Link N40 LL (cq [0,0,1,1] (bodyOf Tryd.f24)) (aq [0,0,1,1] Ny) ⟨mkE 27 0 [(0,dL a),(3,dI 0)],[]⟩ (N6z a) (fun(t:Int)=>(Exit.normal,⟨mkE 27 0 [(0,dL a),(3,dI 0),(6,dL a),(7,dI t),(8,dI 0)],[]⟩)):= .of fun K h=>by
 simp only[N6z,wpW] at h
 exact .of (by kernel_rfl) h
theorem Nsm (a:List Int) (b c d:Int):Link N40 LL (cq [0,0,1,0,1,1] (bodyOf Tryd.f24)) (aq [0,0,1,0,1,1] Ny) ⟨mkE 27 0 [(0,dL a),(3,dI b),(6,dL a),(7,dI c),(8,dI d)],[]⟩ (N2v a b c d) (Sum.elim (fun(t:Int×Int)=>(Exit.normal,⟨mkE 27 0 [(0,dL a),(3,dI t.1),(6,dL a),(7,dI c),(8,dI t.2)],[]⟩)) (Sum.elim (fun(t:Bool)=>(Exit.ret,⟨mkE 27 0 [(2,dB t)],[]⟩)) (fun(t:Int)=>((Exit.exit 0),⟨mkE 27 0 [(3,dI t)],[]⟩)))):= .of fun K h=>by
 simp only[N2v,wpW] at h
 exact .of (by kernel_rfl) h
theorem Nqh (a:Int):Link N40 LL (cq [1,1,1] (bodyOf Tryd.f24)) (aq [1,1,1] Ny) ⟨mkE 27 0 [(3,dI a)],[]⟩ (N8c a) (fun(t:Bool)=>(Exit.ret,⟨mkE 27 0 [(2,dB t)],[]⟩)):= .of fun K h=>by
 simp only[N8c,wpW] at h
 exact .of (by kernel_rfl) h
theorem Nlb (b:List Int) {r:AV} {H':Heap} (h:(Ans.mk _ (N3b b) (fun(t:Bool)=>(dB t,[])) [] none).run=some (r,H')):Awp N40 LL (bodyOf Tryd.f24) Ny ⟨mkE 27 0 [(0,dL b)],[]⟩ (Ret (tlook tys) Tryd.f24.results.toList r H'):=
 ret_of' (Link.cast (by kernel_rfl) (by kernel_rfl) (link_group (c:=(cq [0,1] (bodyOf Tryd.f24))) (a:=(aq [0,1] Ny)) [(cq [0] (bodyOf Tryd.f24))] [(aq [0] Ny)] rfl (link_seq (Nqu b) (fun(t:Unit)=>(link_seq2 (link_seq (Nle b) (fun(t:Int)=>(link_block (fin2:=(Sum.elim (fun(t12:Int)=>(Exit.normal,⟨mkE 27 0 [(3,dI t12)],[]⟩)) (fun(t12:Bool)=>(Exit.ret,⟨mkE 27 0 [(2,dB t12)],[]⟩)))) (id:=0) (link_loop (mk:=fun(s:Int×Int)=>⟨mkE 27 0 [(0,dL b),(3,dI s.1),(6,dL b),(7,dI t),(8,dI s.2)],[]⟩) (fin:=(Sum.elim (fun(t12:Bool)=>(Exit.ret,⟨mkE 27 0 [(2,dB t12)],[]⟩)) (fun(t12:Int)=>((Exit.exit 0),⟨mkE 27 0 [(3,dI t12)],[]⟩)))) (by
 rintro(t12|t12) f K h
 ·exact h
 ·exact h) (fun s=>link_map (Nsm b s.1 t s.2) (Sum.elim (fun(t12:Int×Int)=>Sum.inl (t12.1,t12.2)) (Sum.elim (fun(t12:Bool)=>Sum.inr (Sum.inl t12)) (fun(t12:Int)=>Sum.inr (Sum.inr t12)))) (by
 rintro(t12|t12|t12)
 ·kernel_rfl
 ·kernel_rfl
 ·kernel_rfl)) (0,0)) (Sum.elim (fun(t12:Bool)=>(Sum.inr t12)) (fun(t12:Int)=>(Sum.inl t12))) (by
 rintro(t12|t12) K h
 ·exact Eq.mp (by kernel_rfl) h
 ·exact Eq.mp (by kernel_rfl) h)))) (fun(t:Int)=>(Nqh t)) (fun(t:Bool)=>t) (by
 rintro t
 ·kernel_rfl) (by
 rintro t f K h
 ·exact h)))))) (by unfold N3b;kernel_rfl) (by
 intro t
 exact ret_mk [dB t] (by kernel_rfl) (by kernel_rfl) (by kernel_rfl) (by kernel_rfl)) h
def Ncj:Fun:=fun avs H=>
 match avs,H with
 |[.dat (.list (.int .i64)) a],[]=>⟨_,N3b a,fun(t:Bool)=>(dB t,[]),[],none⟩
 |_,_=>Ans.no
theorem Nuz:Sound Tryd.prog 24 Ncj:=by
 refine fn_sound' (C:=N40) (c:=bodyOf Tryd.f24) (cok_of tys_ok (alln) (alln) (by kernel_rfl)) Tryd.func24 (by kernel_rfl) LL Ny ?_
 intro avs H r H' h
 unfold Ncj at h
 split at h
 ·refine Awp.cast ?_ ?_ ?_ (Nlb _ h)<;>kernel_rfl
 ·simp[Ans.no,Ans.run] at h
def Nad:Ann:=(.seq (.leaf [0]) (.seq (.draw [] [0,1,2,3,4,5,6,7,8,9,10,11] [] [0,3]) (.seq (.seq (.leaf [0,3,16]) (.cond (.seq (.leaf [2]) (.leaf [2])) (.leaf [0,3]))) (.seq (.leaf [0]) (.seq (.leaf []) (.seq (.leaf [2]) (.leaf [2])))))))
noncomputable def Ncv:Ctx:=⟨tlook tys,olook [],ioF,1,false,[]⟩
theorem Nlh (a:List Int) (b c:Int):Link Ncv LL (bodyOf Tryd.f49) Nad ⟨mkE 28 0 [(0,.ptr 0 0)],[some (.box [dL a,dI b,dI c])]⟩ (N7p a b c) (fun(t:Bool×Int×Int)=>(Exit.ret,⟨mkE 28 0 [(2,dB t.1)],[some (.box [dL a,dI t.2.1,dI t.2.2])]⟩)):= .of fun K h=>by
 simp only[N7p,wpW] at h
 exact .of (by kernel_rfl) h
theorem Nmv (a:List Int) (b c:Int) {r:AV} {H':Heap} (h:(Ans.mk _ (N2g a b c) (fun(t:Bool×Int×Int)=>(dB t.1,[some (.box [dL a,dI t.2.1,dI t.2.2])])) [] none).run=some (r,H')):Awp Ncv LL (bodyOf Tryd.f49) Nad ⟨mkE 28 0 [(0,.ptr 0 0)],[some (.box [dL a,dI b,dI c])]⟩ (Ret (tlook tys) Tryd.f49.results.toList r H'):=
 ret_of' (Nlh a b c) (by unfold N2g;kernel_rfl) (by
 intro t
 exact ret_mk [dB t.1] (by kernel_rfl) (by kernel_rfl) (by kernel_rfl) (by kernel_rfl)) h
def N5l:Fun:=fun avs H=>
 match avs,H with
 |[.ptr 0 0],[some (.box [.dat (.list (.int .i64)) a,.dat (.int .i64) b,.dat (.int .i64) c])]=>⟨_,N2g a b c,fun(t:Bool×Int×Int)=>(dB t.1,[some (.box [dL a,dI t.2.1,dI t.2.2])]),[],none⟩
 |_,_=>Ans.no
theorem Nf4:Sound Tryd.prog 49 N5l:=by
 refine fn_sound' (C:=Ncv) (c:=bodyOf Tryd.f49) (cok_of tys_ok (alln) (alln) (by kernel_rfl)) Tryd.func49 (by kernel_rfl) LL Nad ?_
 intro avs H r H' h
 unfold N5l at h
 split at h
 ·refine Awp.cast ?_ ?_ ?_ (Nmv _ _ _ h)<;>kernel_rfl
 ·simp[Ans.no,Ans.run] at h
def N1p:Ann:=(.seq (.leaf [0,1]) (.seq (.leaf [0,6]) (.seq (.block (.loop (.seq (.seq (.leaf [0,6,10]) (.cond (.leaf [0,6]) (.leaf [6]))) (.block (.seq (.leaf [0,6,15]) (.cond (.seq (.leaf [4,5]) (.leaf [4,5])) (.leaf [0,6]))))))) (.seq (.leaf [4,5]) (.leaf [4,5])))))
noncomputable def N4k:Ctx:=⟨tlook tys,olook [(49,N5l)],ioF,0,false,[]⟩
theorem Nld (a:List Int) (b:Int):Link N4k LL (Code.seq (cq [0] (bodyOf Tryd.f25)) (cq [0,1] (bodyOf Tryd.f25))) (Ann.seq (aq [0] N1p) (aq [0,1] N1p)) ⟨mkE 18 0 [(0,dL a),(1,dI b)],[]⟩ (N7g) (fun(t:Unit)=>(Exit.normal,⟨mkE 18 0 [(0,dL a),(6,.ptr 0 0)],[some (.box [dL a,dI b,dI 0])]⟩)):= .of fun K h=>by
 simp only[N7g,wpW] at h
 exact .of (by kernel_rfl) h
theorem Nl6 (a:List Int) (b c:Int):Link N4k LL (cq [0,0,0,1,1] (bodyOf Tryd.f25)) (aq [0,0,0,1,1] N1p) ⟨mkE 18 0 [(0,dL a),(6,.ptr 0 0)],[some (.box [dL a,dI b,dI c])]⟩ (N4c a b c) (Sum.elim (fun(t:Int×Int)=>(Exit.normal,⟨mkE 18 0 [(0,dL a),(6,.ptr 0 0)],[some (.box [dL a,dI t.1,dI t.2])]⟩)) (Sum.elim (fun(t:Int×Bool)=>(Exit.ret,⟨mkE 18 0 [(4,dI t.1),(5,dB t.2)],[]⟩)) (fun(t:Int×Int)=>((Exit.exit 0),⟨mkE 18 0 [(6,.ptr 0 0)],[some (.box [dL a,dI t.1,dI t.2])]⟩)))):= .of fun K h=>by
 simp only[N4c,wpW] at h
 exact .of (by kernel_rfl) h
theorem No6 (a:List Int) (b c:Int):Link N4k LL (cq [1,1,1] (bodyOf Tryd.f25)) (aq [1,1,1] N1p) ⟨mkE 18 0 [(6,.ptr 0 0)],[some (.box [dL a,dI b,dI c])]⟩ (N8s c) (fun(t:Int×Bool)=>(Exit.ret,⟨mkE 18 0 [(4,dI t.1),(5,dB t.2)],[]⟩)):= .of fun K h=>by
 simp only[N8s,wpW] at h
 exact .of (by kernel_rfl) h
theorem Nrn (b:List Int) (d:Int) {r:AV} {H':Heap} (h:(Ans.mk _ (N2s b d) (fun(t:Int×Bool)=>(.tup [dI t.1,dB t.2],[])) [] none).run=some (r,H')):Awp N4k LL (bodyOf Tryd.f25) N1p ⟨mkE 18 0 [(0,dL b),(1,dI d)],[]⟩ (Ret (tlook tys) Tryd.f25.results.toList r H'):=
 ret_of' (Link.cast (by kernel_rfl) (by kernel_rfl) (link_group (c:=(cq [0,1] (bodyOf Tryd.f25))) (a:=(aq [0,1] N1p)) [(cq [0] (bodyOf Tryd.f25))] [(aq [0] N1p)] rfl (link_seq (Nld b d) (fun(t:Unit)=>(link_seq2 (link_block (fin2:=(Sum.elim (fun(t:Int×Int)=>(Exit.normal,⟨mkE 18 0 [(6,.ptr 0 0)],[some (.box [dL b,dI t.1,dI t.2])]⟩)) (fun(t:Int×Bool)=>(Exit.ret,⟨mkE 18 0 [(4,dI t.1),(5,dB t.2)],[]⟩)))) (id:=0) (link_loop (mk:=fun(s:Int×Int)=>⟨mkE 18 0 [(0,dL b),(6,.ptr 0 0)],[some (.box [dL b,dI s.1,dI s.2])]⟩) (fin:=(Sum.elim (fun(t:Int×Bool)=>(Exit.ret,⟨mkE 18 0 [(4,dI t.1),(5,dB t.2)],[]⟩)) (fun(t:Int×Int)=>((Exit.exit 0),⟨mkE 18 0 [(6,.ptr 0 0)],[some (.box [dL b,dI t.1,dI t.2])]⟩)))) (by
 rintro(t|t) f K h
 ·exact h
 ·exact h) (fun s=>link_map (Nl6 b s.1 s.2) (Sum.elim (fun(t:Int×Int)=>Sum.inl (t.1,t.2)) (Sum.elim (fun(t:Int×Bool)=>Sum.inr (Sum.inl t)) (fun(t:Int×Int)=>Sum.inr (Sum.inr t)))) (by
 rintro(t|t|t)
 ·kernel_rfl
 ·kernel_rfl
 ·kernel_rfl)) (d,0)) (Sum.elim (fun(t:Int×Bool)=>(Sum.inr t)) (fun(t:Int×Int)=>(Sum.inl (t.1,t.2)))) (by
 rintro(t|t) K h
 ·exact Eq.mp (by kernel_rfl) h
 ·exact Eq.mp (by kernel_rfl) h)) (fun(t:Int×Int)=>(No6 b t.1 t.2)) (fun(t:Int×Bool)=>t) (by
 rintro t
 ·kernel_rfl) (by
 rintro t f K h
 ·exact h)))))) (by unfold N2s;kernel_rfl) (by
 intro t
 exact ret_mk [dI t.1,dB t.2] (by kernel_rfl) (by kernel_rfl) (by kernel_rfl) (by kernel_rfl)) h
def Nb2:Fun:=fun avs H=>
 match avs,H with
 |[.dat (.list (.int .i64)) a,.dat (.int .i64) b],[]=>⟨_,N2s a b,fun(t:Int×Bool)=>(.tup [dI t.1,dB t.2],[]),[],none⟩
 |_,_=>Ans.no
theorem Nkk:Sound Tryd.prog 25 Nb2:=by
 refine fn_sound' (C:=N4k) (c:=bodyOf Tryd.f25) (cok_of tys_ok (allc Nf4 alln) (allc Tryd.call49 alln) (by kernel_rfl)) Tryd.func25 (by kernel_rfl) LL N1p ?_
 intro avs H r H' h
 unfold Nb2 at h
 split at h
 ·refine Awp.cast ?_ ?_ ?_ (Nrn _ _ h)<;>kernel_rfl
 ·simp[Ans.no,Ans.run] at h
def N16:Ann:=(.seq (.leaf [0]) (.seq (.seq (.leaf [0,18]) (.cond (.seq (.leaf [2]) (.leaf [2])) (.leaf [0]))) (.seq (.seq (.leaf [0,20,21]) (.block (.loop (.seq (.leaf [0,20,21,22]) (.seq (.cond (.leaf [0,20,21]) (.leaf [])) (.seq (.block (.seq (.leaf [0,3,20,21]) (.seq (.leaf [0,5,20,21]) (.seq (.leaf [0,20,21,32]) (.cond (.seq (.leaf [2]) (.leaf [2])) (.leaf [0,20,21])))))) (.leaf [0,20,21]))))))) (.seq (.leaf [2]) (.leaf [2])))))
noncomputable def N3t:Ctx:=⟨tlook tys,olook [(24,Ncj),(25,Nb2)],ioF,0,false,[]⟩
theorem Nsa (a:List Int):Link N3t LL (Code.seq (cq [0] (bodyOf Tryd.f8)) (cq [0,1] (bodyOf Tryd.f8))) (Ann.seq (aq [0] N16) (aq [0,1] N16)) ⟨mkE 34 0 [(0,dL a)],[]⟩ (N8l a) (Sum.elim (fun(t:Unit)=>(Exit.normal,⟨mkE 34 0 [(0,dL a)],[]⟩)) (fun(t:Bool)=>(Exit.ret,⟨mkE 34 0 [(2,dB t)],[]⟩))):= .of fun K h=>by
 simp only[N8l,wpW] at h
 exact .of (by kernel_rfl) h
theorem Njg (a:List Int):Link N3t LL (cq [0,0,1,1] (bodyOf Tryd.f8)) (aq [0,0,1,1] N16) ⟨mkE 34 0 [(0,dL a)],[]⟩ (N6d a) (fun(t:Int)=>(Exit.normal,⟨mkE 34 0 [(0,dL a),(20,dI t),(21,dI 0)],[]⟩)):= .of fun K h=>by
 simp only[N6d,wpW] at h
 exact .of (by kernel_rfl) h
theorem Nr8 (a:List Int) (b c:Int):Link N3t LL (cq [0,0,1,0,1,1] (bodyOf Tryd.f8)) (aq [0,0,1,0,1,1] N16) ⟨mkE 34 0 [(0,dL a),(20,dI b),(21,dI c)],[]⟩ (N47 a b c) (Sum.elim (fun(t:Int)=>(Exit.normal,⟨mkE 34 0 [(0,dL a),(20,dI b),(21,dI t)],[]⟩)) (Sum.elim (fun(t:Bool)=>(Exit.ret,⟨mkE 34 0 [(2,dB t)],[]⟩)) (fun(t:Unit)=>((Exit.exit 0),⟨mkE 34 0 [],[]⟩)))):= .of fun K h=>by
 simp only[N47,wpW] at h
 exact .of (by kernel_rfl) h
theorem Nlc:Link N3t LL (cq [1,1,1] (bodyOf Tryd.f8)) (aq [1,1,1] N16) ⟨mkE 34 0 [],[]⟩ (Nbo) (fun(t:Bool)=>(Exit.ret,⟨mkE 34 0 [(2,dB t)],[]⟩)):= .of fun K h=>by
 simp only[Nbo,wpW] at h
 exact .of (by kernel_rfl) h
theorem Nkh (b:List Int) {r:AV} {H':Heap} (h:(Ans.mk _ (N8 b) (fun(t:Bool)=>(dB t,[])) [] none).run=some (r,H')):Awp N3t LL (bodyOf Tryd.f8) N16 ⟨mkE 34 0 [(0,dL b)],[]⟩ (Ret (tlook tys) Tryd.f8.results.toList r H'):=
 ret_of' (Link.cast (by kernel_rfl) (by kernel_rfl) (link_group (c:=(cq [0,1] (bodyOf Tryd.f8))) (a:=(aq [0,1] N16)) [(cq [0] (bodyOf Tryd.f8))] [(aq [0] N16)] rfl (link_seq2 (Nsa b) (fun(t:Unit)=>(link_seq2 (link_seq (Njg b) (fun(t:Int)=>(link_block (fin2:=(Sum.elim (fun(t13:Unit)=>(Exit.normal,⟨mkE 34 0 [],[]⟩)) (fun(t13:Bool)=>(Exit.ret,⟨mkE 34 0 [(2,dB t13)],[]⟩)))) (id:=0) (link_loop (mk:=fun(s:Int)=>⟨mkE 34 0 [(0,dL b),(20,dI t),(21,dI s)],[]⟩) (fin:=(Sum.elim (fun(t13:Bool)=>(Exit.ret,⟨mkE 34 0 [(2,dB t13)],[]⟩)) (fun(t13:Unit)=>((Exit.exit 0),⟨mkE 34 0 [],[]⟩)))) (by
 rintro(t13|t13) f K h
 ·exact h
 ·exact h) (fun s=>link_map (Nr8 b t s) (Sum.elim (fun(t13:Int)=>Sum.inl t13) (Sum.elim (fun(t13:Bool)=>Sum.inr (Sum.inl t13)) (fun(t13:Unit)=>Sum.inr (Sum.inr t13)))) (by
 rintro(t13|t13|t13)
 ·kernel_rfl
 ·kernel_rfl
 ·kernel_rfl)) 0) (Sum.elim (fun(t13:Bool)=>(Sum.inr t13)) (fun(t13:Unit)=>(Sum.inl ()))) (by
 rintro(t13|t13) K h
 ·exact Eq.mp (by kernel_rfl) h
 ·exact Eq.mp (by kernel_rfl) h)))) (fun(t:Unit)=>(Nlc)) (fun(t:Bool)=>t) (by
 rintro t
 ·kernel_rfl) (by
 rintro t f K h
 ·exact h))) (fun(t:Bool)=>t) (by
 rintro t
 ·kernel_rfl) (by
 rintro t f K h
 ·exact h)))) (by unfold N8;kernel_rfl) (by
 intro t
 exact ret_mk [dB t] (by kernel_rfl) (by kernel_rfl) (by kernel_rfl) (by kernel_rfl)) h
def Nv:Fun:=fun avs H=>
 match avs,H with
 |[.dat (.list (.int .i64)) a],[]=>⟨_,N8 a,fun(t:Bool)=>(dB t,[]),[],none⟩
 |_,_=>Ans.no
theorem N1r:Sound Tryd.prog 8 Nv:=by
 refine fn_sound' (C:=N3t) (c:=bodyOf Tryd.f8) (cok_of tys_ok (allc Nuz (allc Nkk alln)) (allc Tryd.call24 (allc Tryd.call25 alln)) (by kernel_rfl)) Tryd.func8 (by kernel_rfl) LL N16 ?_
 intro avs H r H' h
 unfold Nv at h
 split at h
 ·refine Awp.cast ?_ ?_ ?_ (Nkh _ h)<;>kernel_rfl
 ·simp[Ans.no,Ans.run] at h
def Ns:Ann:=(.seq (.leaf [0]) (.seq (.seq (.leaf [0,6]) (.cond (.seq (.leaf [2]) (.leaf [2])) (.leaf [0]))) (.seq (.leaf [3]) (.seq (.block (.loop (.seq (.seq (.leaf [3,9]) (.cond (.leaf [3]) (.leaf [3]))) (.block (.leaf [3]))))) (.seq (.leaf [2]) (.leaf [2]))))))
noncomputable def N4h:Ctx:=⟨tlook tys,olook [(8,Nv),(49,N5l)],ioF,0,false,[]⟩
theorem No7 (a:List Int):Link N4h LL (Code.seq (cq [0] (bodyOf Tryd.f40)) (Code.seq (cq [0,1] (bodyOf Tryd.f40)) (cq [0,1,1] (bodyOf Tryd.f40)))) (Ann.seq (aq [0] Ns) (Ann.seq (aq [0,1] Ns) (aq [0,1,1] Ns))) ⟨mkE 12 0 [(0,dL a)],[]⟩ (N7j a) (Sum.elim (fun(t:Unit)=>(Exit.normal,⟨mkE 12 0 [(3,.ptr 0 0)],[some (.box [dL a,dI 1,dI 0])]⟩)) (fun(t:Int)=>(Exit.ret,⟨mkE 12 0 [(2,dI t)],[]⟩))):= .of fun K h=>by
 simp only[N7j,wpW] at h
 exact .of (by kernel_rfl) h
theorem Nwn (a:List Int) (b c:Int):Link N4h LL (cq [0,0,0,1,1,1] (bodyOf Tryd.f40)) (aq [0,0,0,1,1,1] Ns) ⟨mkE 12 0 [(3,.ptr 0 0)],[some (.box [dL a,dI b,dI c])]⟩ (N53 a b c) (Sum.elim (fun(t:Int×Int)=>(Exit.normal,⟨mkE 12 0 [(3,.ptr 0 0)],[some (.box [dL a,dI t.1,dI t.2])]⟩)) (fun(t:Int×Int)=>((Exit.exit 0),⟨mkE 12 0 [(3,.ptr 0 0)],[some (.box [dL a,dI t.1,dI t.2])]⟩))):= .of fun K h=>by
 simp only[N53,wpW] at h
 exact .of (by kernel_rfl) h
theorem Nmz (a:List Int) (b c:Int):Link N4h LL (cq [1,1,1,1] (bodyOf Tryd.f40)) (aq [1,1,1,1] Ns) ⟨mkE 12 0 [(3,.ptr 0 0)],[some (.box [dL a,dI b,dI c])]⟩ (N5i b) (fun(t:Int)=>(Exit.ret,⟨mkE 12 0 [(2,dI t)],[]⟩)):= .of fun K h=>by
 simp only[N5i,wpW] at h
 exact .of (by kernel_rfl) h
theorem No0 (b:List Int) {r:AV} {H':Heap} (h:(Ans.mk _ (N28 b) (fun(t:Int)=>(dI t,[])) [] none).run=some (r,H')):Awp N4h LL (bodyOf Tryd.f40) Ns ⟨mkE 12 0 [(0,dL b)],[]⟩ (Ret (tlook tys) Tryd.f40.results.toList r H'):=
 ret_of' (Link.cast (by kernel_rfl) (by kernel_rfl) (link_group (c:=(cq [0,1,1] (bodyOf Tryd.f40))) (a:=(aq [0,1,1] Ns)) [(cq [0] (bodyOf Tryd.f40)),(cq [0,1] (bodyOf Tryd.f40))] [(aq [0] Ns),(aq [0,1] Ns)] rfl (link_seq2 (No7 b) (fun(t:Unit)=>(link_seq (link_block (fin2:=(fun(t:Int×Int)=>(Exit.normal,⟨mkE 12 0 [(3,.ptr 0 0)],[some (.box [dL b,dI t.1,dI t.2])]⟩))) (id:=0) (link_loop (mk:=fun(s:Int×Int)=>⟨mkE 12 0 [(3,.ptr 0 0)],[some (.box [dL b,dI s.1,dI s.2])]⟩) (fin:=(fun(t:Int×Int)=>((Exit.exit 0),⟨mkE 12 0 [(3,.ptr 0 0)],[some (.box [dL b,dI t.1,dI t.2])]⟩))) (by
 rintro t f K h
 ·exact h) (fun s=>link_map (Nwn b s.1 s.2) (Sum.elim (fun(t:Int×Int)=>Sum.inl (t.1,t.2)) (fun(t:Int×Int)=>Sum.inr t)) (by
 rintro(t|t)
 ·kernel_rfl
 ·kernel_rfl)) (1,0)) (fun(t:Int×Int)=>(t.1,t.2)) (by
 rintro t K h
 ·exact Eq.mp (by kernel_rfl) h)) (fun(t:Int×Int)=>(Nmz b t.1 t.2)))) (fun(t:Int)=>t) (by
 rintro t
 ·kernel_rfl) (by
 rintro t f K h
 ·exact h)))) (by unfold N28;kernel_rfl) (by
 intro t
 exact ret_mk [dI t] (by kernel_rfl) (by kernel_rfl) (by kernel_rfl) (by kernel_rfl)) h
def N5v:Fun:=fun avs H=>
 match avs,H with
 |[.dat (.list (.int .i64)) a],[]=>⟨_,N28 a,fun(t:Int)=>(dI t,[]),[],none⟩
 |_,_=>Ans.no
theorem Nhn:Sound Tryd.prog 40 N5v:=by
 refine fn_sound' (C:=N4h) (c:=bodyOf Tryd.f40) (cok_of tys_ok (allc N1r (allc Nf4 alln)) (allc Tryd.call8 (allc Tryd.call49 alln)) (by kernel_rfl)) Tryd.func40 (by kernel_rfl) LL Ns ?_
 intro avs H r H' h
 unfold N5v at h
 split at h
 ·refine Awp.cast ?_ ?_ ?_ (No0 _ h)<;>kernel_rfl
 ·simp[Ans.no,Ans.run] at h
def N8w:Ann:=(.seq (.leaf [0]) (.seq (.leaf [2]) (.leaf [2])))
noncomputable def Nb4:Ctx:=⟨tlook tys,olook [],ioF,0,false,[]⟩
theorem Nnf (a:Int):Link Nb4 LL (bodyOf Tryd.f55) N8w ⟨mkE 6 0 [(0,dI a)],[]⟩ (N9i a) (fun(t:Int)=>(Exit.ret,⟨mkE 6 0 [(2,dW t)],[]⟩)):= .of fun K h=>by
 simp only[N9i,wpW] at h
 exact .of (by kernel_rfl) h
theorem Nnt (a:Int) {r:AV} {H':Heap} (h:(Ans.mk _ (N1s a) (fun(t:Int)=>(dW t,[])) [] none).run=some (r,H')):Awp Nb4 LL (bodyOf Tryd.f55) N8w ⟨mkE 6 0 [(0,dI a)],[]⟩ (Ret (tlook tys) Tryd.f55.results.toList r H'):=
 ret_of' (Nnf a) (by unfold N1s;kernel_rfl) (by
 intro t
 exact ret_mk [dW t] (by kernel_rfl) (by kernel_rfl) (by kernel_rfl) (by kernel_rfl)) h
def N52:Fun:=fun avs H=>
 match avs,H with
 |[.dat (.int .i64) a],[]=>⟨_,N1s a,fun(t:Int)=>(dW t,[]),[],none⟩
 |_,_=>Ans.no
theorem Nan:Sound Tryd.prog 55 N52:=by
 refine fn_sound' (C:=Nb4) (c:=bodyOf Tryd.f55) (cok_of tys_ok (alln) (alln) (by kernel_rfl)) Tryd.func55 (by kernel_rfl) LL N8w ?_
 intro avs H r H' h
 unfold N52 at h
 split at h
 ·refine Awp.cast ?_ ?_ ?_ (Nnt _ h)<;>kernel_rfl
 ·simp[Ans.no,Ans.run] at h
def N1f:Ann:=(.seq (.leaf [0,1]) (.seq (.leaf [0,1,5]) (.seq (.seq (.leaf [0,1,5,8,9]) (.block (.loop (.seq (.leaf [0,1,5,8,9,10]) (.seq (.cond (.leaf [0,1,5,8,9]) (.leaf [5])) (.seq (.block (.seq (.leaf [0,1,5,6,8,9]) (.seq (.leaf [0,1,5,6,8,9,17]) (.cond (.leaf [0,1,5,8,9]) (.leaf [0,1,5,8,9]))))) (.leaf [0,1,5,8,9]))))))) (.seq (.leaf [4]) (.leaf [4])))))
noncomputable def N3z:Ctx:=⟨tlook tys,olook [(55,N52)],ioF,0,false,[]⟩
theorem Nt2 (a:List Int) (b:Int):Link N3z LL (Code.seq (cq [0] (bodyOf Tryd.f42)) (cq [0,1] (bodyOf Tryd.f42))) (Ann.seq (aq [0] N1f) (aq [0,1] N1f)) ⟨mkE 25 0 [(0,dL a),(1,dI b)],[]⟩ (N5x) (fun(t:Unit)=>(Exit.normal,⟨mkE 25 0 [(0,dL a),(1,dI b),(5,dW 0)],[]⟩)):= .of fun K h=>by
 simp only[N5x,wpW] at h
 exact .of (by kernel_rfl) h
theorem Nvp (a:List Int) (b:Int):Link N3z LL (cq [0,0,1,1] (bodyOf Tryd.f42)) (aq [0,0,1,1] N1f) ⟨mkE 25 0 [(0,dL a),(1,dI b),(5,dW 0)],[]⟩ (N7k a) (fun(t:Int)=>(Exit.normal,⟨mkE 25 0 [(0,dL a),(1,dI b),(5,dW 0),(8,dI t),(9,dI 0)],[]⟩)):= .of fun K h=>by
 simp only[N7k,wpW] at h
 exact .of (by kernel_rfl) h
theorem Nsn (a:List Int) (b c d g:Int):Link N3z LL (cq [0,0,1,0,1,1] (bodyOf Tryd.f42)) (aq [0,0,1,0,1,1] N1f) ⟨mkE 25 0 [(0,dL a),(1,dI b),(5,dW c),(8,dI d),(9,dI g)],[]⟩ (N30 a b c d g) (Sum.elim (fun(t:Int×Int)=>(Exit.normal,⟨mkE 25 0 [(0,dL a),(1,dI b),(5,dW t.1),(8,dI d),(9,dI t.2)],[]⟩)) (fun(t:Int)=>((Exit.exit 0),⟨mkE 25 0 [(5,dW t)],[]⟩))):= .of fun K h=>by
 simp only[N30,wpW] at h
 exact .of (by kernel_rfl) h
theorem Nka (a:Int):Link N3z LL (cq [1,1,1] (bodyOf Tryd.f42)) (aq [1,1,1] N1f) ⟨mkE 25 0 [(5,dW a)],[]⟩ (N8x a) (fun(t:Int)=>(Exit.ret,⟨mkE 25 0 [(4,dW t)],[]⟩)):= .of fun K h=>by
 simp only[N8x,wpW] at h
 exact .of (by kernel_rfl) h
theorem Nku (b:List Int) (d:Int) {r:AV} {H':Heap} (h:(Ans.mk _ (N1l b d) (fun(t:Int)=>(dW t,[])) [] none).run=some (r,H')):Awp N3z LL (bodyOf Tryd.f42) N1f ⟨mkE 25 0 [(0,dL b),(1,dI d)],[]⟩ (Ret (tlook tys) Tryd.f42.results.toList r H'):=
 ret_of' (Link.cast (by kernel_rfl) (by kernel_rfl) (link_group (c:=(cq [0,1] (bodyOf Tryd.f42))) (a:=(aq [0,1] N1f)) [(cq [0] (bodyOf Tryd.f42))] [(aq [0] N1f)] rfl (link_seq (Nt2 b d) (fun(t:Unit)=>(link_seq (link_seq (Nvp b d) (fun(t:Int)=>(link_block (fin2:=(fun(t14:Int)=>(Exit.normal,⟨mkE 25 0 [(5,dW t14)],[]⟩))) (id:=0) (link_loop (mk:=fun(s:Int×Int)=>⟨mkE 25 0 [(0,dL b),(1,dI d),(5,dW s.1),(8,dI t),(9,dI s.2)],[]⟩) (fin:=(fun(t14:Int)=>((Exit.exit 0),⟨mkE 25 0 [(5,dW t14)],[]⟩))) (by
 rintro t14 f K h
 ·exact h) (fun s=>link_map (Nsn b d s.1 t s.2) (Sum.elim (fun(t14:Int×Int)=>Sum.inl (t14.1,t14.2)) (fun(t14:Int)=>Sum.inr t14)) (by
 rintro(t14|t14)
 ·kernel_rfl
 ·kernel_rfl)) (0,0)) (fun(t14:Int)=>t14) (by
 rintro t14 K h
 ·exact Eq.mp (by kernel_rfl) h)))) (fun(t:Int)=>(Nka t))))))) (by unfold N1l;kernel_rfl) (by
 intro t
 exact ret_mk [dW t] (by kernel_rfl) (by kernel_rfl) (by kernel_rfl) (by kernel_rfl)) h
def N4t:Fun:=fun avs H=>
 match avs,H with
 |[.dat (.list (.int .i64)) a,.dat (.int .i64) b],[]=>⟨_,N1l a b,fun(t:Int)=>(dW t,[]),[],none⟩
 |_,_=>Ans.no
theorem N9o:Sound Tryd.prog 42 N4t:=by
 refine fn_sound' (C:=N3z) (c:=bodyOf Tryd.f42) (cok_of tys_ok (allc Nan alln) (allc Tryd.call55 alln) (by kernel_rfl)) Tryd.func42 (by kernel_rfl) LL N1f ?_
 intro avs H r H' h
 unfold N4t at h
 split at h
 ·refine Awp.cast ?_ ?_ ?_ (Nku _ _ h)<;>kernel_rfl
 ·simp[Ans.no,Ans.run] at h
def Nb:Ann:=(.seq (.leaf [0]) (.seq (.leaf [0]) (.seq (.leaf [0]) (.seq (.leaf [0]) (.seq (.leaf [0]) (.seq (.leaf [0]) (.seq (.leaf [0]) (.seq (.leaf [2]) (.leaf [2])))))))))
noncomputable def Nu:Ctx:=⟨tlook tys,olook [],ioF,0,false,[]⟩
theorem Niu (a:Int):Link Nu LL (Code.seq (cq [0] (bodyOf Tryd.f66)) (cq [0,1] (bodyOf Tryd.f66))) (Ann.seq (aq [0] Nb) (aq [0,1] Nb)) ⟨mkE 35 0 [(0,dW a)],[]⟩ (N9z a) (fun(t:Int)=>(Exit.normal,⟨mkE 35 0 [(0,dW t)],[]⟩)):= .of fun K h=>by
 simp only[N9z,wpW] at h
 exact .of (by kernel_rfl) h
theorem Npt (a:Int):Link Nu LL (cq [0,1,1] (bodyOf Tryd.f66)) (aq [0,1,1] Nb) ⟨mkE 35 0 [(0,dW a)],[]⟩ (N9b a) (fun(t:Int)=>(Exit.normal,⟨mkE 35 0 [(0,dW t)],[]⟩)):= .of fun K h=>by
 simp only[N9b,wpW] at h
 exact .of (by kernel_rfl) h
theorem Njq (a:Int):Link Nu LL (cq [0,1,1,1] (bodyOf Tryd.f66)) (aq [0,1,1,1] Nb) ⟨mkE 35 0 [(0,dW a)],[]⟩ (Nbz a) (fun(t:Int)=>(Exit.normal,⟨mkE 35 0 [(0,dW t)],[]⟩)):= .of fun K h=>by
 simp only[Nbz,wpW] at h
 exact .of (by kernel_rfl) h
theorem No1 (a:Int):Link Nu LL (cq [0,1,1,1,1] (bodyOf Tryd.f66)) (aq [0,1,1,1,1] Nb) ⟨mkE 35 0 [(0,dW a)],[]⟩ (Nby a) (fun(t:Int)=>(Exit.normal,⟨mkE 35 0 [(0,dW t)],[]⟩)):= .of fun K h=>by
 simp only[Nby,wpW] at h
 exact .of (by kernel_rfl) h
theorem Njt (a:Int):Link Nu LL (cq [0,1,1,1,1,1] (bodyOf Tryd.f66)) (aq [0,1,1,1,1,1] Nb) ⟨mkE 35 0 [(0,dW a)],[]⟩ (Nc4 a) (fun(t:Int)=>(Exit.normal,⟨mkE 35 0 [(0,dW t)],[]⟩)):= .of fun K h=>by
 simp only[Nc4,wpW] at h
 exact .of (by kernel_rfl) h
theorem Niw (a:Int):Link Nu LL (cq [0,1,1,1,1,1,1] (bodyOf Tryd.f66)) (aq [0,1,1,1,1,1,1] Nb) ⟨mkE 35 0 [(0,dW a)],[]⟩ (Nca a) (fun(t:Int)=>(Exit.normal,⟨mkE 35 0 [(0,dW t)],[]⟩)):= .of fun K h=>by
 simp only[Nca,wpW] at h
 exact .of (by kernel_rfl) h
theorem Nog (a:Int):Link Nu LL (cq [0,1,1,1,1,1,1,1] (bodyOf Tryd.f66)) (aq [0,1,1,1,1,1,1,1] Nb) ⟨mkE 35 0 [(0,dW a)],[]⟩ (N9c a) (fun(t:Int)=>(Exit.normal,⟨mkE 35 0 [(2,dI t)],[]⟩)):= .of fun K h=>by
 simp only[N9c,wpW] at h
 exact .of (by kernel_rfl) h
theorem Nlw (a:Int):Link Nu LL (cq [1,1,1,1,1,1,1,1] (bodyOf Tryd.f66)) (aq [1,1,1,1,1,1,1,1] Nb) ⟨mkE 35 0 [(2,dI a)],[]⟩ (Nbt a) (fun(t:Int)=>(Exit.ret,⟨mkE 35 0 [(2,dI t)],[]⟩)):= .of fun K h=>by
 simp only[Nbt,wpW] at h
 exact .of (by kernel_rfl) h
theorem Nu7 (b:Int) {r:AV} {H':Heap} (h:(Ans.mk _ (N8d b) (fun(t:Int)=>(dI t,[])) [] none).run=some (r,H')):Awp Nu LL (bodyOf Tryd.f66) Nb ⟨mkE 35 0 [(0,dW b)],[]⟩ (Ret (tlook tys) Tryd.f66.results.toList r H'):=
 ret_of' (Link.cast (by kernel_rfl) (by kernel_rfl) (link_group (c:=(cq [0,1] (bodyOf Tryd.f66))) (a:=(aq [0,1] Nb)) [(cq [0] (bodyOf Tryd.f66))] [(aq [0] Nb)] rfl (link_seq (Niu b) (fun(t:Int)=>(link_seq (Npt t) (fun(t15:Int)=>(link_seq (Njq t15) (fun(t4:Int)=>(link_seq (No1 t4) (fun(t:Int)=>(link_seq (Njt t) (fun(t3:Int)=>(link_seq (Niw t3) (fun(t:Int)=>(link_seq (Nog t) (fun(t2:Int)=>(Nlw t2))))))))))))))))) (by unfold N8d;kernel_rfl) (by
 intro t
 exact ret_mk [dI t] (by kernel_rfl) (by kernel_rfl) (by kernel_rfl) (by kernel_rfl)) h
def Nc7:Fun:=fun avs H=>
 match avs,H with
 |[.dat (.int .u64) a],[]=>⟨_,N8d a,fun(t:Int)=>(dI t,[]),[],none⟩
 |_,_=>Ans.no
theorem Nvu:Sound Tryd.prog 66 Nc7:=by
 refine fn_sound' (C:=Nu) (c:=bodyOf Tryd.f66) (cok_of tys_ok (alln) (alln) (by kernel_rfl)) Tryd.func66 (by kernel_rfl) LL Nb ?_
 intro avs H r H' h
 unfold Nc7 at h
 split at h
 ·refine Awp.cast ?_ ?_ ?_ (Nu7 _ h)<;>kernel_rfl
 ·simp[Ans.no,Ans.run] at h
def N9p:Ann:=(.seq (.leaf [0]) (.seq (.cond (.seq (.leaf [2]) (.leaf [2])) (.leaf [0])) (.seq (.leaf [2]) (.leaf [2]))))
noncomputable def Nc9:Ctx:=⟨tlook tys,olook [(66,Nc7)],ioF,0,false,[]⟩
theorem Nsr (a:Int):Link Nc9 LL (bodyOf Tryd.f58) N9p ⟨mkE 8 0 [(0,dW a)],[]⟩ (Nbj a) (fun(t:Int)=>(Exit.ret,⟨mkE 8 0 [(2,dI t)],[]⟩)):= .of fun K h=>by
 simp only[Nbj,wpW] at h
 exact .of (by kernel_rfl) h
theorem Npl (a:Int) {r:AV} {H':Heap} (h:(Ans.mk _ (N68 a) (fun(t:Int)=>(dI t,[])) [] none).run=some (r,H')):Awp Nc9 LL (bodyOf Tryd.f58) N9p ⟨mkE 8 0 [(0,dW a)],[]⟩ (Ret (tlook tys) Tryd.f58.results.toList r H'):=
 ret_of' (Nsr a) (by unfold N68;kernel_rfl) (by
 intro t
 exact ret_mk [dI t] (by kernel_rfl) (by kernel_rfl) (by kernel_rfl) (by kernel_rfl)) h
def Na8:Fun:=fun avs H=>
 match avs,H with
 |[.dat (.int .u64) a],[]=>⟨_,N68 a,fun(t:Int)=>(dI t,[]),[],none⟩
 |_,_=>Ans.no
theorem Nt4:Sound Tryd.prog 58 Na8:=by
 refine fn_sound' (C:=Nc9) (c:=bodyOf Tryd.f58) (cok_of tys_ok (allc Nvu alln) (allc Tryd.call66 alln) (by kernel_rfl)) Tryd.func58 (by kernel_rfl) LL N9p ?_
 intro avs H r H' h
 unfold Na8 at h
 split at h
 ·refine Awp.cast ?_ ?_ ?_ (Npl _ h)<;>kernel_rfl
 ·simp[Ans.no,Ans.run] at h
def Ncd:Ann:=(.seq (.leaf [0]) (.seq (.leaf [2]) (.leaf [2])))
noncomputable def Nc2:Ctx:=⟨tlook tys,olook [(58,Na8)],ioF,0,false,[]⟩
theorem Nk6 (a:Int):Link Nc2 LL (bodyOf Tryd.f45) Ncd ⟨mkE 5 0 [(0,dW a)],[]⟩ (N9t a) (fun(t:Int)=>(Exit.ret,⟨mkE 5 0 [(2,dI t)],[]⟩)):= .of fun K h=>by
 simp only[N9t,wpW] at h
 exact .of (by kernel_rfl) h
theorem Nry (a:Int) {r:AV} {H':Heap} (h:(Ans.mk _ (N2j a) (fun(t:Int)=>(dI t,[])) [] none).run=some (r,H')):Awp Nc2 LL (bodyOf Tryd.f45) Ncd ⟨mkE 5 0 [(0,dW a)],[]⟩ (Ret (tlook tys) Tryd.f45.results.toList r H'):=
 ret_of' (Nk6 a) (by unfold N2j;kernel_rfl) (by
 intro t
 exact ret_mk [dI t] (by kernel_rfl) (by kernel_rfl) (by kernel_rfl) (by kernel_rfl)) h
def N83:Fun:=fun avs H=>
 match avs,H with
 |[.dat (.int .u64) a],[]=>⟨_,N2j a,fun(t:Int)=>(dI t,[]),[],none⟩
 |_,_=>Ans.no
theorem Nfr:Sound Tryd.prog 45 N83:=by
 refine fn_sound' (C:=Nc2) (c:=bodyOf Tryd.f45) (cok_of tys_ok (allc Nt4 alln) (allc Tryd.call58 alln) (by kernel_rfl)) Tryd.func45 (by kernel_rfl) LL Ncd ?_
 intro avs H r H' h
 unfold N83 at h
 split at h
 ·refine Awp.cast ?_ ?_ ?_ (Nry _ h)<;>kernel_rfl
 ·simp[Ans.no,Ans.run] at h
def Na3:Ann:=(.seq (.leaf [0]) (.seq (.seq (.leaf [0,4]) (.cond (.seq (.leaf [2]) (.leaf [2])) (.leaf [0]))) (.seq (.leaf [2]) (.leaf [2]))))
noncomputable def Nap:Ctx:=⟨tlook tys,olook [],ioF,0,false,[]⟩
theorem Nls (a:Int):Link Nap LL (bodyOf Tryd.f62) Na3 ⟨mkE 14 0 [(0,dW a)],[]⟩ (N95 a) (fun(t:Int)=>(Exit.ret,⟨mkE 14 0 [(2,dI t)],[]⟩)):= .of fun K h=>by
 simp only[N95,wpW] at h
 exact .of (by kernel_rfl) h
theorem Njz (a:Int) {r:AV} {H':Heap} (h:(Ans.mk _ (N62 a) (fun(t:Int)=>(dI t,[])) [] none).run=some (r,H')):Awp Nap LL (bodyOf Tryd.f62) Na3 ⟨mkE 14 0 [(0,dW a)],[]⟩ (Ret (tlook tys) Tryd.f62.results.toList r H'):=
 ret_of' (Nls a) (by unfold N62;kernel_rfl) (by
 intro t
 exact ret_mk [dI t] (by kernel_rfl) (by kernel_rfl) (by kernel_rfl) (by kernel_rfl)) h
def N93:Fun:=fun avs H=>
 match avs,H with
 |[.dat (.int .u64) a],[]=>⟨_,N62 a,fun(t:Int)=>(dI t,[]),[],none⟩
 |_,_=>Ans.no
theorem Noz:Sound Tryd.prog 62 N93:=by
 refine fn_sound' (C:=Nap) (c:=bodyOf Tryd.f62) (cok_of tys_ok (alln) (alln) (by kernel_rfl)) Tryd.func62 (by kernel_rfl) LL Na3 ?_
 intro avs H r H' h
 unfold N93 at h
 split at h
 ·refine Awp.cast ?_ ?_ ?_ (Njz _ h)<;>kernel_rfl
 ·simp[Ans.no,Ans.run] at h
def Nas:Ann:=(.seq (.leaf [0]) (.seq (.cond (.seq (.leaf [2]) (.leaf [2])) (.leaf [0])) (.seq (.leaf [2]) (.leaf [2]))))
noncomputable def Na4:Ctx:=⟨tlook tys,olook [(62,N93)],ioF,0,false,[]⟩
theorem Nr9 (a:Int):Link Na4 LL (bodyOf Tryd.f56) Nas ⟨mkE 8 0 [(0,dW a)],[]⟩ (Nav a) (fun(t:Int)=>(Exit.ret,⟨mkE 8 0 [(2,dI t)],[]⟩)):= .of fun K h=>by
 simp only[Nav,wpW] at h
 exact .of (by kernel_rfl) h
theorem Nlt (a:Int) {r:AV} {H':Heap} (h:(Ans.mk _ (N6n a) (fun(t:Int)=>(dI t,[])) [] none).run=some (r,H')):Awp Na4 LL (bodyOf Tryd.f56) Nas ⟨mkE 8 0 [(0,dW a)],[]⟩ (Ret (tlook tys) Tryd.f56.results.toList r H'):=
 ret_of' (Nr9 a) (by unfold N6n;kernel_rfl) (by
 intro t
 exact ret_mk [dI t] (by kernel_rfl) (by kernel_rfl) (by kernel_rfl) (by kernel_rfl)) h
def Nbc:Fun:=fun avs H=>
 match avs,H with
 |[.dat (.int .u64) a],[]=>⟨_,N6n a,fun(t:Int)=>(dI t,[]),[],none⟩
 |_,_=>Ans.no
theorem Nso:Sound Tryd.prog 56 Nbc:=by
 refine fn_sound' (C:=Na4) (c:=bodyOf Tryd.f56) (cok_of tys_ok (allc Noz alln) (allc Tryd.call62 alln) (by kernel_rfl)) Tryd.func56 (by kernel_rfl) LL Nas ?_
 intro avs H r H' h
 unfold Nbc at h
 split at h
 ·refine Awp.cast ?_ ?_ ?_ (Nlt _ h)<;>kernel_rfl
 ·simp[Ans.no,Ans.run] at h
def N15:Ann:=(.seq (.leaf [0]) (.seq (.leaf [0,3]) (.seq (.seq (.leaf [3,4]) (.block (.loop (.seq (.seq (.leaf [3,4,10]) (.cond (.leaf [3,4]) (.leaf [3]))) (.seq (.block (.leaf [3,4])) (.leaf [3,4])))))) (.seq (.leaf [2]) (.leaf [2])))))
noncomputable def N34:Ctx:=⟨tlook tys,olook [(45,N83),(56,Nbc)],ioF,0,false,[]⟩
theorem Ntq (a:Int):Link N34 LL (Code.seq (cq [0] (bodyOf Tryd.f43)) (cq [0,1] (bodyOf Tryd.f43))) (Ann.seq (aq [0] N15) (aq [0,1] N15)) ⟨mkE 22 0 [(0,dW a)],[]⟩ (Nax a) (fun(t:(List Int))=>(Exit.normal,⟨mkE 22 0 [(0,dW a),(3,.slc 0)],[some (sI t)]⟩)):= .of fun K h=>by
 simp only[Nax,wpW] at h
 exact .of (by kernel_rfl) h
theorem Nu3 (a:Int) (b:List Int):Link N34 LL (cq [0,0,1,1] (bodyOf Tryd.f43)) (aq [0,0,1,1] N15) ⟨mkE 22 0 [(0,dW a),(3,.slc 0)],[some (sI b)]⟩ (Nc5) (fun(t:Unit)=>(Exit.normal,⟨mkE 22 0 [(3,.slc 0),(4,dW a)],[some (sI b)]⟩)):= .of fun K h=>by
 simp only[Nc5,wpW] at h
 exact .of (by kernel_rfl) h
theorem Njw (a:Int) (b:List Int):Link N34 LL (cq [0,0,1,0,1,1] (bodyOf Tryd.f43)) (aq [0,0,1,0,1,1] N15) ⟨mkE 22 0 [(3,.slc 0),(4,dW a)],[some (sI b)]⟩ (Naq a b) (Sum.elim (fun(t:Int×(List Int))=>(Exit.normal,⟨mkE 22 0 [(3,.slc 0),(4,dW t.1)],[some (sI t.2)]⟩)) (fun(t:(List Int))=>((Exit.exit 0),⟨mkE 22 0 [(3,.slc 0)],[some (sI t)]⟩))):= .of fun K h=>by
 simp only[Naq,wpW] at h
 exact .of (by kernel_rfl) h
theorem Nu8 (a:List Int):Link N34 LL (cq [1,1,1] (bodyOf Tryd.f43)) (aq [1,1,1] N15) ⟨mkE 22 0 [(3,.slc 0)],[some (sI a)]⟩ (Nc1 a) (fun(t:(List Int))=>(Exit.ret,⟨mkE 22 0 [(2,.slc 0)],[some (sI t)]⟩)):= .of fun K h=>by
 simp only[Nc1,wpW] at h
 exact .of (by kernel_rfl) h
theorem Njk (b:Int) {r:AV} {H':Heap} (h:(Ans.mk _ (N1x b) (fun(t:(List Int))=>(.slc 0,[some (sI t)])) [] none).run=some (r,H')):Awp N34 LL (bodyOf Tryd.f43) N15 ⟨mkE 22 0 [(0,dW b)],[]⟩ (Ret (tlook tys) Tryd.f43.results.toList r H'):=
 ret_of' (Link.cast (by kernel_rfl) (by kernel_rfl) (link_group (c:=(cq [0,1] (bodyOf Tryd.f43))) (a:=(aq [0,1] N15)) [(cq [0] (bodyOf Tryd.f43))] [(aq [0] N15)] rfl (link_seq (Ntq b) (fun(t:(List Int))=>(link_seq (link_seq (Nu3 b t) (fun(t41:Unit)=>(link_block (fin2:=(fun(t41:(List Int))=>(Exit.normal,⟨mkE 22 0 [(3,.slc 0)],[some (sI t41)]⟩))) (id:=0) (link_loop (mk:=fun(s:Int×(List Int))=>⟨mkE 22 0 [(3,.slc 0),(4,dW s.1)],[some (sI s.2)]⟩) (fin:=(fun(t41:(List Int))=>((Exit.exit 0),⟨mkE 22 0 [(3,.slc 0)],[some (sI t41)]⟩))) (by
 rintro t41 f K h
 ·exact h) (fun s=>link_map (Njw s.1 s.2) (Sum.elim (fun(t41:Int×(List Int))=>Sum.inl (t41.1,t41.2)) (fun(t41:(List Int))=>Sum.inr t41)) (by
 rintro(t41|t41)
 ·kernel_rfl
 ·kernel_rfl)) (b,t)) (fun(t41:(List Int))=>t41) (by
 rintro t41 K h
 ·exact Eq.mp (by kernel_rfl) h)))) (fun(t41:(List Int))=>(Nu8 t41))))))) (by unfold N1x;kernel_rfl) (by
 intro t
 exact ret_mk [.slc 0] (by kernel_rfl) (by kernel_rfl) (by kernel_rfl) (by kernel_rfl)) h
def N4x:Fun:=fun avs H=>
 match avs,H with
 |[.dat (.int .u64) a],[]=>⟨_,N1x a,fun(t:(List Int))=>(.slc 0,[some (sI t)]),[],none⟩
 |_,_=>Ans.no
theorem Nck:Sound Tryd.prog 43 N4x:=by
 refine fn_sound' (C:=N34) (c:=bodyOf Tryd.f43) (cok_of tys_ok (allc Nfr (allc Nso alln)) (allc Tryd.call45 (allc Tryd.call56 alln)) (by kernel_rfl)) Tryd.func43 (by kernel_rfl) LL N15 ?_
 intro avs H r H' h
 unfold N4x at h
 split at h
 ·refine Awp.cast ?_ ?_ ?_ (Njk _ h)<;>kernel_rfl
 ·simp[Ans.no,Ans.run] at h
def N12:Ann:=(.seq (.leaf [0,1,2]) (.seq (.leaf [0,1,2,7]) (.seq (.seq (.leaf [0,1,2,7,15,16,17]) (.block (.loop (.seq (.leaf [0,1,2,7,15,16,17,18]) (.seq (.cond (.leaf [0,1,2,7,15,16,17]) (.leaf [0,2,7])) (.seq (.block (.seq (.leaf [0,1,2,7,9,15,16,17]) (.leaf [0,1,2,7,15,16,17]))) (.leaf [0,1,2,7,15,16,17]))))))) (.seq (.leaf [7]) (.seq (.leaf [6]) (.leaf [6]))))))
def Nw (n:Nat):Fun:=fun avs H=>
 match avs,H with
 |[.slc 0,.dat (.list (.int .i64)) a,.dat (.int .i64) b],[some (.seq (.int .u64) c)]=>⟨_,N1i n a b c,fun(t:Int×(List Int))=>(dW t.1,[some (.seq (.int .u64) t.2)]),[],none⟩
 |_,_=>Ans.no
noncomputable def N2t (n:Nat):Ctx:=⟨tlook tys,olook [(55,N52),(42,N4t),(43,N4x),(39,Nw n)],ioF,1,false,[]⟩
theorem Nuw (n:Nat) (a:List Int) (b:Int) (c:List Int):Link (N2t n) LL (Code.seq (cq [0] (bodyOf Tryd.f39)) (cq [0,1] (bodyOf Tryd.f39))) (Ann.seq (aq [0] N12) (aq [0,1] N12)) ⟨mkE 34 0 [(0,.slc 0),(1,dL a),(2,dI b)],[some (.seq (.int .u64) c)]⟩ (N5t (N1i n) b) (fun(t:Int)=>(Exit.normal,⟨mkE 34 0 [(0,.slc 0),(1,dL a),(2,dI b),(7,dW t)],[some (.seq (.int .u64) c)]⟩)):= .of fun K h=>by
 simp only[N5t,wpW] at h
 exact .of (by kernel_rfl) h
theorem Nuo (n:Nat) (a:List Int) (b c:Int) (d:List Int):Link (N2t n) LL (cq [0,0,1,1] (bodyOf Tryd.f39)) (aq [0,0,1,1] N12) ⟨mkE 34 0 [(0,.slc 0),(1,dL a),(2,dI b),(7,dW c)],[some (.seq (.int .u64) d)]⟩ (N7m (N1i n) a b) (fun(t:Int×(List Int))=>(Exit.normal,⟨mkE 34 0 [(0,.slc 0),(1,dL a),(2,dI b),(7,dW c),(15,.slc 1),(16,dI t.1),(17,dI 0)],[some (.seq (.int .u64) d),some (sI t.2)]⟩)):= .of fun K h=>by
 simp only[N7m,wpW] at h
 exact .of (by kernel_rfl) h
theorem Nj6 (n:Nat) (a:List Int) (b c d g:Int) (i j:List Int):Link (N2t n) LL (cq [0,0,1,0,1,1] (bodyOf Tryd.f39)) (aq [0,0,1,0,1,1] N12) ⟨mkE 34 0 [(0,.slc 0),(1,dL a),(2,dI b),(7,dW c),(15,.slc 1),(16,dI d),(17,dI g)],[some (.seq (.int .u64) i),some (sI j)]⟩ (N2d (N1i n) a c d g i j) (Sum.elim (fun(t:Int×Int×(List Int))=>(Exit.normal,⟨mkE 34 0 [(0,.slc 0),(1,dL a),(2,dI b),(7,dW t.1),(15,.slc 1),(16,dI d),(17,dI t.2.1)],[some (.seq (.int .u64) t.2.2),some (sI j)]⟩)) (fun(t:Int×(List Int))=>((Exit.exit 0),⟨mkE 34 0 [(0,.slc 0),(2,dI b),(7,dW t.1)],[some (.seq (.int .u64) t.2)]⟩))):= .of fun K h=>by
 simp only[N2d,wpW] at h
 exact .of (by kernel_rfl) h
theorem Ntp (n:Nat) (a b:Int) (c:List Int):Link (N2t n) LL (cq [1,1,1] (bodyOf Tryd.f39)) (aq [1,1,1] N12) ⟨mkE 34 0 [(0,.slc 0),(2,dI a),(7,dW b)],[some (.seq (.int .u64) c)]⟩ (N5e (N1i n) a b c) (fun(t:Int×(List Int))=>(Exit.ret,⟨mkE 34 0 [(6,dW t.1)],[some (.seq (.int .u64) t.2)]⟩)):= .of fun K h=>by
 simp only[N5e,wpW] at h
 exact .of (by kernel_rfl) h
theorem Not (n:Nat) (b:List Int) (d:Int) (g:List Int) {r:AV} {H':Heap} (h:(Ans.mk _ (N1i (n+1) b d g) (fun(t:Int×(List Int))=>(dW t.1,[some (.seq (.int .u64) t.2)])) [] none).run=some (r,H')):Awp (N2t n) LL (bodyOf Tryd.f39) N12 ⟨mkE 34 0 [(0,.slc 0),(1,dL b),(2,dI d)],[some (.seq (.int .u64) g)]⟩ (Ret (tlook tys) Tryd.f39.results.toList r H'):=
 ret_of' (Link.cast (by kernel_rfl) (by kernel_rfl) (link_group (c:=(cq [0,1] (bodyOf Tryd.f39))) (a:=(aq [0,1] N12)) [(cq [0] (bodyOf Tryd.f39))] [(aq [0] N12)] rfl (link_seq (Nuw n b d g) (fun(t:Int)=>(link_seq (link_seq (Nuo n b d t g) (fun(t42:Int×(List Int))=>(link_block (fin2:=(fun(t16:Int×(List Int))=>(Exit.normal,⟨mkE 34 0 [(0,.slc 0),(2,dI d),(7,dW t16.1)],[some (.seq (.int .u64) t16.2)]⟩))) (id:=0) (link_loop (mk:=fun(s:Int×Int×(List Int))=>⟨mkE 34 0 [(0,.slc 0),(1,dL b),(2,dI d),(7,dW s.1),(15,.slc 1),(16,dI t42.1),(17,dI s.2.1)],[some (.seq (.int .u64) s.2.2),some (sI t42.2)]⟩) (fin:=(fun(t16:Int×(List Int))=>((Exit.exit 0),⟨mkE 34 0 [(0,.slc 0),(2,dI d),(7,dW t16.1)],[some (.seq (.int .u64) t16.2)]⟩))) (by
 rintro t16 f K h
 ·exact h) (fun s=>link_map (Nj6 n b d s.1 t42.1 s.2.1 s.2.2 t42.2) (Sum.elim (fun(t16:Int×Int×(List Int))=>Sum.inl (t16.1,t16.2.1,t16.2.2)) (fun(t16:Int×(List Int))=>Sum.inr t16)) (by
 rintro(t16|t16)
 ·kernel_rfl
 ·kernel_rfl)) (t,0,g)) (fun(t16:Int×(List Int))=>(t16.1,t16.2)) (by
 rintro t16 K h
 ·exact Eq.mp (by kernel_rfl) h)))) (fun(t42:Int×(List Int))=>(Ntp n d t42.1 t42.2))))))) (by(show _=_);kernel_rfl) (by
 intro t
 exact ret_mk [dW t.1] (by kernel_rfl) (by kernel_rfl) (by kernel_rfl) (by kernel_rfl)) h
theorem Ntj (n:Nat) (h39:Sound Tryd.prog 39 (Nw n)):Sound Tryd.prog 39 (Nw (n+1)):=by
 refine fn_sound' (C:=N2t n) (c:=bodyOf Tryd.f39) (cok_of tys_ok (allc Nan (allc N9o (allc Nck (allc h39 alln)))) (allc Tryd.call55 (allc Tryd.call42 (allc Tryd.call43 (allc Tryd.call39 alln)))) (by kernel_rfl)) Tryd.func39 (by kernel_rfl) LL N12 ?_
 intro avs H r H' h
 unfold Nw at h
 split at h
 ·refine Awp.cast ?_ ?_ ?_ (Not n _ _ _ h)<;>kernel_rfl
 ·simp[Ans.no,Ans.run] at h
theorem Npy:Sound Tryd.prog 39 (Nw 0):=by
 intro avs H r H' h
 unfold Nw at h
 split at h
 ·simp[N1i,N1t,Ans.run] at h
 ·simp[Ans.no,Ans.run] at h
theorem Nh5: ∀n,Sound Tryd.prog 39 (Nw n)
 |0=>Npy
 |n+1=>by
  have h39:=Nh5 n
  exact Ntj n h39
def N67:Fun:=fun avs H=>
 match avs,H with
 |[.slc 0,.dat (.list (.int .i64)) a,.dat (.int .i64) b],[some (.seq (.int .u64) c)]=>⟨_,N4u a b c,fun(t:Int×(List Int))=>(dW t.1,[some (.seq (.int .u64) t.2)]),[],none⟩
 |_,_=>Ans.no
theorem Nki:Sound Tryd.prog 39 N67:=by
 have e:N67=Nw RR:=by
  funext avs H
  unfold N67 Nw
  split<;>first|rfl|(simp only[N4u])
 rw[e]
 exact(Nh5 RR)
def Nbn:Ann:=(.seq (.leaf [0]) (.seq (.leaf [0,3]) (.seq (.leaf [3]) (.seq (.leaf [2]) (.leaf [2])))))
noncomputable def Nbv:Ctx:=⟨tlook tys,olook [(40,N5v),(39,N67)],ioF,0,false,[]⟩
theorem Ntu (a:List Int):Link Nbv LL (bodyOf Tryd.f18) Nbn ⟨mkE 13 0 [(0,dL a)],[]⟩ (N4i a) (fun(t:(List Int))=>(Exit.ret,⟨mkE 13 0 [(2,.slc 0)],[some (.seq (.int .u64) t)]⟩)):= .of fun K h=>by
 simp only[N4i,wpW] at h
 exact .of (by kernel_rfl) h
theorem Npk (a:List Int) {r:AV} {H':Heap} (h:(Ans.mk _ (N1z a) (fun(t:(List Int))=>(.slc 0,[some (.seq (.int .u64) t)])) [] none).run=some (r,H')):Awp Nbv LL (bodyOf Tryd.f18) Nbn ⟨mkE 13 0 [(0,dL a)],[]⟩ (Ret (tlook tys) Tryd.f18.results.toList r H'):=
 ret_of' (Ntu a) (by unfold N1z;kernel_rfl) (by
 intro t
 exact ret_mk [.slc 0] (by kernel_rfl) (by kernel_rfl) (by kernel_rfl) (by kernel_rfl)) h
def N85:Fun:=fun avs H=>
 match avs,H with
 |[.dat (.list (.int .i64)) a],[]=>⟨_,N1z a,fun(t:(List Int))=>(.slc 0,[some (.seq (.int .u64) t)]),[],none⟩
 |_,_=>Ans.no
theorem Ng3:Sound Tryd.prog 18 N85:=by
 refine fn_sound' (C:=Nbv) (c:=bodyOf Tryd.f18) (cok_of tys_ok (allc Nhn (allc Nki alln)) (allc Tryd.call40 (allc Tryd.call39 alln)) (by kernel_rfl)) Tryd.func18 (by kernel_rfl) LL Nbn ?_
 intro avs H r H' h
 unfold N85 at h
 split at h
 ·refine Awp.cast ?_ ?_ ?_ (Npk _ h)<;>kernel_rfl
 ·simp[Ans.no,Ans.run] at h
def ins_ren:Go.Shelf.Ren:=⟨fun|21=>57|27=>63|28=>64|35=>68|39=>69|n=>n,fun|0=>0|3=>3|4=>4|22=>23|n=>n,fun n=>n⟩
theorem ins_lay:Lays2.n21 Tryd.prog ins_ren:={
 mixed:=by kernel_rfl
 f21:=Tryd.func57.trans (congrArg some (by kernel_rfl))
 f27:=Tryd.func63.trans (congrArg some (by kernel_rfl))
 f28:=Tryd.func64.trans (congrArg some (by kernel_rfl))
 f35:=Tryd.func68.trans (congrArg some (by kernel_rfl))
 f39:=Tryd.func69.trans (congrArg some (by kernel_rfl))
 t0:=Tryd.underlying0
 a0:=Tryd.isAgg0
 z0:=Tryd.sizeOf0
 v0:=Tryd.zeroValue0
 t3:=Tryd.underlying3
 a3:=Tryd.isAgg3
 z3:=Tryd.sizeOf3
 v3:=Tryd.zeroValue3
 t4:=Tryd.underlying4
 a4:=Tryd.isAgg4
 z4:=Tryd.sizeOf4
 v4:=Tryd.zeroValue4
 t22:=Tryd.underlying23
 a22:=Tryd.isAgg23
 z22:=Tryd.sizeOf23
 v22:=Tryd.zeroValue23
 i3:=by kernel_rfl}
def Nex:Fun:=F_ins
theorem Nj5:Sound Tryd.prog 57 Nex:=ins_sound ins_lay
def N1v:Ann:=(.seq (.leaf [0,1]) (.seq (.leaf [0,1,5]) (.seq (.block (.loop (.seq (.seq (.leaf [0,1,5,18]) (.cond (.leaf [0,1,5]) (.leaf [0,1,5]))) (.block (.leaf [0,1,5]))))) (.seq (.leaf [4]) (.leaf [4])))))
noncomputable def N4d:Ctx:=⟨tlook tys,olook [(57,Nex)],ioF,1,false,[0]⟩
theorem Nim (a:Int) (b:List Int):Link N4d LL (Code.seq (cq [0] (bodyOf Tryd.f44)) (cq [0,1] (bodyOf Tryd.f44))) (Ann.seq (aq [0] N1v) (aq [0,1] N1v)) ⟨mkE 26 0 [(0,.slc 0),(1,dI a)],[some (sI b)]⟩ (N8u b) (fun(t:Int)=>(Exit.normal,⟨mkE 26 0 [(0,.slc 0),(1,dI a),(5,dI t)],[some (sI b)]⟩)):= .of fun K h=>by
 simp only[N8u,wpW] at h
 exact .of (by kernel_rfl) h
theorem Nrt (a b:Int) (c:List Int):Link N4d LL (cq [0,0,0,1,1] (bodyOf Tryd.f44)) (aq [0,0,0,1,1] N1v) ⟨mkE 26 0 [(0,.slc 0),(1,dI a),(5,dI b)],[some (sI c)]⟩ (N21 a b c) (Sum.elim (fun(t:Int)=>(Exit.normal,⟨mkE 26 0 [(0,.slc 0),(1,dI a),(5,dI t)],[some (sI c)]⟩)) (fun(t:Int)=>((Exit.exit 0),⟨mkE 26 0 [(0,.slc 0),(1,dI a),(5,dI t)],[some (sI c)]⟩))):= .of fun K h=>by
 simp only[N21,wpW] at h
 exact .of (by kernel_rfl) h
theorem Nnb (a b:Int) (c:List Int):Link N4d LL (cq [1,1,1] (bodyOf Tryd.f44)) (aq [1,1,1] N1v) ⟨mkE 26 0 [(0,.slc 0),(1,dI a),(5,dI b)],[some (sI c)]⟩ (N5s a b c) (fun(t:(List Int))=>(Exit.ret,⟨mkE 26 0 [(4,.slc 0)],[some (sI t)]⟩)):= .of fun K h=>by
 simp only[N5s,wpW] at h
 exact .of (by kernel_rfl) h
theorem Nlp (b:Int) (d:List Int) {r:AV} {H':Heap} (h:(Ans.mk _ (N29 b d) (fun(t:(List Int))=>(.slc 0,[some (sI t)])) [0] none).run=some (r,H')):Awp N4d LL (bodyOf Tryd.f44) N1v ⟨mkE 26 0 [(0,.slc 0),(1,dI b)],[some (sI d)]⟩ (Ret (tlook tys) Tryd.f44.results.toList r H'):=
 ret_of' (Link.cast (by kernel_rfl) (by kernel_rfl) (link_group (c:=(cq [0,1] (bodyOf Tryd.f44))) (a:=(aq [0,1] N1v)) [(cq [0] (bodyOf Tryd.f44))] [(aq [0] N1v)] rfl (link_seq (Nim b d) (fun(t:Int)=>(link_seq (link_block (fin2:=(fun(t17:Int)=>(Exit.normal,⟨mkE 26 0 [(0,.slc 0),(1,dI b),(5,dI t17)],[some (sI d)]⟩))) (id:=0) (link_loop (mk:=fun(s:Int)=>⟨mkE 26 0 [(0,.slc 0),(1,dI b),(5,dI s)],[some (sI d)]⟩) (fin:=(fun(t17:Int)=>((Exit.exit 0),⟨mkE 26 0 [(0,.slc 0),(1,dI b),(5,dI t17)],[some (sI d)]⟩))) (by
 rintro t17 f K h
 ·exact h) (fun s=>link_map (Nrt b s d) (Sum.elim (fun(t17:Int)=>Sum.inl t17) (fun(t17:Int)=>Sum.inr t17)) (by
 rintro(t17|t17)
 ·kernel_rfl
 ·kernel_rfl)) t) (fun(t17:Int)=>t17) (by
 rintro t17 K h
 ·exact Eq.mp (by kernel_rfl) h)) (fun(t5:Int)=>(Nnb b t5 d))))))) (by unfold N29;kernel_rfl) (by
 intro t
 exact ret_mk [.slc 0] (by kernel_rfl) (by kernel_rfl) (by kernel_rfl) (by kernel_rfl)) h
def Nch:Fun:=fun avs H=>
 match avs,H with
 |[.slc 0,.dat (.int .i64) a],[some (.seq (.int .i64) b)]=>⟨_,N29 a b,fun(t:(List Int))=>(.slc 0,[some (sI t)]),[0],none⟩
 |_,_=>Ans.no
theorem Nng:Sound Tryd.prog 44 Nch:=by
 refine fn_sound' (C:=N4d) (c:=bodyOf Tryd.f44) (cok_of tys_ok (allc Nj5 alln) (allc Tryd.call57 alln) (by kernel_rfl)) Tryd.func44 (by kernel_rfl) LL N1v ?_
 intro avs H r H' h
 unfold Nch at h
 split at h
 ·refine Awp.cast ?_ ?_ ?_ (Nlp _ _ h)<;>kernel_rfl
 ·simp[Ans.no,Ans.run] at h
def N1g:Ann:=(.seq (.leaf [0,1,2]) (.seq (.leaf [0,1,2,7]) (.seq (.seq (.leaf [1,7,13,14,15]) (.block (.loop (.seq (.leaf [1,7,13,14,15,16]) (.seq (.cond (.leaf [1,7,13,14,15]) (.leaf [7])) (.seq (.block (.seq (.leaf [1,7,9,13,14,15]) (.leaf [1,7,13,14,15]))) (.leaf [1,7,13,14,15]))))))) (.seq (.leaf [6]) (.leaf [6])))))
noncomputable def N3l:Ctx:=⟨tlook tys,olook [(42,N4t),(43,N4x),(45,N83),(44,Nch)],ioF,0,false,[]⟩
theorem Nw5 (a b:List Int) (c:Int):Link N3l LL (Code.seq (cq [0] (bodyOf Tryd.f20)) (cq [0,1] (bodyOf Tryd.f20))) (Ann.seq (aq [0] N1g) (aq [0,1] N1g)) ⟨mkE 29 0 [(0,dL a),(1,.dat (.list (.int .u64)) b),(2,dI c)],[]⟩ (N6v) (fun(t:Unit)=>(Exit.normal,⟨mkE 29 0 [(0,dL a),(1,.dat (.list (.int .u64)) b),(2,dI c),(7,.slc 0)],[some (sI ([]:List Int))]⟩)):= .of fun K h=>by
 simp only[N6v,wpW] at h
 exact .of (by kernel_rfl) h
theorem Nvg (a b:List Int) (c:Int):Link N3l LL (cq [0,0,1,1] (bodyOf Tryd.f20)) (aq [0,0,1,1] N1g) ⟨mkE 29 0 [(0,dL a),(1,.dat (.list (.int .u64)) b),(2,dI c),(7,.slc 0)],[some (sI ([]:List Int))]⟩ (N72 a c) (fun(t:Int×(List Int))=>(Exit.normal,⟨mkE 29 0 [(1,.dat (.list (.int .u64)) b),(7,.slc 0),(13,.slc 1),(14,dI t.1),(15,dI 0)],[some (sI ([]:List Int)),some (sI t.2)]⟩)):= .of fun K h=>by
 simp only[N72,wpW] at h
 exact .of (by kernel_rfl) h
theorem Nmn (a:List Int) (b c:Int) (d g:List Int):Link N3l LL (cq [0,0,1,0,1,1] (bodyOf Tryd.f20)) (aq [0,0,1,0,1,1] N1g) ⟨mkE 29 0 [(1,.dat (.list (.int .u64)) a),(7,.slc 0),(13,.slc 1),(14,dI b),(15,dI c)],[some (sI d),some (sI g)]⟩ (N33 a b c d g) (Sum.elim (fun(t:Int×(List Int))=>(Exit.normal,⟨mkE 29 0 [(1,.dat (.list (.int .u64)) a),(7,.slc 0),(13,.slc 1),(14,dI b),(15,dI t.1)],[some (sI t.2),some (sI g)]⟩)) (fun(t:(List Int))=>((Exit.exit 0),⟨mkE 29 0 [(7,.slc 0)],[some (sI t)]⟩))):= .of fun K h=>by
 simp only[N33,wpW] at h
 exact .of (by kernel_rfl) h
theorem Ns5 (a:List Int):Link N3l LL (cq [1,1,1] (bodyOf Tryd.f20)) (aq [1,1,1] N1g) ⟨mkE 29 0 [(7,.slc 0)],[some (sI a)]⟩ (Nbs a) (fun(t:(List Int))=>(Exit.ret,⟨mkE 29 0 [(6,.slc 0)],[some (sI t)]⟩)):= .of fun K h=>by
 simp only[Nbs,wpW] at h
 exact .of (by kernel_rfl) h
theorem Nrm (b d:List Int) (g:Int) {r:AV} {H':Heap} (h:(Ans.mk _ (N2a b d g) (fun(t:(List Int))=>(.slc 0,[some (sI t)])) [] none).run=some (r,H')):Awp N3l LL (bodyOf Tryd.f20) N1g ⟨mkE 29 0 [(0,dL b),(1,.dat (.list (.int .u64)) d),(2,dI g)],[]⟩ (Ret (tlook tys) Tryd.f20.results.toList r H'):=
 ret_of' (Link.cast (by kernel_rfl) (by kernel_rfl) (link_group (c:=(cq [0,1] (bodyOf Tryd.f20))) (a:=(aq [0,1] N1g)) [(cq [0] (bodyOf Tryd.f20))] [(aq [0] N1g)] rfl (link_seq (Nw5 b d g) (fun(t:Unit)=>(link_seq (link_seq (Nvg b d g) (fun(t:Int×(List Int))=>(link_block (fin2:=(fun(t18:(List Int))=>(Exit.normal,⟨mkE 29 0 [(7,.slc 0)],[some (sI t18)]⟩))) (id:=0) (link_loop (mk:=fun(s:Int×(List Int))=>⟨mkE 29 0 [(1,.dat (.list (.int .u64)) d),(7,.slc 0),(13,.slc 1),(14,dI t.1),(15,dI s.1)],[some (sI s.2),some (sI t.2)]⟩) (fin:=(fun(t18:(List Int))=>((Exit.exit 0),⟨mkE 29 0 [(7,.slc 0)],[some (sI t18)]⟩))) (by
 rintro t18 f K h
 ·exact h) (fun s=>link_map (Nmn d t.1 s.1 s.2 t.2) (Sum.elim (fun(t18:Int×(List Int))=>Sum.inl (t18.1,t18.2)) (fun(t18:(List Int))=>Sum.inr t18)) (by
 rintro(t18|t18)
 ·kernel_rfl
 ·kernel_rfl)) (0,([]:List Int))) (fun(t18:(List Int))=>t18) (by
 rintro t18 K h
 ·exact Eq.mp (by kernel_rfl) h)))) (fun(t:(List Int))=>(Ns5 t))))))) (by unfold N2a;kernel_rfl) (by
 intro t
 exact ret_mk [.slc 0] (by kernel_rfl) (by kernel_rfl) (by kernel_rfl) (by kernel_rfl)) h
def Na2:Fun:=fun avs H=>
 match avs,H with
 |[.dat (.list (.int .i64)) a,.dat (.list (.int .u64)) b,.dat (.int .i64) c],[]=>⟨_,N2a a b c,fun(t:(List Int))=>(.slc 0,[some (sI t)]),[],none⟩
 |_,_=>Ans.no
theorem Nt5:Sound Tryd.prog 20 Na2:=by
 refine fn_sound' (C:=N3l) (c:=bodyOf Tryd.f20) (cok_of tys_ok (allc N9o (allc Nck (allc Nfr (allc Nng alln)))) (allc Tryd.call42 (allc Tryd.call43 (allc Tryd.call45 (allc Tryd.call44 alln)))) (by kernel_rfl)) Tryd.func20 (by kernel_rfl) LL N1g ?_
 intro avs H r H' h
 unfold Na2 at h
 split at h
 ·refine Awp.cast ?_ ?_ ?_ (Nrm _ _ _ h)<;>kernel_rfl
 ·simp[Ans.no,Ans.run] at h
def Nl:Ann:=(.seq (.leaf [0,1,2]) (.seq (.leaf [0,1,2,7]) (.seq (.leaf [0,1,2,7,8]) (.seq (.seq (.leaf [1,2,7,8,12,13,14]) (.block (.loop (.seq (.leaf [1,2,7,8,12,13,14,15]) (.seq (.cond (.leaf [1,2,7,8,12,13,14]) (.leaf [2,7,8])) (.seq (.block (.seq (.leaf [1,2,7,8,9,10,12,13,14]) (.seq (.leaf [1,2,7,8,10,11,12,13,14]) (.seq (.leaf [1,2,7,8,10,11,12,13,14]) (.leaf [1,2,7,8,12,13,14]))))) (.leaf [1,2,7,8,12,13,14]))))))) (.seq (.seq (.leaf [7,8,36]) (.cond (.leaf [7]) (.leaf [7]))) (.seq (.leaf [6]) (.leaf [6])))))))
noncomputable def N3w:Ctx:=⟨tlook tys,olook [],ioF,0,false,[]⟩
theorem Nlz (a:List Int) (b:Int) (c:Bool):Link N3w LL (Code.seq (cq [0] (bodyOf Tryd.f41)) (Code.seq (cq [0,1] (bodyOf Tryd.f41)) (cq [0,1,1] (bodyOf Tryd.f41)))) (Ann.seq (aq [0] Nl) (Ann.seq (aq [0,1] Nl) (aq [0,1,1] Nl))) ⟨mkE 42 0 [(0,dL a),(1,dW b),(2,dB c)],[]⟩ (N6t) (fun(t:Unit)=>(Exit.normal,⟨mkE 42 0 [(0,dL a),(1,dW b),(2,dB c),(7,dI 0),(8,.ptr 0 0)],[some (sI (List.replicate 2 (0:Int)))]⟩)):= .of fun K h=>by
 simp only[N6t,wpW] at h
 exact .of (by kernel_rfl) h
theorem Nv0 (a:List Int) (b:Int) (c:Bool):Link N3w LL (cq [0,0,1,1,1] (bodyOf Tryd.f41)) (aq [0,0,1,1,1] Nl) ⟨mkE 42 0 [(0,dL a),(1,dW b),(2,dB c),(7,dI 0),(8,.ptr 0 0)],[some (sI (List.replicate 2 (0:Int)))]⟩ (N7h a) (fun(t:Int)=>(Exit.normal,⟨mkE 42 0 [(1,dW b),(2,dB c),(7,dI 0),(8,.ptr 0 0),(12,dL a),(13,dI t),(14,dI 0)],[some (sI (List.replicate 2 (0:Int)))]⟩)):= .of fun K h=>by
 simp only[N7h,wpW] at h
 exact .of (by kernel_rfl) h
theorem Nwg (a:Int) (b:Bool) (c:Int) (d:List Int) (g i:Int) (j:List Int):Link N3w LL (cq [0,0,1,0,1,1,1] (bodyOf Tryd.f41)) (aq [0,0,1,0,1,1,1] Nl) ⟨mkE 42 0 [(1,dW a),(2,dB b),(7,dI c),(8,.ptr 0 0),(12,dL d),(13,dI g),(14,dI i)],[some (sI j)]⟩ (N3s a c d g i j) (Sum.elim (fun(t:Int×Int×(List Int))=>(Exit.normal,⟨mkE 42 0 [(1,dW a),(2,dB b),(7,dI t.1),(8,.ptr 0 0),(12,dL d),(13,dI g),(14,dI t.2.1)],[some (sI t.2.2)]⟩)) (fun(t:Int×(List Int))=>((Exit.exit 0),⟨mkE 42 0 [(2,dB b),(7,dI t.1),(8,.ptr 0 0)],[some (sI t.2)]⟩))):= .of fun K h=>by
 simp only[N3s,wpW] at h
 exact .of (by kernel_rfl) h
theorem Nly (a:Bool) (b:Int) (c:List Int):Link N3w LL (cq [1,1,1,1] (bodyOf Tryd.f41)) (aq [1,1,1,1] Nl) ⟨mkE 42 0 [(2,dB a),(7,dI b),(8,.ptr 0 0)],[some (sI c)]⟩ (N75 a b c) (fun(t:Int)=>(Exit.ret,⟨mkE 42 0 [(6,dI t)],[]⟩)):= .of fun K h=>by
 simp only[N75,wpW] at h
 exact .of (by kernel_rfl) h
theorem Nvk (b:List Int) (d:Int) (g:Bool) {r:AV} {H':Heap} (h:(Ans.mk _ (N10 b d g) (fun(t:Int)=>(dI t,[])) [] none).run=some (r,H')):Awp N3w LL (bodyOf Tryd.f41) Nl ⟨mkE 42 0 [(0,dL b),(1,dW d),(2,dB g)],[]⟩ (Ret (tlook tys) Tryd.f41.results.toList r H'):=
 ret_of' (Link.cast (by kernel_rfl) (by kernel_rfl) (link_group (c:=(cq [0,1,1] (bodyOf Tryd.f41))) (a:=(aq [0,1,1] Nl)) [(cq [0] (bodyOf Tryd.f41)),(cq [0,1] (bodyOf Tryd.f41))] [(aq [0] Nl),(aq [0,1] Nl)] rfl (link_seq (Nlz b d g) (fun(t:Unit)=>(link_seq (link_seq (Nv0 b d g) (fun(t:Int)=>(link_block (fin2:=(fun(t19:Int×(List Int))=>(Exit.normal,⟨mkE 42 0 [(2,dB g),(7,dI t19.1),(8,.ptr 0 0)],[some (sI t19.2)]⟩))) (id:=0) (link_loop (mk:=fun(s:Int×Int×(List Int))=>⟨mkE 42 0 [(1,dW d),(2,dB g),(7,dI s.1),(8,.ptr 0 0),(12,dL b),(13,dI t),(14,dI s.2.1)],[some (sI s.2.2)]⟩) (fin:=(fun(t19:Int×(List Int))=>((Exit.exit 0),⟨mkE 42 0 [(2,dB g),(7,dI t19.1),(8,.ptr 0 0)],[some (sI t19.2)]⟩))) (by
 rintro t19 f K h
 ·exact h) (fun s=>link_map (Nwg d g s.1 b t s.2.1 s.2.2) (Sum.elim (fun(t19:Int×Int×(List Int))=>Sum.inl (t19.1,t19.2.1,t19.2.2)) (fun(t19:Int×(List Int))=>Sum.inr t19)) (by
 rintro(t19|t19)
 ·kernel_rfl
 ·kernel_rfl)) (0,0,(List.replicate 2 (0:Int)))) (fun(t19:Int×(List Int))=>(t19.1,t19.2)) (by
 rintro t19 K h
 ·exact Eq.mp (by kernel_rfl) h)))) (fun(t:Int×(List Int))=>(Nly g t.1 t.2))))))) (by unfold N10;kernel_rfl) (by
 intro t
 exact ret_mk [dI t] (by kernel_rfl) (by kernel_rfl) (by kernel_rfl) (by kernel_rfl)) h
def Nbb:Fun:=fun avs H=>
 match avs,H with
 |[.dat (.list (.int .i64)) a,.dat (.int .u64) b,.dat .bool c],[]=>⟨_,N10 a b c,fun(t:Int)=>(dI t,[]),[],none⟩
 |_,_=>Ans.no
theorem Nwo:Sound Tryd.prog 41 Nbb:=by
 refine fn_sound' (C:=N3w) (c:=bodyOf Tryd.f41) (cok_of tys_ok (alln) (alln) (by kernel_rfl)) Tryd.func41 (by kernel_rfl) LL Nl ?_
 intro avs H r H' h
 unfold Nbb at h
 split at h
 ·refine Awp.cast ?_ ?_ ?_ (Nvk _ _ _ h)<;>kernel_rfl
 ·simp[Ans.no,Ans.run] at h
def N17:Ann:=(.seq (.leaf [0,1]) (.seq (.leaf [0,1,5]) (.seq (.seq (.leaf [0,1,5,12,13]) (.block (.loop (.seq (.leaf [0,1,5,12,13,14]) (.seq (.cond (.leaf [0,1,5,12,13]) (.leaf [5])) (.seq (.block (.seq (.leaf [0,1,5,6,12,13]) (.leaf [0,1,5,12,13]))) (.leaf [0,1,5,12,13]))))))) (.seq (.leaf [4]) (.leaf [4])))))
noncomputable def N32:Ctx:=⟨tlook tys,olook [(41,Nbb)],ioF,0,false,[]⟩
theorem Nkn (a:List Int) (b:Bool):Link N32 LL (Code.seq (cq [0] (bodyOf Tryd.f19)) (cq [0,1] (bodyOf Tryd.f19))) (Ann.seq (aq [0] N17) (aq [0,1] N17)) ⟨mkE 24 0 [(0,dL a),(1,dB b)],[]⟩ (N7z a b) (fun(t:Int)=>(Exit.normal,⟨mkE 24 0 [(0,dL a),(1,dB b),(5,dI t)],[]⟩)):= .of fun K h=>by
 simp only[N7z,wpW] at h
 exact .of (by kernel_rfl) h
theorem Nqs (a:List Int) (b:Bool) (c:Int):Link N32 LL (cq [0,0,1,1] (bodyOf Tryd.f19)) (aq [0,0,1,1] N17) ⟨mkE 24 0 [(0,dL a),(1,dB b),(5,dI c)],[]⟩ (N6f a) (fun(t:Int)=>(Exit.normal,⟨mkE 24 0 [(0,dL a),(1,dB b),(5,dI c),(12,dW t),(13,dW 0)],[]⟩)):= .of fun K h=>by
 simp only[N6f,wpW] at h
 exact .of (by kernel_rfl) h
theorem Nmr (a:List Int) (b:Bool) (c d g:Int):Link N32 LL (cq [0,0,1,0,1,1] (bodyOf Tryd.f19)) (aq [0,0,1,0,1,1] N17) ⟨mkE 24 0 [(0,dL a),(1,dB b),(5,dI c),(12,dW d),(13,dW g)],[]⟩ (N3j a b c d g) (Sum.elim (fun(t:Int×Int)=>(Exit.normal,⟨mkE 24 0 [(0,dL a),(1,dB b),(5,dI t.1),(12,dW d),(13,dW t.2)],[]⟩)) (fun(t:Int)=>((Exit.exit 0),⟨mkE 24 0 [(5,dI t)],[]⟩))):= .of fun K h=>by
 simp only[N3j,wpW] at h
 exact .of (by kernel_rfl) h
theorem Ntw (a:Int):Link N32 LL (cq [1,1,1] (bodyOf Tryd.f19)) (aq [1,1,1] N17) ⟨mkE 24 0 [(5,dI a)],[]⟩ (N5f a) (fun(t:Int)=>(Exit.ret,⟨mkE 24 0 [(4,dI t)],[]⟩)):= .of fun K h=>by
 simp only[N5f,wpW] at h
 exact .of (by kernel_rfl) h
theorem Nq1 (b:List Int) (d:Bool) {r:AV} {H':Heap} (h:(Ans.mk _ (N27 b d) (fun(t:Int)=>(dI t,[])) [] none).run=some (r,H')):Awp N32 LL (bodyOf Tryd.f19) N17 ⟨mkE 24 0 [(0,dL b),(1,dB d)],[]⟩ (Ret (tlook tys) Tryd.f19.results.toList r H'):=
 ret_of' (Link.cast (by kernel_rfl) (by kernel_rfl) (link_group (c:=(cq [0,1] (bodyOf Tryd.f19))) (a:=(aq [0,1] N17)) [(cq [0] (bodyOf Tryd.f19))] [(aq [0] N17)] rfl (link_seq (Nkn b d) (fun(t:Int)=>(link_seq (link_seq (Nqs b d t) (fun(t43:Int)=>(link_block (fin2:=(fun(t20:Int)=>(Exit.normal,⟨mkE 24 0 [(5,dI t20)],[]⟩))) (id:=0) (link_loop (mk:=fun(s:Int×Int)=>⟨mkE 24 0 [(0,dL b),(1,dB d),(5,dI s.1),(12,dW t43),(13,dW s.2)],[]⟩) (fin:=(fun(t20:Int)=>((Exit.exit 0),⟨mkE 24 0 [(5,dI t20)],[]⟩))) (by
 rintro t20 f K h
 ·exact h) (fun s=>link_map (Nmr b d s.1 t43 s.2) (Sum.elim (fun(t20:Int×Int)=>Sum.inl (t20.1,t20.2)) (fun(t20:Int)=>Sum.inr t20)) (by
 rintro(t20|t20)
 ·kernel_rfl
 ·kernel_rfl)) (t,0)) (fun(t20:Int)=>t20) (by
 rintro t20 K h
 ·exact Eq.mp (by kernel_rfl) h)))) (fun(t43:Int)=>(Ntw t43))))))) (by unfold N27;kernel_rfl) (by
 intro t
 exact ret_mk [dI t] (by kernel_rfl) (by kernel_rfl) (by kernel_rfl) (by kernel_rfl)) h
def Nc6:Fun:=fun avs H=>
 match avs,H with
 |[.dat (.list (.int .i64)) a,.dat .bool b],[]=>⟨_,N27 a b,fun(t:Int)=>(dI t,[]),[],none⟩
 |_,_=>Ans.no
theorem Njx:Sound Tryd.prog 19 Nc6:=by
 refine fn_sound' (C:=N32) (c:=bodyOf Tryd.f19) (cok_of tys_ok (allc Nwo alln) (allc Tryd.call41 alln) (by kernel_rfl)) Tryd.func19 (by kernel_rfl) LL N17 ?_
 intro avs H r H' h
 unfold Nc6 at h
 split at h
 ·refine Awp.cast ?_ ?_ ?_ (Nq1 _ _ h)<;>kernel_rfl
 ·simp[Ans.no,Ans.run] at h
def Nd:Ann:=(.seq (.leaf [0]) (.seq (.seq (.leaf [0,9]) (.cond (.seq (.leaf [2]) (.leaf [2])) (.leaf [0]))) (.seq (.leaf [0,3]) (.seq (.leaf [0,3,4]) (.seq (.seq (.leaf [0,3,4,12,13,14]) (.block (.loop (.seq (.leaf [0,3,4,12,13,14,15]) (.seq (.cond (.leaf [0,3,4,12,13,14]) (.leaf [4])) (.seq (.block (.seq (.leaf [0,3,4,5,6,12,13,14]) (.leaf [0,3,4,12,13,14]))) (.leaf [0,3,4,12,13,14]))))))) (.seq (.leaf [2]) (.leaf [2])))))))
noncomputable def N3y:Ctx:=⟨tlook tys,olook [(8,Nv),(18,N85),(20,Na2),(19,Nc6)],ioF,0,false,[]⟩
theorem Nmq (a:List Int):Link N3y LL (Code.seq (cq [0] (bodyOf Tryd.f6)) (Code.seq (cq [0,1] (bodyOf Tryd.f6)) (Code.seq (cq [0,1,1] (bodyOf Tryd.f6)) (cq [0,1,1,1] (bodyOf Tryd.f6))))) (Ann.seq (aq [0] Nd) (Ann.seq (aq [0,1] Nd) (Ann.seq (aq [0,1,1] Nd) (aq [0,1,1,1] Nd)))) ⟨mkE 31 0 [(0,dL a)],[]⟩ (N7y a) (Sum.elim (fun(t:(List Int))=>(Exit.normal,⟨mkE 31 0 [(0,dL a),(3,.slc 0),(4,dI 0)],[some (.seq (.int .u64) t)]⟩)) (fun(t:Int)=>(Exit.ret,⟨mkE 31 0 [(2,dI t)],[]⟩))):= .of fun K h=>by
 simp only[N7y,wpW] at h
 exact .of (by kernel_rfl) h
theorem Nqq (a b:List Int):Link N3y LL (cq [0,0,1,1,1,1] (bodyOf Tryd.f6)) (aq [0,0,1,1,1,1] Nd) ⟨mkE 31 0 [(0,dL a),(3,.slc 0),(4,dI 0)],[some (.seq (.int .u64) b)]⟩ (N5z a) (fun(t:Int)=>(Exit.normal,⟨mkE 31 0 [(0,dL a),(3,.slc 0),(4,dI 0),(12,dL a),(13,dI t),(14,dI 0)],[some (.seq (.int .u64) b)]⟩)):= .of fun K h=>by
 simp only[N5z,wpW] at h
 exact .of (by kernel_rfl) h
theorem Noi (a:List Int) (b c d:Int) (g:List Int):Link N3y LL (cq [0,0,1,0,1,1,1,1] (bodyOf Tryd.f6)) (aq [0,0,1,0,1,1,1,1] Nd) ⟨mkE 31 0 [(0,dL a),(3,.slc 0),(4,dI b),(12,dL a),(13,dI c),(14,dI d)],[some (.seq (.int .u64) g)]⟩ (N2x a b c d g) (Sum.elim (fun(t:Int×Int)=>(Exit.normal,⟨mkE 31 0 [(0,dL a),(3,.slc 0),(4,dI t.1),(12,dL a),(13,dI c),(14,dI t.2)],[some (.seq (.int .u64) g)]⟩)) (fun(t:Int)=>((Exit.exit 0),⟨mkE 31 0 [(4,dI t)],[]⟩))):= .of fun K h=>by
 simp only[N2x,wpW] at h
 exact .of (by kernel_rfl) h
theorem Nr1 (a:Int):Link N3y LL (cq [1,1,1,1,1] (bodyOf Tryd.f6)) (aq [1,1,1,1,1] Nd) ⟨mkE 31 0 [(4,dI a)],[]⟩ (N9g a) (fun(t:Int)=>(Exit.ret,⟨mkE 31 0 [(2,dI t)],[]⟩)):= .of fun K h=>by
 simp only[N9g,wpW] at h
 exact .of (by kernel_rfl) h
theorem Njm (b:List Int) {r:AV} {H':Heap} (h:(Ans.mk _ (N13 b) (fun(t:Int)=>(dI t,[])) [] none).run=some (r,H')):Awp N3y LL (bodyOf Tryd.f6) Nd ⟨mkE 31 0 [(0,dL b)],[]⟩ (Ret (tlook tys) Tryd.f6.results.toList r H'):=
 ret_of' (Link.cast (by kernel_rfl) (by kernel_rfl) (link_group (c:=(cq [0,1,1,1] (bodyOf Tryd.f6))) (a:=(aq [0,1,1,1] Nd)) [(cq [0] (bodyOf Tryd.f6)),(cq [0,1] (bodyOf Tryd.f6)),(cq [0,1,1] (bodyOf Tryd.f6))] [(aq [0] Nd),(aq [0,1] Nd),(aq [0,1,1] Nd)] rfl (link_seq2 (Nmq b) (fun(t:(List Int))=>(link_seq (link_seq (Nqq b t) (fun(t44:Int)=>(link_block (fin2:=(fun(t21:Int)=>(Exit.normal,⟨mkE 31 0 [(4,dI t21)],[]⟩))) (id:=0) (link_loop (mk:=fun(s:Int×Int)=>⟨mkE 31 0 [(0,dL b),(3,.slc 0),(4,dI s.1),(12,dL b),(13,dI t44),(14,dI s.2)],[some (.seq (.int .u64) t)]⟩) (fin:=(fun(t21:Int)=>((Exit.exit 0),⟨mkE 31 0 [(4,dI t21)],[]⟩))) (by
 rintro t21 f K h
 ·exact h) (fun s=>link_map (Noi b s.1 t44 s.2 t) (Sum.elim (fun(t21:Int×Int)=>Sum.inl (t21.1,t21.2)) (fun(t21:Int)=>Sum.inr t21)) (by
 rintro(t21|t21)
 ·kernel_rfl
 ·kernel_rfl)) (0,0)) (fun(t21:Int)=>t21) (by
 rintro t21 K h
 ·exact Eq.mp (by kernel_rfl) h)))) (fun(t44:Int)=>(Nr1 t44)))) (fun(t:Int)=>t) (by
 rintro t
 ·kernel_rfl) (by
 rintro t f K h
 ·exact h)))) (by unfold N13;kernel_rfl) (by
 intro t
 exact ret_mk [dI t] (by kernel_rfl) (by kernel_rfl) (by kernel_rfl) (by kernel_rfl)) h
def Nbm:Fun:=fun avs H=>
 match avs,H with
 |[.dat (.list (.int .i64)) a],[]=>⟨_,N13 a,fun(t:Int)=>(dI t,[]),[],none⟩
 |_,_=>Ans.no
theorem Nvl:Sound Tryd.prog 6 Nbm:=by
 refine fn_sound' (C:=N3y) (c:=bodyOf Tryd.f6) (cok_of tys_ok (allc N1r (allc Ng3 (allc Nt5 (allc Njx alln)))) (allc Tryd.call8 (allc Tryd.call18 (allc Tryd.call20 (allc Tryd.call19 alln)))) (by kernel_rfl)) Tryd.func6 (by kernel_rfl) LL Nd ?_
 intro avs H r H' h
 unfold Nbm at h
 split at h
 ·refine Awp.cast ?_ ?_ ?_ (Njm _ h)<;>kernel_rfl
 ·simp[Ans.no,Ans.run] at h
def N19:Ann:=(.seq (.leaf [0,1]) (.seq (.leaf [0,1,5]) (.seq (.seq (.leaf [0,1,5,6]) (.block (.loop (.seq (.seq (.leaf [0,1,5,6,13]) (.cond (.leaf [0,1,5,6]) (.leaf [5]))) (.seq (.block (.seq (.leaf [0,1,5,6,21]) (.cond (.leaf [0,1,5,6]) (.leaf [0,1,5,6])))) (.leaf [0,1,5,6])))))) (.seq (.leaf [4]) (.leaf [4])))))
def N1b (n:Nat):Fun:=fun avs H=>
 match avs,H with
 |[.dat (.list (.int .i64)) a,.dat (.int .i64) b],[]=>⟨_,Nz n a b,fun(t:Int)=>(dI t,[]),[],none⟩
 |_,_=>Ans.no
noncomputable def N35 (n:Nat):Ctx:=⟨tlook tys,olook [(48,N1b n)],ioF,0,false,[]⟩
theorem Nj4 (n:Nat) (a:List Int) (b:Int):Link (N35 n) LL (Code.seq (cq [0] (bodyOf Tryd.f48)) (cq [0,1] (bodyOf Tryd.f48))) (Ann.seq (aq [0] N19) (aq [0,1] N19)) ⟨mkE 29 0 [(0,dL a),(1,dI b)],[]⟩ (N6l (Nz n) b) (fun(t:Int)=>(Exit.normal,⟨mkE 29 0 [(0,dL a),(1,dI b),(5,dI t)],[]⟩)):= .of fun K h=>by
 simp only[N6l,wpW] at h
 exact .of (by kernel_rfl) h
theorem Nj0 (n:Nat) (a:List Int) (b c:Int):Link (N35 n) LL (cq [0,0,1,1] (bodyOf Tryd.f48)) (aq [0,0,1,1] N19) ⟨mkE 29 0 [(0,dL a),(1,dI b),(5,dI c)],[]⟩ (N7i (Nz n)) (fun(t:Unit)=>(Exit.normal,⟨mkE 29 0 [(0,dL a),(1,dI b),(5,dI c),(6,dI 0)],[]⟩)):= .of fun K h=>by
 simp only[N7i,wpW] at h
 exact .of (by kernel_rfl) h
theorem Nsb (n:Nat) (a:List Int) (b c d:Int):Link (N35 n) LL (cq [0,0,1,0,1,1] (bodyOf Tryd.f48)) (aq [0,0,1,0,1,1] N19) ⟨mkE 29 0 [(0,dL a),(1,dI b),(5,dI c),(6,dI d)],[]⟩ (N3v (Nz n) a b c d) (Sum.elim (fun(t:Int×Int)=>(Exit.normal,⟨mkE 29 0 [(0,dL a),(1,dI b),(5,dI t.1),(6,dI t.2)],[]⟩)) (fun(t:Int)=>((Exit.exit 0),⟨mkE 29 0 [(5,dI t)],[]⟩))):= .of fun K h=>by
 simp only[N3v,wpW] at h
 exact .of (by kernel_rfl) h
theorem Nqb (n:Nat) (a:Int):Link (N35 n) LL (cq [1,1,1] (bodyOf Tryd.f48)) (aq [1,1,1] N19) ⟨mkE 29 0 [(5,dI a)],[]⟩ (N65 (Nz n) a) (fun(t:Int)=>(Exit.ret,⟨mkE 29 0 [(4,dI t)],[]⟩)):= .of fun K h=>by
 simp only[N65,wpW] at h
 exact .of (by kernel_rfl) h
theorem Nil (n:Nat) (b:List Int) (d:Int) {r:AV} {H':Heap} (h:(Ans.mk _ (Nz (n+1) b d) (fun(t:Int)=>(dI t,[])) [] none).run=some (r,H')):Awp (N35 n) LL (bodyOf Tryd.f48) N19 ⟨mkE 29 0 [(0,dL b),(1,dI d)],[]⟩ (Ret (tlook tys) Tryd.f48.results.toList r H'):=
 ret_of' (Link.cast (by kernel_rfl) (by kernel_rfl) (link_group (c:=(cq [0,1] (bodyOf Tryd.f48))) (a:=(aq [0,1] N19)) [(cq [0] (bodyOf Tryd.f48))] [(aq [0] N19)] rfl (link_seq (Nj4 n b d) (fun(t:Int)=>(link_seq (link_seq (Nj0 n b d t) (fun(t45:Unit)=>(link_block (fin2:=(fun(t45:Int)=>(Exit.normal,⟨mkE 29 0 [(5,dI t45)],[]⟩))) (id:=0) (link_loop (mk:=fun(s:Int×Int)=>⟨mkE 29 0 [(0,dL b),(1,dI d),(5,dI s.1),(6,dI s.2)],[]⟩) (fin:=(fun(t45:Int)=>((Exit.exit 0),⟨mkE 29 0 [(5,dI t45)],[]⟩))) (by
 rintro t45 f K h
 ·exact h) (fun s=>link_map (Nsb n b d s.1 s.2) (Sum.elim (fun(t45:Int×Int)=>Sum.inl (t45.1,t45.2)) (fun(t45:Int)=>Sum.inr t45)) (by
 rintro(t45|t45)
 ·kernel_rfl
 ·kernel_rfl)) (t,0)) (fun(t45:Int)=>t45) (by
 rintro t45 K h
 ·exact Eq.mp (by kernel_rfl) h)))) (fun(t45:Int)=>(Nqb n t45))))))) (by(show _=_);kernel_rfl) (by
 intro t
 exact ret_mk [dI t] (by kernel_rfl) (by kernel_rfl) (by kernel_rfl) (by kernel_rfl)) h
theorem Nrr (n:Nat) (h48:Sound Tryd.prog 48 (N1b n)):Sound Tryd.prog 48 (N1b (n+1)):=by
 refine fn_sound' (C:=N35 n) (c:=bodyOf Tryd.f48) (cok_of tys_ok (allc h48 alln) (allc Tryd.call48 alln) (by kernel_rfl)) Tryd.func48 (by kernel_rfl) LL N19 ?_
 intro avs H r H' h
 unfold N1b at h
 split at h
 ·refine Awp.cast ?_ ?_ ?_ (Nil n _ _ h)<;>kernel_rfl
 ·simp[Ans.no,Ans.run] at h
theorem Npv:Sound Tryd.prog 48 (N1b 0):=by
 intro avs H r H' h
 unfold N1b at h
 split at h
 ·simp[Nz,N20,Ans.run] at h
 ·simp[Ans.no,Ans.run] at h
theorem Ni2: ∀n,Sound Tryd.prog 48 (N1b n)
 |0=>Npv
 |n+1=>by
  have h48:=Ni2 n
  exact Nrr n h48
def N8g:Fun:=fun avs H=>
 match avs,H with
 |[.dat (.list (.int .i64)) a,.dat (.int .i64) b],[]=>⟨_,N37 a b,fun(t:Int)=>(dI t,[]),[],none⟩
 |_,_=>Ans.no
theorem Nkx:Sound Tryd.prog 48 N8g:=by
 have e:N8g=N1b RR:=by
  funext avs H
  unfold N8g N1b
  split<;>first|rfl|(simp only[N37])
 rw[e]
 exact(Ni2 RR)
def N14:Ann:=(.seq (.leaf [0]) (.seq (.leaf [0,3]) (.seq (.seq (.leaf [0,3,4]) (.block (.loop (.seq (.seq (.leaf [0,3,4,9]) (.cond (.leaf [0,3,4]) (.leaf [3]))) (.seq (.block (.seq (.leaf [0,3,4,16]) (.cond (.leaf [0,3,4]) (.leaf [0,3,4])))) (.leaf [0,3,4])))))) (.seq (.leaf [2]) (.leaf [2])))))
noncomputable def N3h:Ctx:=⟨tlook tys,olook [],ioF,0,false,[]⟩
theorem Nn9 (a:Int):Link N3h LL (Code.seq (cq [0] (bodyOf Tryd.f47)) (cq [0,1] (bodyOf Tryd.f47))) (Ann.seq (aq [0] N14) (aq [0,1] N14)) ⟨mkE 23 0 [(0,dI a)],[]⟩ (Nb9) (fun(t:Unit)=>(Exit.normal,⟨mkE 23 0 [(0,dI a),(3,.slc 0)],[some (sI ([]:List Int))]⟩)):= .of fun K h=>by
 simp only[Nb9,wpW] at h
 exact .of (by kernel_rfl) h
theorem Nny (a:Int):Link N3h LL (cq [0,0,1,1] (bodyOf Tryd.f47)) (aq [0,0,1,1] N14) ⟨mkE 23 0 [(0,dI a),(3,.slc 0)],[some (sI ([]:List Int))]⟩ (Ncc) (fun(t:Unit)=>(Exit.normal,⟨mkE 23 0 [(0,dI a),(3,.slc 0),(4,dI 0)],[some (sI ([]:List Int))]⟩)):= .of fun K h=>by
 simp only[Ncc,wpW] at h
 exact .of (by kernel_rfl) h
theorem Nji (a b:Int) (c:List Int):Link N3h LL (cq [0,0,1,0,1,1] (bodyOf Tryd.f47)) (aq [0,0,1,0,1,1] N14) ⟨mkE 23 0 [(0,dI a),(3,.slc 0),(4,dI b)],[some (sI c)]⟩ (N96 a b c) (Sum.elim (fun(t:Int×(List Int))=>(Exit.normal,⟨mkE 23 0 [(0,dI a),(3,.slc 0),(4,dI t.1)],[some (sI t.2)]⟩)) (fun(t:(List Int))=>((Exit.exit 0),⟨mkE 23 0 [(3,.slc 0)],[some (sI t)]⟩))):= .of fun K h=>by
 simp only[N96,wpW] at h
 exact .of (by kernel_rfl) h
theorem Nv3 (a:List Int):Link N3h LL (cq [1,1,1] (bodyOf Tryd.f47)) (aq [1,1,1] N14) ⟨mkE 23 0 [(3,.slc 0)],[some (sI a)]⟩ (Nb3 a) (fun(t:(List Int))=>(Exit.ret,⟨mkE 23 0 [(2,.slc 0)],[some (sI t)]⟩)):= .of fun K h=>by
 simp only[Nb3,wpW] at h
 exact .of (by kernel_rfl) h
theorem Nmj (b:Int) {r:AV} {H':Heap} (h:(Ans.mk _ (N38 b) (fun(t:(List Int))=>(.slc 0,[some (sI t)])) [] none).run=some (r,H')):Awp N3h LL (bodyOf Tryd.f47) N14 ⟨mkE 23 0 [(0,dI b)],[]⟩ (Ret (tlook tys) Tryd.f47.results.toList r H'):=
 ret_of' (Link.cast (by kernel_rfl) (by kernel_rfl) (link_group (c:=(cq [0,1] (bodyOf Tryd.f47))) (a:=(aq [0,1] N14)) [(cq [0] (bodyOf Tryd.f47))] [(aq [0] N14)] rfl (link_seq (Nn9 b) (fun(t:Unit)=>(link_seq (link_seq (Nny b) (fun(t:Unit)=>(link_block (fin2:=(fun(t:(List Int))=>(Exit.normal,⟨mkE 23 0 [(3,.slc 0)],[some (sI t)]⟩))) (id:=0) (link_loop (mk:=fun(s:Int×(List Int))=>⟨mkE 23 0 [(0,dI b),(3,.slc 0),(4,dI s.1)],[some (sI s.2)]⟩) (fin:=(fun(t:(List Int))=>((Exit.exit 0),⟨mkE 23 0 [(3,.slc 0)],[some (sI t)]⟩))) (by
 rintro t f K h
 ·exact h) (fun s=>link_map (Nji b s.1 s.2) (Sum.elim (fun(t:Int×(List Int))=>Sum.inl (t.1,t.2)) (fun(t:(List Int))=>Sum.inr t)) (by
 rintro(t|t)
 ·kernel_rfl
 ·kernel_rfl)) (0,([]:List Int))) (fun(t:(List Int))=>t) (by
 rintro t K h
 ·exact Eq.mp (by kernel_rfl) h)))) (fun(t:(List Int))=>(Nv3 t))))))) (by unfold N38;kernel_rfl) (by
 intro t
 exact ret_mk [.slc 0] (by kernel_rfl) (by kernel_rfl) (by kernel_rfl) (by kernel_rfl)) h
def N9a:Fun:=fun avs H=>
 match avs,H with
 |[.dat (.int .i64) a],[]=>⟨_,N38 a,fun(t:(List Int))=>(.slc 0,[some (sI t)]),[],none⟩
 |_,_=>Ans.no
theorem Npc:Sound Tryd.prog 47 N9a:=by
 refine fn_sound' (C:=N3h) (c:=bodyOf Tryd.f47) (cok_of tys_ok (alln) (alln) (by kernel_rfl)) Tryd.func47 (by kernel_rfl) LL N14 ?_
 intro avs H r H' h
 unfold N9a at h
 split at h
 ·refine Awp.cast ?_ ?_ ?_ (Nmj _ h)<;>kernel_rfl
 ·simp[Ans.no,Ans.run] at h
def N4:Ann:=(.seq (.leaf [0,1]) (.seq (.leaf [0,1,5]) (.seq (.seq (.leaf [0,1,5,6]) (.block (.loop (.seq (.seq (.leaf [0,1,5,6,14]) (.cond (.leaf [0,1,5,6]) (.leaf [5]))) (.seq (.block (.seq (.seq (.leaf [0,1,5,6,22]) (.cond (.leaf [0,1,5,6]) (.leaf [0,1,5,6]))) (.seq (.leaf [0,1,5,6,7]) (.seq (.leaf [0,1,5,6,7,8]) (.seq (.block (.loop (.seq (.seq (.leaf [0,1,5,6,7,8,40]) (.cond (.leaf [0,1,5,6,7,8]) (.leaf [0,1,5,6,7,8]))) (.block (.leaf [0,1,5,6,7,8]))))) (.seq (.leaf [0,1,5,6,7,8,9]) (.seq (.leaf [0,1,5,6,8,9]) (.leaf [0,1,5,6])))))))) (.leaf [0,1,5,6])))))) (.seq (.leaf [4]) (.leaf [4])))))
noncomputable def Nt:Ctx:=⟨tlook tys,olook [(48,N8g),(47,N9a)],ioF,0,false,[]⟩
theorem Noy (a:List Int) (b:Int):Link Nt LL (Code.seq (cq [0] (bodyOf Tryd.f23)) (cq [0,1] (bodyOf Tryd.f23))) (Ann.seq (aq [0] N4) (aq [0,1] N4)) ⟨mkE 58 0 [(0,dL a),(1,dI b)],[]⟩ (N6x) (fun(t:Unit)=>(Exit.normal,⟨mkE 58 0 [(0,dL a),(1,dI b),(5,.slc 0)],[some (sI ([]:List Int))]⟩)):= .of fun K h=>by
 simp only[N6x,wpW] at h
 exact .of (by kernel_rfl) h
theorem Nu9 (a:List Int) (b:Int):Link Nt LL (cq [0,0,1,1] (bodyOf Tryd.f23)) (aq [0,0,1,1] N4) ⟨mkE 58 0 [(0,dL a),(1,dI b),(5,.slc 0)],[some (sI ([]:List Int))]⟩ (N5m) (fun(t:Unit)=>(Exit.normal,⟨mkE 58 0 [(0,dL a),(1,dI b),(5,.slc 0),(6,dI 0)],[some (sI ([]:List Int))]⟩)):= .of fun K h=>by
 simp only[N5m,wpW] at h
 exact .of (by kernel_rfl) h
theorem Nih (a:List Int) (b c:Int) (d:List Int):Link Nt LL (cq [0,0,0,1,0,1,1] (bodyOf Tryd.f23)) (aq [0,0,0,1,0,1,1] N4) ⟨mkE 58 0 [(0,dL a),(1,dI b),(5,.slc 0),(6,dI c)],[some (sI d)]⟩ (N4o a c d) (Sum.elim (fun(t:Unit)=>(Exit.normal,⟨mkE 58 0 [(0,dL a),(1,dI b),(5,.slc 0),(6,dI c)],[some (sI d)]⟩)) (fun(t:(List Int))=>((Exit.exit 0),⟨mkE 58 0 [(5,.slc 0)],[some (sI t)]⟩))):= .of fun K h=>by
 simp only[N4o,wpW] at h
 exact .of (by kernel_rfl) h
theorem Nop (a:List Int) (b c:Int) (d:List Int):Link Nt LL (Code.seq (cq [0,0,0,1,0,0,1,0,1,1] (bodyOf Tryd.f23)) (Code.seq (cq [0,1,0,0,1,0,0,1,0,1,1] (bodyOf Tryd.f23)) (cq [0,1,1,0,0,1,0,0,1,0,1,1] (bodyOf Tryd.f23)))) (Ann.seq (aq [0,0,0,1,0,0,1,0,1,1] N4) (Ann.seq (aq [0,1,0,0,1,0,0,1,0,1,1] N4) (aq [0,1,1,0,0,1,0,0,1,0,1,1] N4))) ⟨mkE 58 0 [(0,dL a),(1,dI b),(5,.slc 0),(6,dI c)],[some (sI d)]⟩ (N6k a b c) (Sum.elim (fun(t:Int)=>(Exit.normal,⟨mkE 58 0 [(0,dL a),(1,dI b),(5,.slc 0),(6,dI c),(7,dI t),(8,dI 0)],[some (sI d)]⟩)) (fun(t:Unit)=>((Exit.exit 1),⟨mkE 58 0 [(0,dL a),(1,dI b),(5,.slc 0),(6,dI c)],[some (sI d)]⟩))):= .of fun K h=>by
 simp only[N6k,wpW] at h
 exact .of (by kernel_rfl) h
theorem Nwd (a:List Int) (b c d g:Int) (i:List Int):Link Nt LL (cq [0,0,0,1,1,1,0,0,1,0,0,1,0,1,1] (bodyOf Tryd.f23)) (aq [0,0,0,1,1,1,0,0,1,0,0,1,0,1,1] N4) ⟨mkE 58 0 [(0,dL a),(1,dI b),(5,.slc 0),(6,dI c),(7,dI d),(8,dI g)],[some (sI i)]⟩ (N43 d g i) (Sum.elim (fun(t:Int)=>(Exit.normal,⟨mkE 58 0 [(0,dL a),(1,dI b),(5,.slc 0),(6,dI c),(7,dI d),(8,dI t)],[some (sI i)]⟩)) (fun(t:Int)=>((Exit.exit 2),⟨mkE 58 0 [(0,dL a),(1,dI b),(5,.slc 0),(6,dI c),(7,dI d),(8,dI t)],[some (sI i)]⟩))):= .of fun K h=>by
 simp only[N43,wpW] at h
 exact .of (by kernel_rfl) h
theorem Nrz (a:List Int) (b c d g:Int) (i:List Int):Link Nt LL (cq [1,1,1,1,0,0,1,0,0,1,0,1,1] (bodyOf Tryd.f23)) (aq [1,1,1,1,0,0,1,0,0,1,0,1,1] N4) ⟨mkE 58 0 [(0,dL a),(1,dI b),(5,.slc 0),(6,dI c),(7,dI d),(8,dI g)],[some (sI i)]⟩ (N7r d g i) (fun(t:(List Int))=>(Exit.normal,⟨mkE 58 0 [(0,dL a),(1,dI b),(5,.slc 0),(6,dI c)],[some (sI t)]⟩)):= .of fun K h=>by
 simp only[N7r,wpW] at h
 exact .of (by kernel_rfl) h
theorem Nup (a:List Int) (b c:Int) (d:List Int):Link Nt LL (cq [1,1,0,0,1,0,1,1] (bodyOf Tryd.f23)) (aq [1,1,0,0,1,0,1,1] N4) ⟨mkE 58 0 [(0,dL a),(1,dI b),(5,.slc 0),(6,dI c)],[some (sI d)]⟩ (N5a c) (fun(t:Int)=>(Exit.normal,⟨mkE 58 0 [(0,dL a),(1,dI b),(5,.slc 0),(6,dI t)],[some (sI d)]⟩)):= .of fun K h=>by
 simp only[N5a,wpW] at h
 exact .of (by kernel_rfl) h
theorem Nvb (a:List Int):Link Nt LL (cq [1,1,1] (bodyOf Tryd.f23)) (aq [1,1,1] N4) ⟨mkE 58 0 [(5,.slc 0)],[some (sI a)]⟩ (N80 a) (fun(t:(List Int))=>(Exit.ret,⟨mkE 58 0 [(4,.slc 0)],[some (sI t)]⟩)):= .of fun K h=>by
 simp only[N80,wpW] at h
 exact .of (by kernel_rfl) h
theorem Njj (b:List Int) (d:Int) {r:AV} {H':Heap} (h:(Ans.mk _ (N2k b d) (fun(t:(List Int))=>(.slc 0,[some (sI t)])) [] none).run=some (r,H')):Awp Nt LL (bodyOf Tryd.f23) N4 ⟨mkE 58 0 [(0,dL b),(1,dI d)],[]⟩ (Ret (tlook tys) Tryd.f23.results.toList r H'):=
 ret_of' (Link.cast (by kernel_rfl) (by kernel_rfl) (link_group (c:=(cq [0,1] (bodyOf Tryd.f23))) (a:=(aq [0,1] N4)) [(cq [0] (bodyOf Tryd.f23))] [(aq [0] N4)] rfl (link_seq (Noy b d) (fun(t:Unit)=>(link_seq (link_seq (Nu9 b d) (fun(t:Unit)=>(link_block (fin2:=(fun(t:(List Int))=>(Exit.normal,⟨mkE 58 0 [(5,.slc 0)],[some (sI t)]⟩))) (id:=0) (link_loop (mk:=fun(s:Int×(List Int))=>⟨mkE 58 0 [(0,dL b),(1,dI d),(5,.slc 0),(6,dI s.1)],[some (sI s.2)]⟩) (fin:=(fun(t:(List Int))=>((Exit.exit 0),⟨mkE 58 0 [(5,.slc 0)],[some (sI t)]⟩))) (by
 rintro t f K h
 ·exact h) (fun s=>link_map (link_seq2 (Nih b d s.1 s.2) (fun(t:Unit)=>(link_map (fin2:=(Sum.elim (fun(t:Int×(List Int))=>(Exit.normal,⟨mkE 58 0 [(0,dL b),(1,dI d),(5,.slc 0),(6,dI t.1)],[some (sI t.2)]⟩)) (fun(t:(List Int))=>((Exit.exit 0),⟨mkE 58 0 [(5,.slc 0)],[some (sI t)]⟩)))) (link_seq (link_block (fin2:=(fun(t:(List Int))=>(Exit.normal,⟨mkE 58 0 [(0,dL b),(1,dI d),(5,.slc 0),(6,dI s.1)],[some (sI t)]⟩))) (id:=1) (link_group (c:=(cq [0,1,1,0,0,1,0,0,1,0,1,1] (bodyOf Tryd.f23))) (a:=(aq [0,1,1,0,0,1,0,0,1,0,1,1] N4)) [(cq [0,0,0,1,0,0,1,0,1,1] (bodyOf Tryd.f23)),(cq [0,1,0,0,1,0,0,1,0,1,1] (bodyOf Tryd.f23))] [(aq [0,0,0,1,0,0,1,0,1,1] N4),(aq [0,1,0,0,1,0,0,1,0,1,1] N4)] rfl (link_seq2 (Nop b d s.1 s.2) (fun(t:Int)=>(link_map (fin2:=(Sum.elim (fun(t:(List Int))=>(Exit.normal,⟨mkE 58 0 [(0,dL b),(1,dI d),(5,.slc 0),(6,dI s.1)],[some (sI t)]⟩)) (fun(t:Unit)=>((Exit.exit 1),⟨mkE 58 0 [(0,dL b),(1,dI d),(5,.slc 0),(6,dI s.1)],[some (sI s.2)]⟩)))) (link_seq (link_block (fin2:=(fun(t22:Int)=>(Exit.normal,⟨mkE 58 0 [(0,dL b),(1,dI d),(5,.slc 0),(6,dI s.1),(7,dI t),(8,dI t22)],[some (sI s.2)]⟩))) (id:=2) (link_loop (mk:=fun(s46:Int)=>⟨mkE 58 0 [(0,dL b),(1,dI d),(5,.slc 0),(6,dI s.1),(7,dI t),(8,dI s46)],[some (sI s.2)]⟩) (fin:=(fun(t22:Int)=>((Exit.exit 2),⟨mkE 58 0 [(0,dL b),(1,dI d),(5,.slc 0),(6,dI s.1),(7,dI t),(8,dI t22)],[some (sI s.2)]⟩))) (by
 rintro t22 f K h
 ·exact h) (fun s46=>link_map (Nwd b d s.1 t s46 s.2) (Sum.elim (fun(t22:Int)=>Sum.inl t22) (fun(t22:Int)=>Sum.inr t22)) (by
 rintro(t22|t22)
 ·kernel_rfl
 ·kernel_rfl)) 0) (fun(t22:Int)=>t22) (by
 rintro t22 K h
 ·exact Eq.mp (by kernel_rfl) h)) (fun(t6:Int)=>(Nrz b d s.1 t t6 s.2))) (fun(u:(List Int))=>(Sum.inl u)) (by
 rintro t
 ·kernel_rfl))) (fun(t:Unit)=>(Sum.inr t)) (by
 rintro t
 ·kernel_rfl) (by
 rintro t f K h
 ·exact h))) (Sum.elim (fun(t:(List Int))=>t) (fun(t:Unit)=>s.2)) (by
 rintro(t|t) K h
 ·exact Eq.mp (by kernel_rfl) h
 ·exact Eq.mp (by kernel_rfl) h)) (fun(t:(List Int))=>(link_map (fin2:=(fun(t:Int×(List Int))=>(Exit.normal,⟨mkE 58 0 [(0,dL b),(1,dI d),(5,.slc 0),(6,dI t.1)],[some (sI t.2)]⟩))) (Nup b d s.1 t) (fun(u:Int)=>(u,t)) (by
 rintro t
 ·kernel_rfl)))) (fun(t:Int×(List Int))=>(Sum.inl (t.1,t.2))) (by
 rintro t
 ·kernel_rfl))) (fun(t:(List Int))=>(Sum.inr t)) (by
 rintro t
 ·kernel_rfl) (by
 rintro t f K h
 ·exact h)) (Sum.elim (fun(t:Int×(List Int))=>Sum.inl (t.1,t.2)) (fun(t:(List Int))=>Sum.inr t)) (by
 rintro(t|t)
 ·kernel_rfl
 ·kernel_rfl)) (0,([]:List Int))) (fun(t:(List Int))=>t) (by
 rintro t K h
 ·exact Eq.mp (by kernel_rfl) h)))) (fun(t:(List Int))=>(Nvb t))))))) (by unfold N2k;kernel_rfl) (by
 intro t
 exact ret_mk [.slc 0] (by kernel_rfl) (by kernel_rfl) (by kernel_rfl) (by kernel_rfl)) h
def Ncx:Fun:=fun avs H=>
 match avs,H with
 |[.dat (.list (.int .i64)) a,.dat (.int .i64) b],[]=>⟨_,N2k a b,fun(t:(List Int))=>(.slc 0,[some (sI t)]),[],none⟩
 |_,_=>Ans.no
theorem Nss:Sound Tryd.prog 23 Ncx:=by
 refine fn_sound' (C:=Nt) (c:=bodyOf Tryd.f23) (cok_of tys_ok (allc Nkx (allc Npc alln)) (allc Tryd.call48 (allc Tryd.call47 alln)) (by kernel_rfl)) Tryd.func23 (by kernel_rfl) LL N4 ?_
 intro avs H r H' h
 unfold Ncx at h
 split at h
 ·refine Awp.cast ?_ ?_ ?_ (Njj _ _ h)<;>kernel_rfl
 ·simp[Ans.no,Ans.run] at h
def N3:Ann:=(.seq (.leaf [0,1]) (.seq (.leaf [0,1,5]) (.seq (.seq (.leaf [0,1,5,6]) (.block (.loop (.seq (.seq (.leaf [0,1,5,6,15]) (.cond (.leaf [0,1,5,6]) (.leaf [5]))) (.seq (.block (.seq (.leaf [0,1,5,6,7]) (.seq (.seq (.leaf [0,1,5,6,7,8]) (.block (.loop (.seq (.seq (.leaf [0,1,5,6,7,8,19]) (.cond (.leaf [0,1,5,6,7,8]) (.leaf [0,1,5,6,7]))) (.seq (.block (.seq (.leaf [0,1,5,6,7,8,9]) (.seq (.leaf [0,1,5,6,7,8,9,10]) (.block (.loop (.seq (.seq (.leaf [0,1,5,6,7,8,9,10,26]) (.cond (.leaf [0,1,5,6,7,8,9,10]) (.leaf [0,1,5,6,7,8]))) (.seq (.block (.seq (.leaf [0,1,5,6,7,8,9,10,34]) (.cond (.seq (.leaf [0,1,5,6,7,8,9,10]) (.seq (.leaf [0,1,5,6,7,8,9,10]) (.seq (.leaf [0,1,5,6,7,8,9,10,50]) (.cond (.leaf [0,1,5,6,7,8,9,10]) (.leaf [0,1,5,6,7,8,9,10]))))) (.leaf [0,1,5,6,7,8,9,10])))) (.leaf [0,1,5,6,7,8,9,10])))))))) (.leaf [0,1,5,6,7,8])))))) (.seq (.leaf [0,1,5,6,7,63]) (.cond (.leaf [0,1,5,6]) (.leaf [0,1,5,6])))))) (.leaf [0,1,5,6])))))) (.seq (.leaf [4]) (.leaf [4])))))
noncomputable def N9:Ctx:=⟨tlook tys,olook [],ioF,0,false,[]⟩
theorem Nnv (a:List Int) (b:Bool):Link N9 LL (Code.seq (cq [0] (bodyOf Tryd.f22)) (cq [0,1] (bodyOf Tryd.f22))) (Ann.seq (aq [0] N3) (aq [0,1] N3)) ⟨mkE 66 0 [(0,dL a),(1,dB b)],[]⟩ (N5b) (fun(t:Unit)=>(Exit.normal,⟨mkE 66 0 [(0,dL a),(1,dB b),(5,dI (-1))],[]⟩)):= .of fun K h=>by
 simp only[N5b,wpW] at h
 exact .of (by kernel_rfl) h
theorem Ntr (a:List Int) (b:Bool):Link N9 LL (cq [0,0,1,1] (bodyOf Tryd.f22)) (aq [0,0,1,1] N3) ⟨mkE 66 0 [(0,dL a),(1,dB b),(5,dI (-1))],[]⟩ (N7v) (fun(t:Unit)=>(Exit.normal,⟨mkE 66 0 [(0,dL a),(1,dB b),(5,dI (-1)),(6,dI 0)],[]⟩)):= .of fun K h=>by
 simp only[N7v,wpW] at h
 exact .of (by kernel_rfl) h
theorem Noc (a:List Int) (b:Bool) (c d:Int):Link N9 LL (cq [0,0,0,1,0,1,1] (bodyOf Tryd.f22)) (aq [0,0,0,1,0,1,1] N3) ⟨mkE 66 0 [(0,dL a),(1,dB b),(5,dI c),(6,dI d)],[]⟩ (N4q a c d) (Sum.elim (fun(t:Unit)=>(Exit.normal,⟨mkE 66 0 [(0,dL a),(1,dB b),(5,dI c),(6,dI d)],[]⟩)) (fun(t:Int)=>((Exit.exit 0),⟨mkE 66 0 [(5,dI t)],[]⟩))):= .of fun K h=>by
 simp only[N4q,wpW] at h
 exact .of (by kernel_rfl) h
theorem Nnw (a:List Int) (b:Bool) (c d:Int):Link N9 LL (cq [0,0,0,1,0,0,1,0,1,1] (bodyOf Tryd.f22)) (aq [0,0,0,1,0,0,1,0,1,1] N3) ⟨mkE 66 0 [(0,dL a),(1,dB b),(5,dI c),(6,dI d)],[]⟩ (N5j) (fun(t:Unit)=>(Exit.normal,⟨mkE 66 0 [(0,dL a),(1,dB b),(5,dI c),(6,dI d),(7,dI 0)],[]⟩)):= .of fun K h=>by
 simp only[N5j,wpW] at h
 exact .of (by kernel_rfl) h
theorem Nx1 (a:List Int) (b:Bool) (c d:Int):Link N9 LL (cq [0,0,1,0,0,1,0,0,1,0,1,1] (bodyOf Tryd.f22)) (aq [0,0,1,0,0,1,0,0,1,0,1,1] N3) ⟨mkE 66 0 [(0,dL a),(1,dB b),(5,dI c),(6,dI d),(7,dI 0)],[]⟩ (N6j) (fun(t:Unit)=>(Exit.normal,⟨mkE 66 0 [(0,dL a),(1,dB b),(5,dI c),(6,dI d),(7,dI 0),(8,dI 0)],[]⟩)):= .of fun K h=>by
 simp only[N6j,wpW] at h
 exact .of (by kernel_rfl) h
theorem Nu0 (a:List Int) (b:Bool) (c d g i:Int):Link N9 LL (cq [0,0,0,1,0,1,0,0,1,0,0,1,0,1,1] (bodyOf Tryd.f22)) (aq [0,0,0,1,0,1,0,0,1,0,0,1,0,1,1] N3) ⟨mkE 66 0 [(0,dL a),(1,dB b),(5,dI c),(6,dI d),(7,dI g),(8,dI i)],[]⟩ (N58 g i) (Sum.elim (fun(t:Unit)=>(Exit.normal,⟨mkE 66 0 [(0,dL a),(1,dB b),(5,dI c),(6,dI d),(7,dI g),(8,dI i)],[]⟩)) (fun(t:Int)=>((Exit.exit 2),⟨mkE 66 0 [(0,dL a),(1,dB b),(5,dI c),(6,dI d),(7,dI t)],[]⟩))):= .of fun K h=>by
 simp only[N58,wpW] at h
 exact .of (by kernel_rfl) h
theorem Nlg (a:List Int) (b:Bool) (c d g i:Int):Link N9 LL (Code.seq (cq [0,0,0,1,0,0,1,0,1,0,0,1,0,0,1,0,1,1] (bodyOf Tryd.f22)) (cq [0,1,0,0,1,0,0,1,0,1,0,0,1,0,0,1,0,1,1] (bodyOf Tryd.f22))) (Ann.seq (aq [0,0,0,1,0,0,1,0,1,0,0,1,0,0,1,0,1,1] N3) (aq [0,1,0,0,1,0,0,1,0,1,0,0,1,0,0,1,0,1,1] N3)) ⟨mkE 66 0 [(0,dL a),(1,dB b),(5,dI c),(6,dI d),(7,dI g),(8,dI i)],[]⟩ (N5g a) (fun(t:Int)=>(Exit.normal,⟨mkE 66 0 [(0,dL a),(1,dB b),(5,dI c),(6,dI d),(7,dI g),(8,dI i),(9,dI 0),(10,dI t)],[]⟩)):= .of fun K h=>by
 simp only[N5g,wpW] at h
 exact .of (by kernel_rfl) h
theorem Nk1 (a:List Int) (b:Bool) (c d g i j k:Int):Link N9 LL (cq [0,0,1,1,0,0,1,0,0,1,0,1,0,0,1,0,0,1,0,1,1] (bodyOf Tryd.f22)) (aq [0,0,1,1,0,0,1,0,0,1,0,1,0,0,1,0,0,1,0,1,1] N3) ⟨mkE 66 0 [(0,dL a),(1,dB b),(5,dI c),(6,dI d),(7,dI g),(8,dI i),(9,dI j),(10,dI k)],[]⟩ (N3c a b d g i j k) (Sum.elim (fun(t:Int×Int×Int)=>(Exit.normal,⟨mkE 66 0 [(0,dL a),(1,dB b),(5,dI c),(6,dI d),(7,dI t.1),(8,dI i),(9,dI t.2.1),(10,dI t.2.2)],[]⟩)) (fun(t:Int)=>((Exit.exit 4),⟨mkE 66 0 [(0,dL a),(1,dB b),(5,dI c),(6,dI d),(7,dI t),(8,dI i)],[]⟩))):= .of fun K h=>by
 simp only[N3c,wpW] at h
 exact .of (by kernel_rfl) h
theorem Nn1 (a:List Int) (b:Bool) (c d g i:Int):Link N9 LL (cq [1,1,0,0,1,0,1,0,0,1,0,0,1,0,1,1] (bodyOf Tryd.f22)) (aq [1,1,0,0,1,0,1,0,0,1,0,0,1,0,1,1] N3) ⟨mkE 66 0 [(0,dL a),(1,dB b),(5,dI c),(6,dI d),(7,dI g),(8,dI i)],[]⟩ (N5q i) (fun(t:Int)=>(Exit.normal,⟨mkE 66 0 [(0,dL a),(1,dB b),(5,dI c),(6,dI d),(7,dI g),(8,dI t)],[]⟩)):= .of fun K h=>by
 simp only[N5q,wpW] at h
 exact .of (by kernel_rfl) h
theorem Ntz (a:List Int) (b:Bool) (c d g:Int):Link N9 LL (cq [1,1,0,0,1,0,0,1,0,1,1] (bodyOf Tryd.f22)) (aq [1,1,0,0,1,0,0,1,0,1,1] N3) ⟨mkE 66 0 [(0,dL a),(1,dB b),(5,dI c),(6,dI d),(7,dI g)],[]⟩ (N71 c g) (fun(t:Int)=>(Exit.normal,⟨mkE 66 0 [(0,dL a),(1,dB b),(5,dI t),(6,dI d)],[]⟩)):= .of fun K h=>by
 simp only[N71,wpW] at h
 exact .of (by kernel_rfl) h
theorem Nsd (a:List Int) (b:Bool) (c d:Int):Link N9 LL (cq [1,1,0,0,1,0,1,1] (bodyOf Tryd.f22)) (aq [1,1,0,0,1,0,1,1] N3) ⟨mkE 66 0 [(0,dL a),(1,dB b),(5,dI c),(6,dI d)],[]⟩ (N5k d) (fun(t:Int)=>(Exit.normal,⟨mkE 66 0 [(0,dL a),(1,dB b),(5,dI c),(6,dI t)],[]⟩)):= .of fun K h=>by
 simp only[N5k,wpW] at h
 exact .of (by kernel_rfl) h
theorem Nqe (a:Int):Link N9 LL (cq [1,1,1] (bodyOf Tryd.f22)) (aq [1,1,1] N3) ⟨mkE 66 0 [(5,dI a)],[]⟩ (N5w a) (fun(t:Int)=>(Exit.ret,⟨mkE 66 0 [(4,dI t)],[]⟩)):= .of fun K h=>by
 simp only[N5w,wpW] at h
 exact .of (by kernel_rfl) h
theorem Nmc (b:List Int) (d:Bool) {r:AV} {H':Heap} (h:(Ans.mk _ (N2f b d) (fun(t:Int)=>(dI t,[])) [] none).run=some (r,H')):Awp N9 LL (bodyOf Tryd.f22) N3 ⟨mkE 66 0 [(0,dL b),(1,dB d)],[]⟩ (Ret (tlook tys) Tryd.f22.results.toList r H'):=
 ret_of' (Link.cast (by kernel_rfl) (by kernel_rfl) (link_group (c:=(cq [0,1] (bodyOf Tryd.f22))) (a:=(aq [0,1] N3)) [(cq [0] (bodyOf Tryd.f22))] [(aq [0] N3)] rfl (link_seq (Nnv b d) (fun(t:Unit)=>(link_seq (link_seq (Ntr b d) (fun(t:Unit)=>(link_block (fin2:=(fun(t:Int)=>(Exit.normal,⟨mkE 66 0 [(5,dI t)],[]⟩))) (id:=0) (link_loop (mk:=fun(s:Int×Int)=>⟨mkE 66 0 [(0,dL b),(1,dB d),(5,dI s.1),(6,dI s.2)],[]⟩) (fin:=(fun(t:Int)=>((Exit.exit 0),⟨mkE 66 0 [(5,dI t)],[]⟩))) (by
 rintro t f K h
 ·exact h) (fun s=>link_map (link_seq2 (Noc b d s.1 s.2) (fun(t:Unit)=>(link_map (fin2:=(Sum.elim (fun(t:Int×Int)=>(Exit.normal,⟨mkE 66 0 [(0,dL b),(1,dB d),(5,dI t.1),(6,dI t.2)],[]⟩)) (fun(t:Int)=>((Exit.exit 0),⟨mkE 66 0 [(5,dI t)],[]⟩)))) (link_seq (link_block (fin2:=(fun(t:Int)=>(Exit.normal,⟨mkE 66 0 [(0,dL b),(1,dB d),(5,dI t),(6,dI s.2)],[]⟩))) (id:=1) (link_seq (Nnw b d s.1 s.2) (fun(t:Unit)=>(link_seq (link_seq (Nx1 b d s.1 s.2) (fun(t:Unit)=>(link_block (fin2:=(fun(t:Int)=>(Exit.normal,⟨mkE 66 0 [(0,dL b),(1,dB d),(5,dI s.1),(6,dI s.2),(7,dI t)],[]⟩))) (id:=2) (link_loop (mk:=fun(s58:Int×Int)=>⟨mkE 66 0 [(0,dL b),(1,dB d),(5,dI s.1),(6,dI s.2),(7,dI s58.1),(8,dI s58.2)],[]⟩) (fin:=(fun(t:Int)=>((Exit.exit 2),⟨mkE 66 0 [(0,dL b),(1,dB d),(5,dI s.1),(6,dI s.2),(7,dI t)],[]⟩))) (by
 rintro t f K h
 ·exact h) (fun s58=>link_map (link_seq2 (Nu0 b d s.1 s.2 s58.1 s58.2) (fun(t:Unit)=>(link_map (fin2:=(Sum.elim (fun(t:Int×Int)=>(Exit.normal,⟨mkE 66 0 [(0,dL b),(1,dB d),(5,dI s.1),(6,dI s.2),(7,dI t.1),(8,dI t.2)],[]⟩)) (fun(t:Int)=>((Exit.exit 2),⟨mkE 66 0 [(0,dL b),(1,dB d),(5,dI s.1),(6,dI s.2),(7,dI t)],[]⟩)))) (link_seq (link_block (fin2:=(fun(t:Int)=>(Exit.normal,⟨mkE 66 0 [(0,dL b),(1,dB d),(5,dI s.1),(6,dI s.2),(7,dI t),(8,dI s58.2)],[]⟩))) (id:=3) (link_group (c:=(cq [0,1,0,0,1,0,0,1,0,1,0,0,1,0,0,1,0,1,1] (bodyOf Tryd.f22))) (a:=(aq [0,1,0,0,1,0,0,1,0,1,0,0,1,0,0,1,0,1,1] N3)) [(cq [0,0,0,1,0,0,1,0,1,0,0,1,0,0,1,0,1,1] (bodyOf Tryd.f22))] [(aq [0,0,0,1,0,0,1,0,1,0,0,1,0,0,1,0,1,1] N3)] rfl (link_seq (Nlg b d s.1 s.2 s58.1 s58.2) (fun(t:Int)=>(link_block (fin2:=(fun(t24:Int)=>(Exit.normal,⟨mkE 66 0 [(0,dL b),(1,dB d),(5,dI s.1),(6,dI s.2),(7,dI t24),(8,dI s58.2)],[]⟩))) (id:=4) (link_loop (mk:=fun(s47:Int×Int×Int)=>⟨mkE 66 0 [(0,dL b),(1,dB d),(5,dI s.1),(6,dI s.2),(7,dI s47.1),(8,dI s58.2),(9,dI s47.2.1),(10,dI s47.2.2)],[]⟩) (fin:=(fun(t24:Int)=>((Exit.exit 4),⟨mkE 66 0 [(0,dL b),(1,dB d),(5,dI s.1),(6,dI s.2),(7,dI t24),(8,dI s58.2)],[]⟩))) (by
 rintro t24 f K h
 ·exact h) (fun s47=>link_map (Nk1 b d s.1 s.2 s47.1 s58.2 s47.2.1 s47.2.2) (Sum.elim (fun(t24:Int×Int×Int)=>Sum.inl (t24.1,t24.2.1,t24.2.2)) (fun(t24:Int)=>Sum.inr t24)) (by
 rintro(t24|t24)
 ·kernel_rfl
 ·kernel_rfl)) (s58.1,0,t)) (fun(t24:Int)=>t24) (by
 rintro t24 K h
 ·exact Eq.mp (by kernel_rfl) h))))) (fun(t:Int)=>t) (by
 rintro t K h
 ·exact Eq.mp (by kernel_rfl) h)) (fun(t:Int)=>(link_map (fin2:=(fun(t:Int×Int)=>(Exit.normal,⟨mkE 66 0 [(0,dL b),(1,dB d),(5,dI s.1),(6,dI s.2),(7,dI t.1),(8,dI t.2)],[]⟩))) (Nn1 b d s.1 s.2 t s58.2) (fun(u:Int)=>(t,u)) (by
 rintro t
 ·kernel_rfl)))) (fun(t:Int×Int)=>(Sum.inl (t.1,t.2))) (by
 rintro t
 ·kernel_rfl))) (fun(t:Int)=>(Sum.inr t)) (by
 rintro t
 ·kernel_rfl) (by
 rintro t f K h
 ·exact h)) (Sum.elim (fun(t:Int×Int)=>Sum.inl (t.1,t.2)) (fun(t:Int)=>Sum.inr t)) (by
 rintro(t|t)
 ·kernel_rfl
 ·kernel_rfl)) (0,0)) (fun(t:Int)=>t) (by
 rintro t K h
 ·exact Eq.mp (by kernel_rfl) h)))) (fun(t:Int)=>(Ntz b d s.1 s.2 t))))) (fun(t:Int)=>t) (by
 rintro t K h
 ·exact Eq.mp (by kernel_rfl) h)) (fun(t:Int)=>(link_map (fin2:=(fun(t:Int×Int)=>(Exit.normal,⟨mkE 66 0 [(0,dL b),(1,dB d),(5,dI t.1),(6,dI t.2)],[]⟩))) (Nsd b d t s.2) (fun(u:Int)=>(t,u)) (by
 rintro t
 ·kernel_rfl)))) (fun(t:Int×Int)=>(Sum.inl (t.1,t.2))) (by
 rintro t
 ·kernel_rfl))) (fun(t:Int)=>(Sum.inr t)) (by
 rintro t
 ·kernel_rfl) (by
 rintro t f K h
 ·exact h)) (Sum.elim (fun(t:Int×Int)=>Sum.inl (t.1,t.2)) (fun(t:Int)=>Sum.inr t)) (by
 rintro(t|t)
 ·kernel_rfl
 ·kernel_rfl)) ((-1),0)) (fun(t:Int)=>t) (by
 rintro t K h
 ·exact Eq.mp (by kernel_rfl) h)))) (fun(t:Int)=>(Nqe t))))))) (by unfold N2f;kernel_rfl) (by
 intro t
 exact ret_mk [dI t] (by kernel_rfl) (by kernel_rfl) (by kernel_rfl) (by kernel_rfl)) h
def N98:Fun:=fun avs H=>
 match avs,H with
 |[.dat (.list (.int .i64)) a,.dat .bool b],[]=>⟨_,N2f a b,fun(t:Int)=>(dI t,[]),[],none⟩
 |_,_=>Ans.no
theorem Ns1:Sound Tryd.prog 22 N98:=by
 refine fn_sound' (C:=N9) (c:=bodyOf Tryd.f22) (cok_of tys_ok (alln) (alln) (by kernel_rfl)) Tryd.func22 (by kernel_rfl) LL N3 ?_
 intro avs H r H' h
 unfold N98 at h
 split at h
 ·refine Awp.cast ?_ ?_ ?_ (Nmc _ _ h)<;>kernel_rfl
 ·simp[Ans.no,Ans.run] at h
def Nm:Ann:=(.seq (.leaf [0]) (.seq (.seq (.leaf [0,7]) (.cond (.seq (.leaf [2]) (.leaf [2])) (.leaf [0]))) (.seq (.leaf [0,3]) (.seq (.seq (.leaf [0,3,4]) (.block (.loop (.seq (.seq (.leaf [0,3,4,14]) (.cond (.leaf [0,3,4]) (.leaf [3]))) (.seq (.block (.draw [3,10] [0,1,2,4,5,6,7,8,9,3,10,11,12] [] [0,3,4])) (.leaf [0,3,4])))))) (.seq (.leaf [2]) (.leaf [2]))))))
noncomputable def N44:Ctx:=⟨tlook tys,olook [(21,N4p),(23,Ncx),(22,N98)],ioF,0,false,[]⟩
theorem Nkr (a:List Int):Link N44 LL (Code.seq (cq [0] (bodyOf Tryd.f7)) (Code.seq (cq [0,1] (bodyOf Tryd.f7)) (cq [0,1,1] (bodyOf Tryd.f7)))) (Ann.seq (aq [0] Nm) (Ann.seq (aq [0,1] Nm) (aq [0,1,1] Nm))) ⟨mkE 30 0 [(0,dL a)],[]⟩ (N60 a) (Sum.elim (fun(t:Int)=>(Exit.normal,⟨mkE 30 0 [(0,dL a),(3,dI t)],[]⟩)) (fun(t:Int)=>(Exit.ret,⟨mkE 30 0 [(2,dI t)],[]⟩))):= .of fun K h=>by
 simp only[N60,wpW] at h
 exact .of (by kernel_rfl) h
theorem Nwk (a:List Int) (b:Int):Link N44 LL (cq [0,0,1,1,1] (bodyOf Tryd.f7)) (aq [0,0,1,1,1] Nm) ⟨mkE 30 0 [(0,dL a),(3,dI b)],[]⟩ (N6m) (fun(t:Unit)=>(Exit.normal,⟨mkE 30 0 [(0,dL a),(3,dI b),(4,dI 1)],[]⟩)):= .of fun K h=>by
 simp only[N6m,wpW] at h
 exact .of (by kernel_rfl) h
theorem Njl (a:List Int) (b c:Int):Link N44 LL (cq [0,0,1,0,1,1,1] (bodyOf Tryd.f7)) (aq [0,0,1,0,1,1,1] Nm) ⟨mkE 30 0 [(0,dL a),(3,dI b),(4,dI c)],[]⟩ (N2u a b c) (Sum.elim (fun(t:Int×Int)=>(Exit.normal,⟨mkE 30 0 [(0,dL a),(3,dI t.1),(4,dI t.2)],[]⟩)) (fun(t:Int)=>((Exit.exit 0),⟨mkE 30 0 [(3,dI t)],[]⟩))):= .of fun K h=>by
 simp only[N2u,wpW] at h
 exact .of (by kernel_rfl) h
theorem Nut (a:Int):Link N44 LL (cq [1,1,1,1] (bodyOf Tryd.f7)) (aq [1,1,1,1] Nm) ⟨mkE 30 0 [(3,dI a)],[]⟩ (Naa a) (fun(t:Int)=>(Exit.ret,⟨mkE 30 0 [(2,dI t)],[]⟩)):= .of fun K h=>by
 simp only[Naa,wpW] at h
 exact .of (by kernel_rfl) h
theorem Nlk (b:List Int) {r:AV} {H':Heap} (h:(Ans.mk _ (N1o b) (fun(t:Int)=>(dI t,[])) [] none).run=some (r,H')):Awp N44 LL (bodyOf Tryd.f7) Nm ⟨mkE 30 0 [(0,dL b)],[]⟩ (Ret (tlook tys) Tryd.f7.results.toList r H'):=
 ret_of' (Link.cast (by kernel_rfl) (by kernel_rfl) (link_group (c:=(cq [0,1,1] (bodyOf Tryd.f7))) (a:=(aq [0,1,1] Nm)) [(cq [0] (bodyOf Tryd.f7)),(cq [0,1] (bodyOf Tryd.f7))] [(aq [0] Nm),(aq [0,1] Nm)] rfl (link_seq2 (Nkr b) (fun(t:Int)=>(link_seq (link_seq (Nwk b t) (fun(t49:Unit)=>(link_block (fin2:=(fun(t49:Int)=>(Exit.normal,⟨mkE 30 0 [(3,dI t49)],[]⟩))) (id:=0) (link_loop (mk:=fun(s:Int×Int)=>⟨mkE 30 0 [(0,dL b),(3,dI s.1),(4,dI s.2)],[]⟩) (fin:=(fun(t49:Int)=>((Exit.exit 0),⟨mkE 30 0 [(3,dI t49)],[]⟩))) (by
 rintro t49 f K h
 ·exact h) (fun s=>link_map (Njl b s.1 s.2) (Sum.elim (fun(t49:Int×Int)=>Sum.inl (t49.1,t49.2)) (fun(t49:Int)=>Sum.inr t49)) (by
 rintro(t49|t49)
 ·kernel_rfl
 ·kernel_rfl)) (t,1)) (fun(t49:Int)=>t49) (by
 rintro t49 K h
 ·exact Eq.mp (by kernel_rfl) h)))) (fun(t49:Int)=>(Nut t49)))) (fun(t:Int)=>t) (by
 rintro t
 ·kernel_rfl) (by
 rintro t f K h
 ·exact h)))) (by unfold N1o;kernel_rfl) (by
 intro t
 exact ret_mk [dI t] (by kernel_rfl) (by kernel_rfl) (by kernel_rfl) (by kernel_rfl)) h
def Ncz:Fun:=fun avs H=>
 match avs,H with
 |[.dat (.list (.int .i64)) a],[]=>⟨_,N1o a,fun(t:Int)=>(dI t,[]),[],none⟩
 |_,_=>Ans.no
theorem Nis:Sound Tryd.prog 7 Ncz:=by
 refine fn_sound' (C:=N44) (c:=bodyOf Tryd.f7) (cok_of tys_ok (allc Nb5 (allc Nss (allc Ns1 alln))) (allc Tryd.call21 (allc Tryd.call23 (allc Tryd.call22 alln))) (by kernel_rfl)) Tryd.func7 (by kernel_rfl) LL Nm ?_
 intro avs H r H' h
 unfold Ncz at h
 split at h
 ·refine Awp.cast ?_ ?_ ?_ (Nlk _ h)<;>kernel_rfl
 ·simp[Ans.no,Ans.run] at h
def N91:Ann:=(.seq (.leaf []) (.seq (.leaf [0]) (.leaf [0])))
noncomputable def Nbp:Ctx:=⟨tlook tys,olook [(8,Nv)],ioF,0,false,[]⟩
theorem Nth:Link Nbp LL (bodyOf Tryd.f9) N91 ⟨mkE 8 0 [],[]⟩ (N7s) (fun(t:Bool)=>(Exit.ret,⟨mkE 8 0 [(0,dB t)],[]⟩)):= .of fun K h=>by
 simp only[N7s,wpW] at h
 exact .of (by kernel_rfl) h
theorem Nx0 {r:AV} {H':Heap} (h:(Ans.mk _ (N2y) (fun(t:Bool)=>(dB t,[])) [] none).run=some (r,H')):Awp Nbp LL (bodyOf Tryd.f9) N91 ⟨mkE 8 0 [],[]⟩ (Ret (tlook tys) Tryd.f9.results.toList r H'):=
 ret_of' (Nth) (by unfold N2y;kernel_rfl) (by
 intro t
 exact ret_mk [dB t] (by kernel_rfl) (by kernel_rfl) (by kernel_rfl) (by kernel_rfl)) h
def Nbx:Fun:=fun avs H=>
 match avs,H with
 |[],[]=>⟨_,N2y,fun(t:Bool)=>(dB t,[]),[],none⟩
 |_,_=>Ans.no
theorem Nws:Sound Tryd.prog 9 Nbx:=by
 refine fn_sound' (C:=Nbp) (c:=bodyOf Tryd.f9) (cok_of tys_ok (allc N1r alln) (allc Tryd.call8 alln) (by kernel_rfl)) Tryd.func9 (by kernel_rfl) LL N91 ?_
 intro avs H r H' h
 unfold Nbx at h
 split at h
 ·refine Awp.cast ?_ ?_ ?_ (Nx0 h)<;>kernel_rfl
 ·simp[Ans.no,Ans.run] at h
def Nk:Ann:=(.seq (.leaf [0,1]) (.seq (.seq (.leaf [0,1,19]) (.cond (.seq (.leaf [4]) (.leaf [4])) (.leaf [0,1]))) (.seq (.leaf [0,1,5]) (.seq (.seq (.leaf [1,5,20,21,22]) (.block (.loop (.seq (.leaf [1,5,20,21,22,23]) (.seq (.cond (.leaf [1,5,20,21,22]) (.leaf [])) (.seq (.block (.seq (.leaf [1,5,7,20,21,22]) (.seq (.seq (.leaf [1,5,7,20,21,22,37]) (.cond (.seq (.leaf [4]) (.leaf [4])) (.leaf [1,5,7,20,21,22]))) (.leaf [1,5,20,21,22])))) (.leaf [1,5,20,21,22]))))))) (.seq (.leaf [4]) (.leaf [4]))))))
noncomputable def N3g:Ctx:=⟨tlook tys,olook [],ioF,0,false,[]⟩
theorem Nln (a:List Int) (b:Int):Link N3g LL (Code.seq (cq [0] (bodyOf Tryd.f26)) (Code.seq (cq [0,1] (bodyOf Tryd.f26)) (cq [0,1,1] (bodyOf Tryd.f26)))) (Ann.seq (aq [0] Nk) (Ann.seq (aq [0,1] Nk) (aq [0,1,1] Nk))) ⟨mkE 41 0 [(0,dL a),(1,dI b)],[]⟩ (N64 a b) (Sum.elim (fun(t:Unit)=>(Exit.normal,⟨mkE 41 0 [(0,dL a),(1,dI b),(5,.ptr 0 0)],[some (.seq .bool (List.replicate 9 false))]⟩)) (fun(t:Bool)=>(Exit.ret,⟨mkE 41 0 [(4,dB t)],[]⟩))):= .of fun K h=>by
 simp only[N64,wpW] at h
 exact .of (by kernel_rfl) h
theorem Nvt (a:List Int) (b:Int):Link N3g LL (cq [0,0,1,1,1] (bodyOf Tryd.f26)) (aq [0,0,1,1,1] Nk) ⟨mkE 41 0 [(0,dL a),(1,dI b),(5,.ptr 0 0)],[some (.seq .bool (List.replicate 9 false))]⟩ (N70 a) (fun(t:Int)=>(Exit.normal,⟨mkE 41 0 [(1,dI b),(5,.ptr 0 0),(20,dL a),(21,dI t),(22,dI 0)],[some (.seq .bool (List.replicate 9 false))]⟩)):= .of fun K h=>by
 simp only[N70,wpW] at h
 exact .of (by kernel_rfl) h
theorem Nuu (a:Int) (b:List Int) (c d:Int) (g:List Bool):Link N3g LL (cq [0,0,1,0,1,1,1] (bodyOf Tryd.f26)) (aq [0,0,1,0,1,1,1] Nk) ⟨mkE 41 0 [(1,dI a),(5,.ptr 0 0),(20,dL b),(21,dI c),(22,dI d)],[some (.seq .bool g)]⟩ (N57 a b c d g) (Sum.elim (fun(t:Int×(List Bool))=>(Exit.normal,⟨mkE 41 0 [(1,dI a),(5,.ptr 0 0),(20,dL b),(21,dI c),(22,dI t.1)],[some (.seq .bool t.2)]⟩)) (Sum.elim (fun(t:Bool)=>(Exit.ret,⟨mkE 41 0 [(4,dB t)],[]⟩)) (fun(t:Unit)=>((Exit.exit 0),⟨mkE 41 0 [],[]⟩)))):= .of fun K h=>by
 simp only[N57,wpW] at h
 exact .of (by kernel_rfl) h
theorem Nm7:Link N3g LL (cq [1,1,1,1] (bodyOf Tryd.f26)) (aq [1,1,1,1] Nk) ⟨mkE 41 0 [],[]⟩ (N7u) (fun(t:Bool)=>(Exit.ret,⟨mkE 41 0 [(4,dB t)],[]⟩)):= .of fun K h=>by
 simp only[N7u,wpW] at h
 exact .of (by kernel_rfl) h
theorem Nir (b:List Int) (d:Int) {r:AV} {H':Heap} (h:(Ans.mk _ (N42 b d) (fun(t:Bool)=>(dB t,[])) [] none).run=some (r,H')):Awp N3g LL (bodyOf Tryd.f26) Nk ⟨mkE 41 0 [(0,dL b),(1,dI d)],[]⟩ (Ret (tlook tys) Tryd.f26.results.toList r H'):=
 ret_of' (Link.cast (by kernel_rfl) (by kernel_rfl) (link_group (c:=(cq [0,1,1] (bodyOf Tryd.f26))) (a:=(aq [0,1,1] Nk)) [(cq [0] (bodyOf Tryd.f26)),(cq [0,1] (bodyOf Tryd.f26))] [(aq [0] Nk),(aq [0,1] Nk)] rfl (link_seq2 (Nln b d) (fun(t:Unit)=>(link_seq2 (link_seq (Nvt b d) (fun(t:Int)=>(link_block (fin2:=(Sum.elim (fun(t27:Unit)=>(Exit.normal,⟨mkE 41 0 [],[]⟩)) (fun(t27:Bool)=>(Exit.ret,⟨mkE 41 0 [(4,dB t27)],[]⟩)))) (id:=0) (link_loop (mk:=fun(s:Int×(List Bool))=>⟨mkE 41 0 [(1,dI d),(5,.ptr 0 0),(20,dL b),(21,dI t),(22,dI s.1)],[some (.seq .bool s.2)]⟩) (fin:=(Sum.elim (fun(t27:Bool)=>(Exit.ret,⟨mkE 41 0 [(4,dB t27)],[]⟩)) (fun(t27:Unit)=>((Exit.exit 0),⟨mkE 41 0 [],[]⟩)))) (by
 rintro(t27|t27) f K h
 ·exact h
 ·exact h) (fun s=>link_map (Nuu d b t s.1 s.2) (Sum.elim (fun(t27:Int×(List Bool))=>Sum.inl (t27.1,t27.2)) (Sum.elim (fun(t27:Bool)=>Sum.inr (Sum.inl t27)) (fun(t27:Unit)=>Sum.inr (Sum.inr t27)))) (by
 rintro(t27|t27|t27)
 ·kernel_rfl
 ·kernel_rfl
 ·kernel_rfl)) (0,(List.replicate 9 false))) (Sum.elim (fun(t27:Bool)=>(Sum.inr t27)) (fun(t27:Unit)=>(Sum.inl ()))) (by
 rintro(t27|t27) K h
 ·exact Eq.mp (by kernel_rfl) h
 ·exact Eq.mp (by kernel_rfl) h)))) (fun(t:Unit)=>(Nm7)) (fun(t:Bool)=>t) (by
 rintro t
 ·kernel_rfl) (by
 rintro t f K h
 ·exact h))) (fun(t:Bool)=>t) (by
 rintro t
 ·kernel_rfl) (by
 rintro t f K h
 ·exact h)))) (by unfold N42;kernel_rfl) (by
 intro t
 exact ret_mk [dB t] (by kernel_rfl) (by kernel_rfl) (by kernel_rfl) (by kernel_rfl)) h
def N9y:Fun:=fun avs H=>
 match avs,H with
 |[.dat (.list (.int .i64)) a,.dat (.int .i64) b],[]=>⟨_,N42 a b,fun(t:Bool)=>(dB t,[]),[],none⟩
 |_,_=>Ans.no
theorem Nre:Sound Tryd.prog 26 N9y:=by
 refine fn_sound' (C:=N3g) (c:=bodyOf Tryd.f26) (cok_of tys_ok (alln) (alln) (by kernel_rfl)) Tryd.func26 (by kernel_rfl) LL Nk ?_
 intro avs H r H' h
 unfold N9y at h
 split at h
 ·refine Awp.cast ?_ ?_ ?_ (Nir _ _ h)<;>kernel_rfl
 ·simp[Ans.no,Ans.run] at h
def N1k:Ann:=(.seq (.leaf [0]) (.seq (.leaf [0,3]) (.seq (.seq (.leaf [3,10,11,12]) (.block (.loop (.seq (.leaf [3,10,11,12,13]) (.seq (.cond (.leaf [3,10,11,12]) (.leaf [3])) (.seq (.block (.seq (.leaf [3,4,5,10,11,12]) (.leaf [3,10,11,12]))) (.leaf [3,10,11,12]))))))) (.seq (.leaf [2]) (.leaf [2])))))
noncomputable def N3e:Ctx:=⟨tlook tys,olook [],ioF,0,false,[]⟩
theorem Nl2 (a:List Int):Link N3e LL (Code.seq (cq [0] (bodyOf Tryd.f27)) (cq [0,1] (bodyOf Tryd.f27))) (Ann.seq (aq [0] N1k) (aq [0,1] N1k)) ⟨mkE 24 0 [(0,dL a)],[]⟩ (N6y a) (fun(t:(List Int))=>(Exit.normal,⟨mkE 24 0 [(0,dL a),(3,.slc 0)],[some (sI t)]⟩)):= .of fun K h=>by
 simp only[N6y,wpW] at h
 exact .of (by kernel_rfl) h
theorem Nqt (a b:List Int):Link N3e LL (cq [0,0,1,1] (bodyOf Tryd.f27)) (aq [0,0,1,1] N1k) ⟨mkE 24 0 [(0,dL a),(3,.slc 0)],[some (sI b)]⟩ (N6p a) (fun(t:Int)=>(Exit.normal,⟨mkE 24 0 [(3,.slc 0),(10,dL a),(11,dI t),(12,dI 0)],[some (sI b)]⟩)):= .of fun K h=>by
 simp only[N6p,wpW] at h
 exact .of (by kernel_rfl) h
theorem Nm4 (a:List Int) (b c:Int) (d:List Int):Link N3e LL (cq [0,0,1,0,1,1] (bodyOf Tryd.f27)) (aq [0,0,1,0,1,1] N1k) ⟨mkE 24 0 [(3,.slc 0),(10,dL a),(11,dI b),(12,dI c)],[some (sI d)]⟩ (N3d a b c d) (Sum.elim (fun(t:Int×(List Int))=>(Exit.normal,⟨mkE 24 0 [(3,.slc 0),(10,dL a),(11,dI b),(12,dI t.1)],[some (sI t.2)]⟩)) (fun(t:(List Int))=>((Exit.exit 0),⟨mkE 24 0 [(3,.slc 0)],[some (sI t)]⟩))):= .of fun K h=>by
 simp only[N3d,wpW] at h
 exact .of (by kernel_rfl) h
theorem Ni9 (a:List Int):Link N3e LL (cq [1,1,1] (bodyOf Tryd.f27)) (aq [1,1,1] N1k) ⟨mkE 24 0 [(3,.slc 0)],[some (sI a)]⟩ (N6r a) (fun(t:(List Int))=>(Exit.ret,⟨mkE 24 0 [(2,.slc 0)],[some (sI t)]⟩)):= .of fun K h=>by
 simp only[N6r,wpW] at h
 exact .of (by kernel_rfl) h
theorem Nw9 (b:List Int) {r:AV} {H':Heap} (h:(Ans.mk _ (N2m b) (fun(t:(List Int))=>(.slc 0,[some (sI t)])) [] none).run=some (r,H')):Awp N3e LL (bodyOf Tryd.f27) N1k ⟨mkE 24 0 [(0,dL b)],[]⟩ (Ret (tlook tys) Tryd.f27.results.toList r H'):=
 ret_of' (Link.cast (by kernel_rfl) (by kernel_rfl) (link_group (c:=(cq [0,1] (bodyOf Tryd.f27))) (a:=(aq [0,1] N1k)) [(cq [0] (bodyOf Tryd.f27))] [(aq [0] N1k)] rfl (link_seq (Nl2 b) (fun(t:(List Int))=>(link_seq (link_seq (Nqt b t) (fun(t50:Int)=>(link_block (fin2:=(fun(t28:(List Int))=>(Exit.normal,⟨mkE 24 0 [(3,.slc 0)],[some (sI t28)]⟩))) (id:=0) (link_loop (mk:=fun(s:Int×(List Int))=>⟨mkE 24 0 [(3,.slc 0),(10,dL b),(11,dI t50),(12,dI s.1)],[some (sI s.2)]⟩) (fin:=(fun(t28:(List Int))=>((Exit.exit 0),⟨mkE 24 0 [(3,.slc 0)],[some (sI t28)]⟩))) (by
 rintro t28 f K h
 ·exact h) (fun s=>link_map (Nm4 b t50 s.1 s.2) (Sum.elim (fun(t28:Int×(List Int))=>Sum.inl (t28.1,t28.2)) (fun(t28:(List Int))=>Sum.inr t28)) (by
 rintro(t28|t28)
 ·kernel_rfl
 ·kernel_rfl)) (0,t)) (fun(t28:(List Int))=>t28) (by
 rintro t28 K h
 ·exact Eq.mp (by kernel_rfl) h)))) (fun(t50:(List Int))=>(Ni9 t50))))))) (by unfold N2m;kernel_rfl) (by
 intro t
 exact ret_mk [.slc 0] (by kernel_rfl) (by kernel_rfl) (by kernel_rfl) (by kernel_rfl)) h
def N9h:Fun:=fun avs H=>
 match avs,H with
 |[.dat (.list (.int .i64)) a],[]=>⟨_,N2m a,fun(t:(List Int))=>(.slc 0,[some (sI t)]),[],none⟩
 |_,_=>Ans.no
theorem Nu6:Sound Tryd.prog 27 N9h:=by
 refine fn_sound' (C:=N3e) (c:=bodyOf Tryd.f27) (cok_of tys_ok (alln) (alln) (by kernel_rfl)) Tryd.func27 (by kernel_rfl) LL N1k ?_
 intro avs H r H' h
 unfold N9h at h
 split at h
 ·refine Awp.cast ?_ ?_ ?_ (Nw9 _ h)<;>kernel_rfl
 ·simp[Ans.no,Ans.run] at h
def Nbe:Ann:=(.seq (.leaf [0,1]) (.seq (.leaf [3]) (.leaf [3])))
noncomputable def Nal:Ctx:=⟨tlook tys,olook [],ioF,2,false,[]⟩
theorem Nmf (a:Int) (b:List Int):Link Nal LL (bodyOf Tryd.f29) Nbe ⟨mkE 8 0 [(0,dI a),(1,.ptr 0 0)],[some (.box [.slc 1]),some (sI b)]⟩ (N7t a b) (fun(t:Int)=>(Exit.ret,⟨mkE 8 0 [(3,dI t)],[some (.box [.slc 1]),some (sI b)]⟩)):= .of fun K h=>by
 simp only[N7t,wpW] at h
 exact .of (by kernel_rfl) h
theorem Nti (a:Int) (b:List Int) {r:AV} {H':Heap} (h:(Ans.mk _ (N3m a b) (fun(t:Int)=>(dI t,[some (.box [.slc 1]),some (sI b)])) [] none).run=some (r,H')):Awp Nal LL (bodyOf Tryd.f29) Nbe ⟨mkE 8 0 [(0,dI a),(1,.ptr 0 0)],[some (.box [.slc 1]),some (sI b)]⟩ (Ret (tlook tys) Tryd.f29.results.toList r H'):=
 ret_of' (Nmf a b) (by unfold N3m;kernel_rfl) (by
 intro t
 exact ret_mk [dI t] (by kernel_rfl) (by kernel_rfl) (by kernel_rfl) (by kernel_rfl)) h
def N9v:Fun:=fun avs H=>
 match avs,H with
 |[.dat (.int .i64) a,.ptr 0 0],[some (.box [.slc 1]),some (.seq (.int .i64) b)]=>⟨_,N3m a b,fun(t:Int)=>(dI t,[some (.box [.slc 1]),some (sI b)]),[],none⟩
 |_,_=>Ans.no
theorem Nuh:Sound Tryd.prog 29 N9v:=by
 refine fn_sound' (C:=Nal) (c:=bodyOf Tryd.f29) (cok_of tys_ok (alln) (alln) (by kernel_rfl)) Tryd.func29 (by kernel_rfl) LL Nbe ?_
 intro avs H r H' h
 unfold N9v at h
 split at h
 ·refine Awp.cast ?_ ?_ ?_ (Nti _ _ h)<;>kernel_rfl
 ·simp[Ans.no,Ans.run] at h
def N1d:Ann:=(.seq (.leaf [0,1,2]) (.seq (.leaf [0,1,2,7]) (.seq (.seq (.leaf [0,2,7,13,14,15]) (.block (.loop (.seq (.leaf [0,2,7,13,14,15,16]) (.seq (.cond (.leaf [0,2,7,13,14,15]) (.leaf [7])) (.seq (.block (.seq (.leaf [0,2,7,8,9,13,14,15]) (.leaf [0,2,7,13,14,15]))) (.leaf [0,2,7,13,14,15]))))))) (.seq (.leaf [6]) (.leaf [6])))))
noncomputable def N3f:Ctx:=⟨tlook tys,olook [(29,N9v)],ioF,2,false,[]⟩
theorem Nkg (a b c:List Int):Link N3f LL (Code.seq (cq [0] (bodyOf Tryd.f28)) (cq [0,1] (bodyOf Tryd.f28))) (Ann.seq (aq [0] N1d) (aq [0,1] N1d)) ⟨mkE 32 0 [(0,dL a),(1,dL b),(2,.fn 29 [] [.ptr 0 0])],[some (.box [.slc 1]),some (sI c)]⟩ (N87 b) (fun(t:(List Int))=>(Exit.normal,⟨mkE 32 0 [(0,dL a),(1,dL b),(2,.fn 29 [] [.ptr 0 0]),(7,.slc 2)],[some (.box [.slc 1]),some (sI c),some (sI t)]⟩)):= .of fun K h=>by
 simp only[N87,wpW] at h
 exact .of (by kernel_rfl) h
theorem Nww (a b c d:List Int):Link N3f LL (cq [0,0,1,1] (bodyOf Tryd.f28)) (aq [0,0,1,1] N1d) ⟨mkE 32 0 [(0,dL a),(1,dL b),(2,.fn 29 [] [.ptr 0 0]),(7,.slc 2)],[some (.box [.slc 1]),some (sI c),some (sI d)]⟩ (N77 b) (fun(t:Int)=>(Exit.normal,⟨mkE 32 0 [(0,dL a),(2,.fn 29 [] [.ptr 0 0]),(7,.slc 2),(13,dL b),(14,dI t),(15,dI 0)],[some (.box [.slc 1]),some (sI c),some (sI d)]⟩)):= .of fun K h=>by
 simp only[N77,wpW] at h
 exact .of (by kernel_rfl) h
theorem Nom (a b:List Int) (c d:Int) (g i:List Int):Link N3f LL (cq [0,0,1,0,1,1] (bodyOf Tryd.f28)) (aq [0,0,1,0,1,1] N1d) ⟨mkE 32 0 [(0,dL a),(2,.fn 29 [] [.ptr 0 0]),(7,.slc 2),(13,dL b),(14,dI c),(15,dI d)],[some (.box [.slc 1]),some (sI g),some (sI i)]⟩ (N48 a b c d g i) (Sum.elim (fun(t:Int×(List Int))=>(Exit.normal,⟨mkE 32 0 [(0,dL a),(2,.fn 29 [] [.ptr 0 0]),(7,.slc 2),(13,dL b),(14,dI c),(15,dI t.1)],[some (.box [.slc 1]),some (sI g),some (sI t.2)]⟩)) (fun(t:(List Int))=>((Exit.exit 0),⟨mkE 32 0 [(7,.slc 2)],[some (.box [.slc 1]),some (sI g),some (sI t)]⟩))):= .of fun K h=>by
 simp only[N48,wpW] at h
 exact .of (by kernel_rfl) h
theorem Nvc (a b:List Int):Link N3f LL (cq [1,1,1] (bodyOf Tryd.f28)) (aq [1,1,1] N1d) ⟨mkE 32 0 [(7,.slc 2)],[some (.box [.slc 1]),some (sI a),some (sI b)]⟩ (N86 b) (fun(t:(List Int))=>(Exit.ret,⟨mkE 32 0 [(6,.slc 2)],[some (.box [.slc 1]),some (sI a),some (sI t)]⟩)):= .of fun K h=>by
 simp only[N86,wpW] at h
 exact .of (by kernel_rfl) h
theorem Nrk (b d g:List Int) {r:AV} {H':Heap} (h:(Ans.mk _ (N4l b d g) (fun(t:(List Int))=>(.slc 2,[some (.box [.slc 1]),some (sI g),some (sI t)])) [] none).run=some (r,H')):Awp N3f LL (bodyOf Tryd.f28) N1d ⟨mkE 32 0 [(0,dL b),(1,dL d),(2,.fn 29 [] [.ptr 0 0])],[some (.box [.slc 1]),some (sI g)]⟩ (Ret (tlook tys) Tryd.f28.results.toList r H'):=
 ret_of' (Link.cast (by kernel_rfl) (by kernel_rfl) (link_group (c:=(cq [0,1] (bodyOf Tryd.f28))) (a:=(aq [0,1] N1d)) [(cq [0] (bodyOf Tryd.f28))] [(aq [0] N1d)] rfl (link_seq (Nkg b d g) (fun(t:(List Int))=>(link_seq (link_seq (Nww b d g t) (fun(t51:Int)=>(link_block (fin2:=(fun(t29:(List Int))=>(Exit.normal,⟨mkE 32 0 [(7,.slc 2)],[some (.box [.slc 1]),some (sI g),some (sI t29)]⟩))) (id:=0) (link_loop (mk:=fun(s:Int×(List Int))=>⟨mkE 32 0 [(0,dL b),(2,.fn 29 [] [.ptr 0 0]),(7,.slc 2),(13,dL d),(14,dI t51),(15,dI s.1)],[some (.box [.slc 1]),some (sI g),some (sI s.2)]⟩) (fin:=(fun(t29:(List Int))=>((Exit.exit 0),⟨mkE 32 0 [(7,.slc 2)],[some (.box [.slc 1]),some (sI g),some (sI t29)]⟩))) (by
 rintro t29 f K h
 ·exact h) (fun s=>link_map (Nom b d t51 s.1 g s.2) (Sum.elim (fun(t29:Int×(List Int))=>Sum.inl (t29.1,t29.2)) (fun(t29:(List Int))=>Sum.inr t29)) (by
 rintro(t29|t29)
 ·kernel_rfl
 ·kernel_rfl)) (0,t)) (fun(t29:(List Int))=>t29) (by
 rintro t29 K h
 ·exact Eq.mp (by kernel_rfl) h)))) (fun(t51:(List Int))=>(Nvc g t51))))))) (by unfold N4l;kernel_rfl) (by
 intro t
 exact ret_mk [.slc 2] (by kernel_rfl) (by kernel_rfl) (by kernel_rfl) (by kernel_rfl)) h
def Nbf:Fun:=fun avs H=>
 match avs,H with
 |[.dat (.list (.int .i64)) a,.dat (.list (.int .i64)) b,.fn 29 [] [.ptr 0 0]],[some (.box [.slc 1]),some (.seq (.int .i64) c)]=>⟨_,N4l a b c,fun(t:(List Int))=>(.slc 2,[some (.box [.slc 1]),some (sI c),some (sI t)]),[],none⟩
 |_,_=>Ans.no
theorem Nk7:Sound Tryd.prog 28 Nbf:=by
 refine fn_sound' (C:=N3f) (c:=bodyOf Tryd.f28) (cok_of tys_ok (allc Nuh alln) (allc Tryd.call29 alln) (by kernel_rfl)) Tryd.func28 (by kernel_rfl) LL N1d ?_
 intro avs H r H' h
 unfold Nbf at h
 split at h
 ·refine Awp.cast ?_ ?_ ?_ (Nrk _ _ _ h)<;>kernel_rfl
 ·simp[Ans.no,Ans.run] at h
def N8v:Ann:=(.seq (.leaf [0,1]) (.seq (.seq (.leaf [0,1,16]) (.cond (.seq (.leaf [4,5]) (.leaf [4,5])) (.leaf [0,1]))) (.seq (.leaf [0,1,6]) (.seq (.leaf [4,5]) (.leaf [4,5])))))
noncomputable def Na0:Ctx:=⟨tlook tys,olook [(8,Nv),(26,N9y),(27,N9h),(28,Nbf)],ioF,0,false,[]⟩
theorem Nvz (a b:List Int):Link Na0 LL (bodyOf Tryd.f10) N8v ⟨mkE 23 0 [(0,dL a),(1,dL b)],[]⟩ (N6h a b) (fun(t:Bool×(List Int))=>(Exit.ret,⟨mkE 23 0 [(4,.slc 0),(5,dB t.1)],[some (sI t.2)]⟩)):= .of fun K h=>by
 simp only[N6h,wpW] at h
 exact .of (by kernel_rfl) h
theorem Nvi (a b:List Int) {r:AV} {H':Heap} (h:(Ans.mk _ (N1h a b) (fun(t:Bool×(List Int))=>(.tup [.slc 0,dB t.1],[some (sI t.2)])) [] none).run=some (r,H')):Awp Na0 LL (bodyOf Tryd.f10) N8v ⟨mkE 23 0 [(0,dL a),(1,dL b)],[]⟩ (Ret (tlook tys) Tryd.f10.results.toList r H'):=
 ret_of' (Nvz a b) (by unfold N1h;kernel_rfl) (by
 intro t
 exact ret_mk [.slc 0,dB t.1] (by kernel_rfl) (by kernel_rfl) (by kernel_rfl) (by kernel_rfl)) h
def N6o:Fun:=fun avs H=>
 match avs,H with
 |[.dat (.list (.int .i64)) a,.dat (.list (.int .i64)) b],[]=>⟨_,N1h a b,fun(t:Bool×(List Int))=>(.tup [.slc 0,dB t.1],[some (sI t.2)]),[],none⟩
 |_,_=>Ans.no
theorem Nd2:Sound Tryd.prog 10 N6o:=by
 refine fn_sound' (C:=Na0) (c:=bodyOf Tryd.f10) (cok_of tys_ok (allc N1r (allc Nre (allc Nu6 (allc Nk7 alln)))) (allc Tryd.call8 (allc Tryd.call26 (allc Tryd.call27 (allc Tryd.call28 alln)))) (by kernel_rfl)) Tryd.func10 (by kernel_rfl) LL N8v ?_
 intro avs H r H' h
 unfold N6o at h
 split at h
 ·refine Awp.cast ?_ ?_ ?_ (Nvi _ _ h)<;>kernel_rfl
 ·simp[Ans.no,Ans.run] at h
def Ncp:Ann:=(.seq (.leaf [0]) (.seq (.leaf [0,3]) (.seq (.leaf [2]) (.leaf [2]))))
noncomputable def Nbu:Ctx:=⟨tlook tys,olook [],ioF,0,false,[]⟩
theorem Nn4 (a:Int):Link Nbu LL (bodyOf Tryd.f30) Ncp ⟨mkE 14 0 [(0,dW a)],[]⟩ (Ncy a) (fun(t:Bool)=>(Exit.ret,⟨mkE 14 0 [(2,dB t)],[]⟩)):= .of fun K h=>by
 simp only[Ncy,wpW] at h
 exact .of (by kernel_rfl) h
theorem Npg (a:Int) {r:AV} {H':Heap} (h:(Ans.mk _ (N3o a) (fun(t:Bool)=>(dB t,[])) [] none).run=some (r,H')):Awp Nbu LL (bodyOf Tryd.f30) Ncp ⟨mkE 14 0 [(0,dW a)],[]⟩ (Ret (tlook tys) Tryd.f30.results.toList r H'):=
 ret_of' (Nn4 a) (by unfold N3o;kernel_rfl) (by
 intro t
 exact ret_mk [dB t] (by kernel_rfl) (by kernel_rfl) (by kernel_rfl) (by kernel_rfl)) h
def Nco:Fun:=fun avs H=>
 match avs,H with
 |[.dat (.int .u64) a],[]=>⟨_,N3o a,fun(t:Bool)=>(dB t,[]),[],none⟩
 |_,_=>Ans.no
theorem Nli:Sound Tryd.prog 30 Nco:=by
 refine fn_sound' (C:=Nbu) (c:=bodyOf Tryd.f30) (cok_of tys_ok (alln) (alln) (by kernel_rfl)) Tryd.func30 (by kernel_rfl) LL Ncp ?_
 intro avs H r H' h
 unfold Nco at h
 split at h
 ·refine Awp.cast ?_ ?_ ?_ (Npg _ h)<;>kernel_rfl
 ·simp[Ans.no,Ans.run] at h
def N1c:Ann:=(.seq (.leaf [0]) (.seq (.seq (.leaf [0,7]) (.cond (.seq (.leaf [2]) (.leaf [2])) (.leaf [0]))) (.seq (.seq (.leaf [9,10,11]) (.block (.loop (.seq (.leaf [9,10,11,12]) (.seq (.cond (.leaf [9,10,11]) (.leaf [])) (.seq (.block (.seq (.leaf [4,9,10,11]) (.seq (.leaf [9,10,11,17]) (.cond (.seq (.leaf [2]) (.leaf [2])) (.leaf [9,10,11]))))) (.leaf [9,10,11]))))))) (.seq (.leaf [2]) (.leaf [2])))))
noncomputable def N2p:Ctx:=⟨tlook tys,olook [(8,Nv),(18,N85),(30,Nco)],ioF,0,false,[]⟩
theorem Nn3 (a:List Int):Link N2p LL (Code.seq (cq [0] (bodyOf Tryd.f11)) (cq [0,1] (bodyOf Tryd.f11))) (Ann.seq (aq [0] N1c) (aq [0,1] N1c)) ⟨mkE 19 0 [(0,dL a)],[]⟩ (N5n a) (Sum.elim (fun(t:Unit)=>(Exit.normal,⟨mkE 19 0 [(0,dL a)],[]⟩)) (fun(t:Bool)=>(Exit.ret,⟨mkE 19 0 [(2,dB t)],[]⟩))):= .of fun K h=>by
 simp only[N5n,wpW] at h
 exact .of (by kernel_rfl) h
theorem Nr2 (a:List Int):Link N2p LL (cq [0,0,1,1] (bodyOf Tryd.f11)) (aq [0,0,1,1] N1c) ⟨mkE 19 0 [(0,dL a)],[]⟩ (N7n a) (fun(t:Int×(List Int))=>(Exit.normal,⟨mkE 19 0 [(9,.slc 0),(10,dI t.1),(11,dI 0)],[some (.seq (.int .u64) t.2)]⟩)):= .of fun K h=>by
 simp only[N7n,wpW] at h
 exact .of (by kernel_rfl) h
theorem Npn (a b:Int) (c:List Int):Link N2p LL (cq [0,0,1,0,1,1] (bodyOf Tryd.f11)) (aq [0,0,1,0,1,1] N1c) ⟨mkE 19 0 [(9,.slc 0),(10,dI a),(11,dI b)],[some (.seq (.int .u64) c)]⟩ (N25 a b c) (Sum.elim (fun(t:Int)=>(Exit.normal,⟨mkE 19 0 [(9,.slc 0),(10,dI a),(11,dI t)],[some (.seq (.int .u64) c)]⟩)) (Sum.elim (fun(t:Bool)=>(Exit.ret,⟨mkE 19 0 [(2,dB t)],[]⟩)) (fun(t:Unit)=>((Exit.exit 0),⟨mkE 19 0 [],[]⟩)))):= .of fun K h=>by
 simp only[N25,wpW] at h
 exact .of (by kernel_rfl) h
theorem Nic:Link N2p LL (cq [1,1,1] (bodyOf Tryd.f11)) (aq [1,1,1] N1c) ⟨mkE 19 0 [],[]⟩ (N8t) (fun(t:Bool)=>(Exit.ret,⟨mkE 19 0 [(2,dB t)],[]⟩)):= .of fun K h=>by
 simp only[N8t,wpW] at h
 exact .of (by kernel_rfl) h
theorem Np1 (b:List Int) {r:AV} {H':Heap} (h:(Ans.mk _ (N1q b) (fun(t:Bool)=>(dB t,[])) [] none).run=some (r,H')):Awp N2p LL (bodyOf Tryd.f11) N1c ⟨mkE 19 0 [(0,dL b)],[]⟩ (Ret (tlook tys) Tryd.f11.results.toList r H'):=
 ret_of' (Link.cast (by kernel_rfl) (by kernel_rfl) (link_group (c:=(cq [0,1] (bodyOf Tryd.f11))) (a:=(aq [0,1] N1c)) [(cq [0] (bodyOf Tryd.f11))] [(aq [0] N1c)] rfl (link_seq2 (Nn3 b) (fun(t:Unit)=>(link_seq2 (link_seq (Nr2 b) (fun(t:Int×(List Int))=>(link_block (fin2:=(Sum.elim (fun(t30:Unit)=>(Exit.normal,⟨mkE 19 0 [],[]⟩)) (fun(t30:Bool)=>(Exit.ret,⟨mkE 19 0 [(2,dB t30)],[]⟩)))) (id:=0) (link_loop (mk:=fun(s:Int)=>⟨mkE 19 0 [(9,.slc 0),(10,dI t.1),(11,dI s)],[some (.seq (.int .u64) t.2)]⟩) (fin:=(Sum.elim (fun(t30:Bool)=>(Exit.ret,⟨mkE 19 0 [(2,dB t30)],[]⟩)) (fun(t30:Unit)=>((Exit.exit 0),⟨mkE 19 0 [],[]⟩)))) (by
 rintro(t30|t30) f K h
 ·exact h
 ·exact h) (fun s=>link_map (Npn t.1 s t.2) (Sum.elim (fun(t30:Int)=>Sum.inl t30) (Sum.elim (fun(t30:Bool)=>Sum.inr (Sum.inl t30)) (fun(t30:Unit)=>Sum.inr (Sum.inr t30)))) (by
 rintro(t30|t30|t30)
 ·kernel_rfl
 ·kernel_rfl
 ·kernel_rfl)) 0) (Sum.elim (fun(t30:Bool)=>(Sum.inr t30)) (fun(t30:Unit)=>(Sum.inl ()))) (by
 rintro(t30|t30) K h
 ·exact Eq.mp (by kernel_rfl) h
 ·exact Eq.mp (by kernel_rfl) h)))) (fun(t:Unit)=>(Nic)) (fun(t:Bool)=>t) (by
 rintro t
 ·kernel_rfl) (by
 rintro t f K h
 ·exact h))) (fun(t:Bool)=>t) (by
 rintro t
 ·kernel_rfl) (by
 rintro t f K h
 ·exact h)))) (by unfold N1q;kernel_rfl) (by
 intro t
 exact ret_mk [dB t] (by kernel_rfl) (by kernel_rfl) (by kernel_rfl) (by kernel_rfl)) h
def Nb7:Fun:=fun avs H=>
 match avs,H with
 |[.dat (.list (.int .i64)) a],[]=>⟨_,N1q a,fun(t:Bool)=>(dB t,[]),[],none⟩
 |_,_=>Ans.no
theorem Nms:Sound Tryd.prog 11 Nb7:=by
 refine fn_sound' (C:=N2p) (c:=bodyOf Tryd.f11) (cok_of tys_ok (allc N1r (allc Ng3 (allc Nli alln))) (allc Tryd.call8 (allc Tryd.call18 (allc Tryd.call30 alln))) (by kernel_rfl)) Tryd.func11 (by kernel_rfl) LL N1c ?_
 intro avs H r H' h
 unfold Nb7 at h
 split at h
 ·refine Awp.cast ?_ ?_ ?_ (Np1 _ h)<;>kernel_rfl
 ·simp[Ans.no,Ans.run] at h
def Nb0:Ann:=(.seq (.leaf [0,1,4]) (.seq (.seq (.leaf [0,1,4,16]) (.cond (.seq (.leaf [4,5]) (.leaf [4,5])) (.leaf [0,1,4]))) (.seq (.leaf [4,5]) (.leaf [4,5]))))
noncomputable def Nbi:Ctx:=⟨tlook tys,olook [],ioF,0,false,[]⟩
theorem Nqw (a b:Int):Link Nbi LL (bodyOf Tryd.f50) Nb0 ⟨mkE 25 0 [(0,dI a),(1,dI b)],[]⟩ (N8q a b) (fun(t:Bool×Int×Int)=>(Exit.ret,⟨mkE 25 0 [(4,.ptr 0 0),(5,dB t.1)],[some (.box [dI t.2.1,dI t.2.2])]⟩)):= .of fun K h=>by
 simp only[N8q,wpW] at h
 exact .of (by kernel_rfl) h
theorem Noe (a b:Int) {r:AV} {H':Heap} (h:(Ans.mk _ (N39 a b) (fun(t:Bool×Int×Int)=>(.tup [.agg [dI t.2.1,dI t.2.2],dB t.1],[some (.box [dI t.2.1,dI t.2.2])])) [] none).run=some (r,H')):Awp Nbi LL (bodyOf Tryd.f50) Nb0 ⟨mkE 25 0 [(0,dI a),(1,dI b)],[]⟩ (Ret (tlook tys) Tryd.f50.results.toList r H'):=
 ret_of' (Nqw a b) (by unfold N39;kernel_rfl) (by
 intro t
 exact ret_mk [.agg [dI t.2.1,dI t.2.2],dB t.1] (by kernel_rfl) (by kernel_rfl) (by kernel_rfl) (by kernel_rfl)) h
def N9e:Fun:=fun avs H=>
 match avs,H with
 |[.dat (.int .i64) a,.dat (.int .i64) b],[]=>⟨_,N39 a b,fun(t:Bool×Int×Int)=>(.tup [.agg [dI t.2.1,dI t.2.2],dB t.1],[some (.box [dI t.2.1,dI t.2.2])]),[],none⟩
 |_,_=>Ans.no
theorem Nmt:Sound Tryd.prog 50 N9e:=by
 refine fn_sound' (C:=Nbi) (c:=bodyOf Tryd.f50) (cok_of tys_ok (alln) (alln) (by kernel_rfl)) Tryd.func50 (by kernel_rfl) LL Nb0 ?_
 intro avs H r H' h
 unfold N9e at h
 split at h
 ·refine Awp.cast ?_ ?_ ?_ (Noe _ _ h)<;>kernel_rfl
 ·simp[Ans.no,Ans.run] at h
end Go.Rv
