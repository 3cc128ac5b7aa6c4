/-
  The checked code answers as the plain functions do; written by program. Conditions: none.
-/
import Derived.Test.YtihgceegapfngadGreatDoorGFnReadJournal
import Derived.Test.YtihgceegapfngadGreatDoorFB
import Derived.Test.YtihgceegapfngadGreatDoorFB
import Derived.Test.YtihgceegapfngadGreatDoorFB
import Derived.Test.YtihgceegapfngadGreatDoorProg
set_option linter.unusedVariables false
set_option linter.unusedSimpArgs false
set_option linter.defProp false
set_option maxRecDepth 100000
namespace Go.Rv
open Go.Proofs
theorem ty3:TIOk Tryz.prog 3 ⟨.int .i64,1,8,some (.int .i64),[.int .i64 0],false⟩:=⟨⟨infoOf (Tryz.prog.info? 3),by kernel_rfl,by kernel_rfl,by kernel_rfl,.int .i64 0,by kernel_rfl,by kernel_rfl⟩,(by kernel_rfl:Tryz.prog.underlying 3=some (.int .i64)),no_eq⟩
theorem ty4:TIOk Tryz.prog 4 ⟨.bool,1,1,some .bool,[.bool false],false⟩:=⟨⟨infoOf (Tryz.prog.info? 4),by kernel_rfl,by kernel_rfl,by kernel_rfl,.bool false,by kernel_rfl,by kernel_rfl⟩,(by kernel_rfl:Tryz.prog.underlying 4=some .bool),no_eq⟩
theorem ty5:TIOk Tryz.prog 5 ⟨.int .u8,1,1,some (.int .u8),[.int .u8 0],false⟩:=⟨⟨infoOf (Tryz.prog.info? 5),by kernel_rfl,by kernel_rfl,by kernel_rfl,.int .u8 0,by kernel_rfl,by kernel_rfl⟩,(by kernel_rfl:Tryz.prog.underlying 5=some (.int .u8)),no_eq⟩
theorem ty9:TIOk Tryz.prog 9 ⟨.str,1,16,some .str,[.string ByteArray.empty],false⟩:=⟨⟨infoOf (Tryz.prog.info? 9),by kernel_rfl,by kernel_rfl,by kernel_rfl,.string ByteArray.empty,by kernel_rfl,by kernel_rfl⟩,(by kernel_rfl:Tryz.prog.underlying 9=some .string),no_eq⟩
theorem ty22:TIOk Tryz.prog 22 ⟨.slice 5,1,24,some (.list (.int .u8)),[.slice none 0 0],false⟩:=⟨⟨infoOf (Tryz.prog.info? 22),by kernel_rfl,by kernel_rfl,by kernel_rfl,.slice none 0 0,by kernel_rfl,by kernel_rfl⟩,(by kernel_rfl:Tryz.prog.underlying 22=some (.slice 5)),no_eq⟩
theorem ty24:TIOk Tryz.prog 24 ⟨.slice 39,1,24,some (.list (.pair (.int .i64) (.pair (.int .i64) (.pair (.int .i64) .unit)))),[.slice none 0 0],false⟩:=⟨⟨infoOf (Tryz.prog.info? 24),by kernel_rfl,by kernel_rfl,by kernel_rfl,.slice none 0 0,by kernel_rfl,by kernel_rfl⟩,(by kernel_rfl:Tryz.prog.underlying 24=some (.slice 39)),no_eq⟩
theorem ty28:TIOk Tryz.prog 28 ⟨.slice 3,1,24,some (.list (.int .i64)),[.slice none 0 0],false⟩:=⟨⟨infoOf (Tryz.prog.info? 28),by kernel_rfl,by kernel_rfl,by kernel_rfl,.slice none 0 0,by kernel_rfl,by kernel_rfl⟩,(by kernel_rfl:Tryz.prog.underlying 28=some (.slice 3)),no_eq⟩
theorem ty29:TIOk Tryz.prog 29 ⟨.slice 28,1,24,some (.list (.list (.int .i64))),[.slice none 0 0],false⟩:=⟨⟨infoOf (Tryz.prog.info? 29),by kernel_rfl,by kernel_rfl,by kernel_rfl,.slice none 0 0,by kernel_rfl,by kernel_rfl⟩,(by kernel_rfl:Tryz.prog.underlying 29=some (.slice 28)),no_eq⟩
theorem ty31:TIOk Tryz.prog 31 ⟨.strct [(0,28),(1,29)],2,48,some (.pair (.list (.int .i64)) (.pair (.list (.list (.int .i64))) .unit)),[.slice none 0 0,.slice none 0 0],false⟩:=⟨⟨infoOf (Tryz.prog.info? 31),by kernel_rfl,by kernel_rfl,by kernel_rfl,.agg #[.slice none 0 0,.slice none 0 0],by kernel_rfl,by kernel_rfl⟩,⟨fieldsOf (Tryz.prog.underlying 31),by kernel_rfl,by kernel_rfl⟩,no_eq⟩
theorem ty39:TIOk Tryz.prog 39 ⟨.strct [(0,3),(1,3),(2,3)],3,24,some (.pair (.int .i64) (.pair (.int .i64) (.pair (.int .i64) .unit))),[.int .i64 0,.int .i64 0,.int .i64 0],true⟩:=⟨⟨infoOf (Tryz.prog.info? 39),by kernel_rfl,by kernel_rfl,by kernel_rfl,.agg #[.int .i64 0,.int .i64 0,.int .i64 0],by kernel_rfl,by kernel_rfl⟩,⟨fieldsOf (Tryz.prog.underlying 39),by kernel_rfl,by kernel_rfl⟩,fun _=>by kernel_rfl⟩
theorem ty63:TIOk Tryz.prog 63 ⟨.arr 6 9,6,96,none,[.string ByteArray.empty,.string ByteArray.empty,.string ByteArray.empty,.string ByteArray.empty,.string ByteArray.empty,.string ByteArray.empty],false⟩:=⟨⟨infoOf (Tryz.prog.info? 63),by kernel_rfl,by kernel_rfl,by kernel_rfl,.agg #[.string ByteArray.empty,.string ByteArray.empty,.string ByteArray.empty,.string ByteArray.empty,.string ByteArray.empty,.string ByteArray.empty],by kernel_rfl,by kernel_rfl⟩,(by kernel_rfl:Tryz.prog.underlying 63=some (.array 6 9)),no_eq⟩
theorem ty76:TIOk Tryz.prog 76 ⟨.strct [(0,22),(1,3)],2,32,some (.pair (.list (.int .u8)) (.pair (.int .i64) .unit)),[.slice none 0 0,.int .i64 0],false⟩:=⟨⟨infoOf (Tryz.prog.info? 76),by kernel_rfl,by kernel_rfl,by kernel_rfl,.agg #[.slice none 0 0,.int .i64 0],by kernel_rfl,by kernel_rfl⟩,⟨fieldsOf (Tryz.prog.underlying 76),by kernel_rfl,by kernel_rfl⟩,no_eq⟩
theorem ty78:TIOk Tryz.prog 78 ⟨.slice 9,1,24,some (.list .str),[.slice none 0 0],false⟩:=⟨⟨infoOf (Tryz.prog.info? 78),by kernel_rfl,by kernel_rfl,by kernel_rfl,.slice none 0 0,by kernel_rfl,by kernel_rfl⟩,(by kernel_rfl:Tryz.prog.underlying 78=some (.slice 9)),no_eq⟩
theorem ty111:TIOk Tryz.prog 111 ⟨.strct [(0,28),(1,3),(2,3)],3,40,some (.pair (.list (.int .i64)) (.pair (.int .i64) (.pair (.int .i64) .unit))),[.slice none 0 0,.int .i64 0,.int .i64 0],false⟩:=⟨⟨infoOf (Tryz.prog.info? 111),by kernel_rfl,by kernel_rfl,by kernel_rfl,.agg #[.slice none 0 0,.int .i64 0,.int .i64 0],by kernel_rfl,by kernel_rfl⟩,⟨fieldsOf (Tryz.prog.underlying 111),by kernel_rfl,by kernel_rfl⟩,no_eq⟩
theorem ty128:TIOk Tryz.prog 128 ⟨.int .u64,1,8,some (.int .u64),[.int .u64 0],false⟩:=⟨⟨infoOf (Tryz.prog.info? 128),by kernel_rfl,by kernel_rfl,by kernel_rfl,.int .u64 0,by kernel_rfl,by kernel_rfl⟩,(by kernel_rfl:Tryz.prog.underlying 128=some (.int .u64)),no_eq⟩
theorem ty133:TIOk Tryz.prog 133 ⟨.int .u64,1,8,some (.int .u64),[.int .u64 0],false⟩:=⟨⟨infoOf (Tryz.prog.info? 133),by kernel_rfl,by kernel_rfl,by kernel_rfl,.int .u64 0,by kernel_rfl,by kernel_rfl⟩,(by kernel_rfl:Tryz.prog.underlying 133=some (.int .u64)),no_eq⟩
theorem ty229:TIOk Tryz.prog 229 ⟨.arr 9 4,9,9,none,[.bool false,.bool false,.bool false,.bool false,.bool false,.bool false,.bool false,.bool false,.bool false],false⟩:=⟨⟨infoOf (Tryz.prog.info? 229),by kernel_rfl,by kernel_rfl,by kernel_rfl,.agg #[.bool false,.bool false,.bool false,.bool false,.bool false,.bool false,.bool false,.bool false,.bool false],by kernel_rfl,by kernel_rfl⟩,(by kernel_rfl:Tryz.prog.underlying 229=some (.array 9 4)),no_eq⟩
theorem ty238:TIOk Tryz.prog 238 ⟨.arr 64 5,64,64,none,[.int .u8 0,.int .u8 0,.int .u8 0,.int .u8 0,.int .u8 0,.int .u8 0,.int .u8 0,.int .u8 0,.int .u8 0,.int .u8 0,.int .u8 0,.int .u8 0,.int .u8 0,.int .u8 0,.int .u8 0,.int .u8 0,.int .u8 0,.int .u8 0,.int .u8 0,.int .u8 0,.int .u8 0,.int .u8 0,.int .u8 0,.int .u8 0,.int .u8 0,.int .u8 0,.int .u8 0,.int .u8 0,.int .u8 0,.int .u8 0,.int .u8 0,.int .u8 0,.int .u8 0,.int .u8 0,.int .u8 0,.int .u8 0,.int .u8 0,.int .u8 0,.int .u8 0,.int .u8 0,.int .u8 0,.int .u8 0,.int .u8 0,.int .u8 0,.int .u8 0,.int .u8 0,.int .u8 0,.int .u8 0,.int .u8 0,.int .u8 0,.int .u8 0,.int .u8 0,.int .u8 0,.int .u8 0,.int .u8 0,.int .u8 0,.int .u8 0,.int .u8 0,.int .u8 0,.int .u8 0,.int .u8 0,.int .u8 0,.int .u8 0,.int .u8 0],false⟩:=⟨⟨infoOf (Tryz.prog.info? 238),by kernel_rfl,by kernel_rfl,by kernel_rfl,.agg #[.int .u8 0,.int .u8 0,.int .u8 0,.int .u8 0,.int .u8 0,.int .u8 0,.int .u8 0,.int .u8 0,.int .u8 0,.int .u8 0,.int .u8 0,.int .u8 0,.int .u8 0,.int .u8 0,.int .u8 0,.int .u8 0,.int .u8 0,.int .u8 0,.int .u8 0,.int .u8 0,.int .u8 0,.int .u8 0,.int .u8 0,.int .u8 0,.int .u8 0,.int .u8 0,.int .u8 0,.int .u8 0,.int .u8 0,.int .u8 0,.int .u8 0,.int .u8 0,.int .u8 0,.int .u8 0,.int .u8 0,.int .u8 0,.int .u8 0,.int .u8 0,.int .u8 0,.int .u8 0,.int .u8 0,.int .u8 0,.int .u8 0,.int .u8 0,.int .u8 0,.int .u8 0,.int .u8 0,.int .u8 0,.int .u8 0,.int .u8 0,.int .u8 0,.int .u8 0,.int .u8 0,.int .u8 0,.int .u8 0,.int .u8 0,.int .u8 0,.int .u8 0,.int .u8 0,.int .u8 0,.int .u8 0,.int .u8 0,.int .u8 0,.int .u8 0],by kernel_rfl,by kernel_rfl⟩,(by kernel_rfl:Tryz.prog.underlying 238=some (.array 64 5)),no_eq⟩
def tys:List (TypeId×TI):=[(3,⟨.int .i64,1,8,some (.int .i64),[.int .i64 0],false⟩),(4,⟨.bool,1,1,some .bool,[.bool false],false⟩),(5,⟨.int .u8,1,1,some (.int .u8),[.int .u8 0],false⟩),(9,⟨.str,1,16,some .str,[.string ByteArray.empty],false⟩),(22,⟨.slice 5,1,24,some (.list (.int .u8)),[.slice none 0 0],false⟩),(24,⟨.slice 39,1,24,some (.list (.pair (.int .i64) (.pair (.int .i64) (.pair (.int .i64) .unit)))),[.slice none 0 0],false⟩),(28,⟨.slice 3,1,24,some (.list (.int .i64)),[.slice none 0 0],false⟩),(29,⟨.slice 28,1,24,some (.list (.list (.int .i64))),[.slice none 0 0],false⟩),(31,⟨.strct [(0,28),(1,29)],2,48,some (.pair (.list (.int .i64)) (.pair (.list (.list (.int .i64))) .unit)),[.slice none 0 0,.slice none 0 0],false⟩),(39,⟨.strct [(0,3),(1,3),(2,3)],3,24,some (.pair (.int .i64) (.pair (.int .i64) (.pair (.int .i64) .unit))),[.int .i64 0,.int .i64 0,.int .i64 0],true⟩),(63,⟨.arr 6 9,6,96,none,[.string ByteArray.empty,.string ByteArray.empty,.string ByteArray.empty,.string ByteArray.empty,.string ByteArray.empty,.string ByteArray.empty],false⟩),(76,⟨.strct [(0,22),(1,3)],2,32,some (.pair (.list (.int .u8)) (.pair (.int .i64) .unit)),[.slice none 0 0,.int .i64 0],false⟩),(78,⟨.slice 9,1,24,some (.list .str),[.slice none 0 0],false⟩),(111,⟨.strct [(0,28),(1,3),(2,3)],3,40,some (.pair (.list (.int .i64)) (.pair (.int .i64) (.pair (.int .i64) .unit))),[.slice none 0 0,.int .i64 0,.int .i64 0],false⟩),(128,⟨.int .u64,1,8,some (.int .u64),[.int .u64 0],false⟩),(133,⟨.int .u64,1,8,some (.int .u64),[.int .u64 0],false⟩),(229,⟨.arr 9 4,9,9,none,[.bool false,.bool false,.bool false,.bool false,.bool false,.bool false,.bool false,.bool false,.bool false],false⟩),(238,⟨.arr 64 5,64,64,none,[.int .u8 0,.int .u8 0,.int .u8 0,.int .u8 0,.int .u8 0,.int .u8 0,.int .u8 0,.int .u8 0,.int .u8 0,.int .u8 0,.int .u8 0,.int .u8 0,.int .u8 0,.int .u8 0,.int .u8 0,.int .u8 0,.int .u8 0,.int .u8 0,.int .u8 0,.int .u8 0,.int .u8 0,.int .u8 0,.int .u8 0,.int .u8 0,.int .u8 0,.int .u8 0,.int .u8 0,.int .u8 0,.int .u8 0,.int .u8 0,.int .u8 0,.int .u8 0,.int .u8 0,.int .u8 0,.int .u8 0,.int .u8 0,.int .u8 0,.int .u8 0,.int .u8 0,.int .u8 0,.int .u8 0,.int .u8 0,.int .u8 0,.int .u8 0,.int .u8 0,.int .u8 0,.int .u8 0,.int .u8 0,.int .u8 0,.int .u8 0,.int .u8 0,.int .u8 0,.int .u8 0,.int .u8 0,.int .u8 0,.int .u8 0,.int .u8 0,.int .u8 0,.int .u8 0,.int .u8 0,.int .u8 0,.int .u8 0,.int .u8 0,.int .u8 0],false⟩)]
theorem tys_ok:TOk Tryz.prog (tlook tys):=tok_of (allc ty3 (allc ty4 (allc ty5 (allc ty9 (allc ty22 (allc ty24 (allc ty28 (allc ty29 (allc ty31 (allc ty39 (allc ty63 (allc ty76 (allc ty78 (allc ty111 (allc ty128 (allc ty133 (allc ty229 (allc ty238 alln))))))))))))))))))
def ioF (f:FuncId) (i:Nat):Bool:=[(100,1),(150,0),(173,0),(188,0),(30,1000),(105,1000),(106,1000)].any fun(p:Nat×Nat)=>Nat.beq p.1 f&&Nat.beq p.2 i
def Ng2:Ann:=(.seq (.leaf [0]) (.seq (.seq (.leaf [0,5]) (.cond (.leaf [0]) (.leaf [0]))) (.seq (.leaf [2]) (.leaf [2]))))
noncomputable def Net:Ctx:=⟨tlook tys,olook [],ioF,0,false,[]⟩
theorem Nv0 (a:List Int):Link Net LL (bodyOf Tryz.f16) Ng2 ⟨mkE 11 0 [(0,dV a)],[]⟩ (Nc4 a) (fun(t:(List Int))=>(Exit.ret,⟨mkE 11 0 [(2,.ptr 0 0)],[some (.box [dV t,dI 0])]⟩)):= .of fun K h=>by
 simp only[Nc4,wpW] at h
 exact .of (by kernel_rfl) h
theorem Nrr (a:List Int) {r:AV} {H':Heap} (h:(Ans.mk _ (N3j a) (fun(t:(List Int))=>(.ptr 0 0,[some (.box [dV t,dI 0])])) [] none).run=some (r,H')):Awp Net LL (bodyOf Tryz.f16) Ng2 ⟨mkE 11 0 [(0,dV a)],[]⟩ (Ret (tlook tys) Tryz.f16.results.toList r H'):=
 ret_of' (Nv0 a) (by unfold N3j;kernel_rfl) (by
 intro t
 exact ret_mk [.ptr 0 0] (by kernel_rfl) (by kernel_rfl) (by kernel_rfl) (by kernel_rfl)) h
def N7t:Fun:=fun avs H=>
 match avs,H with
 |[.dat (.list (.int .u8)) a],[]=>⟨_,N3j a,fun(t:(List Int))=>(.ptr 0 0,[some (.box [dV t,dI 0])]),[],none⟩
 |_,_=>Ans.no
theorem Nn9:Sound Tryz.prog 16 N7t:=by
 refine fn_sound' (C:=Net) (c:=bodyOf Tryz.f16) (cok_of tys_ok (alln) (alln) (by kernel_rfl)) Tryz.func16 (by kernel_rfl) LL Ng2 ?_
 intro avs H r H' h
 unfold N7t at h
 split at h
 ·refine Awp.cast ?_ ?_ ?_ (Nrr _ h)<;>kernel_rfl
 ·simp[Ans.no,Ans.run] at h
def New:Ann:=(.seq (.leaf [0,1]) (.seq (.leaf [0,1]) (.seq (.seq (.leaf [0,1,24]) (.cond (.seq (.leaf [4]) (.leaf [4])) (.leaf [0,1]))) (.seq (.leaf [0,1,5]) (.seq (.seq (.leaf [0,1,5,36]) (.cond (.seq (.leaf [4]) (.leaf [4])) (.leaf [0,1,5]))) (.seq (.draw [] [0,1,2,3,4,5,6,7,8,9,10,11,12,13,14,15,16,17,18,19,20,21,22,23,24,25,26,27,28,29,30,31,32,33,34,35,36,37,38,39,40,41,42,43,44,45] [] [1,6]) (.seq (.leaf [1,6]) (.seq (.leaf [4]) (.leaf [4])))))))))
noncomputable def Ned:Ctx:=⟨tlook tys,olook [],ioF,1,false,[]⟩
theorem Nwt (a:Int) (b:List Int) (c:Int):Link Ned LL (bodyOf Tryz.f19) New ⟨mkE 99 0 [(0,.ptr 0 0),(1,dI a)],[some (.box [dV b,dI c])]⟩ (N7r a b c) (fun(t:Int×Int)=>(Exit.ret,⟨mkE 99 0 [(4,dI t.1)],[some (.box [dV b,dI t.2])]⟩)):= .of fun K h=>by
 simp only[N7r,wpW] at h
 exact .of (by kernel_rfl) h
theorem Nuw (a:Int) (b:List Int) (c:Int) {r:AV} {H':Heap} (h:(Ans.mk _ (N0 a b c) (fun(t:Int×Int)=>(dI t.1,[some (.box [dV b,dI t.2])])) [] none).run=some (r,H')):Awp Ned LL (bodyOf Tryz.f19) New ⟨mkE 99 0 [(0,.ptr 0 0),(1,dI a)],[some (.box [dV b,dI c])]⟩ (Ret (tlook tys) Tryz.f19.results.toList r H'):=
 ret_of' (Nwt a b c) (by unfold N0;kernel_rfl) (by
 intro t
 exact ret_mk [dI t.1] (by kernel_rfl) (by kernel_rfl) (by kernel_rfl) (by kernel_rfl)) h
def Nk:Fun:=fun avs H=>
 match avs,H with
 |[.ptr 0 0,.dat (.int .i64) a],[some (.box [.dat (.list (.int .u8)) b,.dat (.int .i64) c])]=>⟨_,N0 a b c,fun(t:Int×Int)=>(dI t.1,[some (.box [dV b,dI t.2])]),[],none⟩
 |_,_=>Ans.no
theorem Nu:Sound Tryz.prog 19 Nk:=by
 refine fn_sound' (C:=Ned) (c:=bodyOf Tryz.f19) (cok_of tys_ok (alln) (alln) (by kernel_rfl)) Tryz.func19 (by kernel_rfl) LL New ?_
 intro avs H r H' h
 unfold Nk at h
 split at h
 ·refine Awp.cast ?_ ?_ ?_ (Nuw _ _ _ h)<;>kernel_rfl
 ·simp[Ans.no,Ans.run] at h
def Nw:Ann:=(.seq (.leaf [0,1]) (.seq (.leaf [0,1,5]) (.seq (.leaf [0,1,5,6]) (.seq (.seq (.leaf [0,1,5,6,7]) (.block (.loop (.seq (.seq (.leaf [0,1,5,6,7,15]) (.cond (.leaf [0,1,5,6,7]) (.leaf [5]))) (.seq (.block (.seq (.leaf [0,1,5,6,7,8]) (.seq (.seq (.leaf [0,1,5,6,7,8,26]) (.cond (.leaf [0,1,5,6,7,8]) (.leaf [0,1,5,6,7,8]))) (.seq (.leaf [0,1,5,6,7,8,9]) (.seq (.leaf [0,1,5,6,7,8,9]) (.leaf [0,1,5,6,7])))))) (.leaf [0,1,5,6,7])))))) (.seq (.leaf [4]) (.leaf [4]))))))
noncomputable def N5p:Ctx:=⟨tlook tys,olook [(19,Nk)],ioF,1,false,[]⟩
theorem Nxj (a:Int) (b:List Int) (c:Int):Link N5p LL (Code.seq (cq [0] (bodyOf Tryz.f66)) (Code.seq (cq [0,1] (bodyOf Tryz.f66)) (cq [0,1,1] (bodyOf Tryz.f66)))) (Ann.seq (aq [0] Nw) (Ann.seq (aq [0,1] Nw) (aq [0,1,1] Nw))) ⟨mkE 45 0 [(0,.ptr 0 0),(1,dI a)],[some (.box [dV b,dI c])]⟩ (Ncc b c) (fun(t:Int×Int)=>(Exit.normal,⟨mkE 45 0 [(0,.ptr 0 0),(1,dI a),(5,.slc 1),(6,dI t.1)],[some (.box [dV b,dI t.2]),some (sI ([]:List Int))]⟩)):= .of fun K h=>by
 simp only[Ncc,wpW] at h
 exact .of (by kernel_rfl) h
theorem Nsi (a b:Int) (c:List Int) (d:Int):Link N5p LL (cq [0,0,1,1,1] (bodyOf Tryz.f66)) (aq [0,0,1,1,1] Nw) ⟨mkE 45 0 [(0,.ptr 0 0),(1,dI a),(5,.slc 1),(6,dI b)],[some (.box [dV c,dI d]),some (sI ([]:List Int))]⟩ (Ncj) (fun(t:Unit)=>(Exit.normal,⟨mkE 45 0 [(0,.ptr 0 0),(1,dI a),(5,.slc 1),(6,dI b),(7,dI 1)],[some (.box [dV c,dI d]),some (sI ([]:List Int))]⟩)):= .of fun K h=>by
 simp only[Ncj,wpW] at h
 exact .of (by kernel_rfl) h
theorem N14g (a b c:Int) (d:List Int) (g:Int) (i:List Int):Link N5p LL (cq [0,0,1,0,1,1,1] (bodyOf Tryz.f66)) (aq [0,0,1,0,1,1,1] Nw) ⟨mkE 45 0 [(0,.ptr 0 0),(1,dI a),(5,.slc 1),(6,dI b),(7,dI c)],[some (.box [dV d,dI g]),some (sI i)]⟩ (N7o a b c d g i) (Sum.elim (fun(t:Int×Int×(List Int))=>(Exit.normal,⟨mkE 45 0 [(0,.ptr 0 0),(1,dI a),(5,.slc 1),(6,dI b),(7,dI t.1)],[some (.box [dV d,dI t.2.1]),some (sI t.2.2)]⟩)) (fun(t:Int×(List Int))=>((Exit.exit 0),⟨mkE 45 0 [(5,.slc 1)],[some (.box [dV d,dI t.1]),some (sI t.2)]⟩))):= .of fun K h=>by
 simp only[N7o,wpW] at h
 exact .of (by kernel_rfl) h
theorem Nq7 (a:List Int) (b:Int) (c:List Int):Link N5p LL (cq [1,1,1,1] (bodyOf Tryz.f66)) (aq [1,1,1,1] Nw) ⟨mkE 45 0 [(5,.slc 1)],[some (.box [dV a,dI b]),some (sI c)]⟩ (Ncy b c) (fun(t:Int×(List Int))=>(Exit.ret,⟨mkE 45 0 [(4,.slc 1)],[some (.box [dV a,dI t.1]),some (sI t.2)]⟩)):= .of fun K h=>by
 simp only[Ncy,wpW] at h
 exact .of (by kernel_rfl) h
theorem N16c (b:Int) (d:List Int) (g:Int) {r:AV} {H':Heap} (h:(Ans.mk _ (N3g b d g) (fun(t:Int×(List Int))=>(.slc 1,[some (.box [dV d,dI t.1]),some (sI t.2)])) [] none).run=some (r,H')):Awp N5p LL (bodyOf Tryz.f66) Nw ⟨mkE 45 0 [(0,.ptr 0 0),(1,dI b)],[some (.box [dV d,dI g])]⟩ (Ret (tlook tys) Tryz.f66.results.toList r H'):=
 ret_of' (Link.cast (by kernel_rfl) (by kernel_rfl) (link_group (c:=(cq [0,1,1] (bodyOf Tryz.f66))) (a:=(aq [0,1,1] Nw)) [(cq [0] (bodyOf Tryz.f66)),(cq [0,1] (bodyOf Tryz.f66))] [(aq [0] Nw),(aq [0,1] Nw)] rfl (link_seq (Nxj b d g) (fun(t:Int×Int)=>(link_seq (link_seq (Nsi b t.1 d t.2) (fun(t40:Unit)=>(link_block (fin2:=(fun(t40:Int×(List Int))=>(Exit.normal,⟨mkE 45 0 [(5,.slc 1)],[some (.box [dV d,dI t40.1]),some (sI t40.2)]⟩))) (id:=0) (link_loop (mk:=fun(s:Int×Int×(List Int))=>⟨mkE 45 0 [(0,.ptr 0 0),(1,dI b),(5,.slc 1),(6,dI t.1),(7,dI s.1)],[some (.box [dV d,dI s.2.1]),some (sI s.2.2)]⟩) (fin:=(fun(t40:Int×(List Int))=>((Exit.exit 0),⟨mkE 45 0 [(5,.slc 1)],[some (.box [dV d,dI t40.1]),some (sI t40.2)]⟩))) (by
 rintro t40 f K h
 ·exact h) (fun s=>link_map (N14g b t.1 s.1 d s.2.1 s.2.2) (Sum.elim (fun(t40:Int×Int×(List Int))=>Sum.inl (t40.1,t40.2.1,t40.2.2)) (fun(t40:Int×(List Int))=>Sum.inr t40)) (by
 rintro(t40|t40)
 ·kernel_rfl
 ·kernel_rfl)) (1,t.2,([]:List Int))) (fun(t40:Int×(List Int))=>(t40.1,t40.2)) (by
 rintro t40 K h
 ·exact Eq.mp (by kernel_rfl) h)))) (fun(t40:Int×(List Int))=>(Nq7 d t40.1 t40.2))))))) (by unfold N3g;kernel_rfl) (by
 intro t
 exact ret_mk [.slc 1] (by kernel_rfl) (by kernel_rfl) (by kernel_rfl) (by kernel_rfl)) h
def N8s:Fun:=fun avs H=>
 match avs,H with
 |[.ptr 0 0,.dat (.int .i64) a],[some (.box [.dat (.list (.int .u8)) b,.dat (.int .i64) c])]=>⟨_,N3g a b c,fun(t:Int×(List Int))=>(.slc 1,[some (.box [dV b,dI t.1]),some (sI t.2)]),[],none⟩
 |_,_=>Ans.no
theorem Np6:Sound Tryz.prog 66 N8s:=by
 refine fn_sound' (C:=N5p) (c:=bodyOf Tryz.f66) (cok_of tys_ok (allc Nu alln) (allc Tryz.call19 alln) (by kernel_rfl)) Tryz.func66 (by kernel_rfl) LL Nw ?_
 intro avs H r H' h
 unfold N8s at h
 split at h
 ·refine Awp.cast ?_ ?_ ?_ (N16c _ _ _ h)<;>kernel_rfl
 ·simp[Ans.no,Ans.run] at h
def Nhd:Ann:=(.seq (.leaf [0,1]) (.seq (.leaf [4]) (.leaf [4])))
noncomputable def Neb:Ctx:=⟨tlook tys,olook [(19,Nk)],ioF,1,false,[]⟩
theorem N148 (a:Int) (b:List Int) (c:Int):Link Neb LL (bodyOf Tryz.f25) Nhd ⟨mkE 15 0 [(0,.ptr 0 0),(1,dI a)],[some (.box [dV b,dI c])]⟩ (N7y a b c) (fun(t:Bool×Int)=>(Exit.ret,⟨mkE 15 0 [(4,dB t.1)],[some (.box [dV b,dI t.2])]⟩)):= .of fun K h=>by
 simp only[N7y,wpW] at h
 exact .of (by kernel_rfl) h
theorem Nz0 (a:Int) (b:List Int) (c:Int) {r:AV} {H':Heap} (h:(Ans.mk _ (Np a b c) (fun(t:Bool×Int)=>(dB t.1,[some (.box [dV b,dI t.2])])) [] none).run=some (r,H')):Awp Neb LL (bodyOf Tryz.f25) Nhd ⟨mkE 15 0 [(0,.ptr 0 0),(1,dI a)],[some (.box [dV b,dI c])]⟩ (Ret (tlook tys) Tryz.f25.results.toList r H'):=
 ret_of' (N148 a b c) (by unfold Np;kernel_rfl) (by
 intro t
 exact ret_mk [dB t.1] (by kernel_rfl) (by kernel_rfl) (by kernel_rfl) (by kernel_rfl)) h
def N49:Fun:=fun avs H=>
 match avs,H with
 |[.ptr 0 0,.dat (.int .i64) a],[some (.box [.dat (.list (.int .u8)) b,.dat (.int .i64) c])]=>⟨_,Np a b c,fun(t:Bool×Int)=>(dB t.1,[some (.box [dV b,dI t.2])]),[],none⟩
 |_,_=>Ans.no
theorem Nb8:Sound Tryz.prog 25 N49:=by
 refine fn_sound' (C:=Neb) (c:=bodyOf Tryz.f25) (cok_of tys_ok (allc Nu alln) (allc Tryz.call19 alln) (by kernel_rfl)) Tryz.func25 (by kernel_rfl) LL Nhd ?_
 intro avs H r H' h
 unfold N49 at h
 split at h
 ·refine Awp.cast ?_ ?_ ?_ (Nz0 _ _ _ h)<;>kernel_rfl
 ·simp[Ans.no,Ans.run] at h
def N7:Ann:=(.seq (.leaf [0,1]) (.seq (.leaf [0,1,5]) (.seq (.leaf [0,1,5,6]) (.seq (.leaf [0,1,5,6,7]) (.seq (.leaf [0,1,5,6,7,8]) (.seq (.seq (.leaf [0,1,5,6,7,8,9]) (.block (.loop (.seq (.seq (.leaf [0,1,5,6,7,8,9,23]) (.cond (.leaf [0,1,5,6,7,8,9]) (.leaf [0,1,5,7]))) (.seq (.block (.seq (.leaf [0,1,5,6,7,8,9,10]) (.seq (.seq (.leaf [0,1,5,6,7,8,9,10,35]) (.cond (.leaf [0,1,5,6,7,8,9,10]) (.leaf [0,1,5,6,7,8,9,10]))) (.draw [] [0,1,2,3,4,5,6,7,8,9,10,11] [] [0,1,5,6,7,8,9])))) (.leaf [0,1,5,6,7,8,9])))))) (.seq (.seq (.leaf [0,5,7,51]) (.cond (.seq (.leaf [0,5,7,53]) (.block (.seq (.leaf [0,5,7,53,63]) (.cond (.seq (.leaf [4]) (.leaf [4])) (.seq (.leaf [0,5,7,53,66]) (.cond (.seq (.leaf [4]) (.leaf [4])) (.seq (.leaf [0,5,7,69]) (.cond (.seq (.leaf [7]) (.seq (.leaf [4]) (.leaf [4]))) (.leaf [7]))))))))) (.leaf [7]))) (.seq (.leaf [4]) (.leaf [4])))))))))
noncomputable def N4b:Ctx:=⟨tlook tys,olook [(19,Nk),(66,N8s),(25,N49)],ioF,1,false,[]⟩
theorem Nw5 (a:Int) (b:List Int) (c:Int):Link N4b LL (Code.seq (cq [0] (bodyOf Tryz.f64)) (Code.seq (cq [0,1] (bodyOf Tryz.f64)) (Code.seq (cq [0,1,1] (bodyOf Tryz.f64)) (Code.seq (cq [0,1,1,1] (bodyOf Tryz.f64)) (cq [0,1,1,1,1] (bodyOf Tryz.f64)))))) (Ann.seq (aq [0] N7) (Ann.seq (aq [0,1] N7) (Ann.seq (aq [0,1,1] N7) (Ann.seq (aq [0,1,1,1] N7) (aq [0,1,1,1,1] N7))))) ⟨mkE 80 0 [(0,.ptr 0 0),(1,dI a)],[some (.box [dV b,dI c])]⟩ (N8z b c) (fun(t:Int×Int×Int×(List Int)×(List Int))=>(Exit.normal,⟨mkE 80 0 [(0,.ptr 0 0),(1,dI a),(5,dI t.1),(6,.slc 1),(7,.slc 2),(8,dI t.2.1)],[some (.box [dV b,dI t.2.2.1]),some (sI t.2.2.2.1),some (sI t.2.2.2.2)]⟩)):= .of fun K h=>by
 simp only[N8z,wpW] at h
 exact .of (by kernel_rfl) h
theorem N166 (a b c:Int) (d:List Int) (g:Int) (i j:List Int):Link N4b LL (cq [0,0,1,1,1,1,1] (bodyOf Tryz.f64)) (aq [0,0,1,1,1,1,1] N7) ⟨mkE 80 0 [(0,.ptr 0 0),(1,dI a),(5,dI b),(6,.slc 1),(7,.slc 2),(8,dI c)],[some (.box [dV d,dI g]),some (sI i),some (sI j)]⟩ (Nay) (fun(t:Unit)=>(Exit.normal,⟨mkE 80 0 [(0,.ptr 0 0),(1,dI a),(5,dI b),(6,.slc 1),(7,.slc 2),(8,dI c),(9,dI 1)],[some (.box [dV d,dI g]),some (sI i),some (sI j)]⟩)):= .of fun K h=>by
 simp only[Nay,wpW] at h
 exact .of (by kernel_rfl) h
theorem N13o (a b c d:Int) (g:List Int) (i:Int) (j k:List Int):Link N4b LL (cq [0,0,1,0,1,1,1,1,1] (bodyOf Tryz.f64)) (aq [0,0,1,0,1,1,1,1,1] N7) ⟨mkE 80 0 [(0,.ptr 0 0),(1,dI a),(5,dI b),(6,.slc 1),(7,.slc 2),(8,dI c),(9,dI d)],[some (.box [dV g,dI i]),some (sI j),some (sI k)]⟩ (N6x b c d g i j k) (Sum.elim (fun(t:Int×Int×(List Int))=>(Exit.normal,⟨mkE 80 0 [(0,.ptr 0 0),(1,dI a),(5,dI b),(6,.slc 1),(7,.slc 2),(8,dI c),(9,dI t.1)],[some (.box [dV g,dI t.2.1]),some (sI j),some (sI t.2.2)]⟩)) (fun(t:Int×(List Int))=>((Exit.exit 0),⟨mkE 80 0 [(0,.ptr 0 0),(1,dI a),(5,dI b),(7,.slc 1)],[some (.box [dV g,dI t.1]),some (sI t.2)]⟩))):= .of fun K h=>by
 simp only[N6x,wpW] at h
 exact .of (by kernel_rfl) h
theorem Nq2 (a b:Int) (c:List Int) (d:Int) (g:List Int):Link N4b LL (cq [1,1,1,1,1,1] (bodyOf Tryz.f64)) (aq [1,1,1,1,1,1] N7) ⟨mkE 80 0 [(0,.ptr 0 0),(1,dI a),(5,dI b),(7,.slc 1)],[some (.box [dV c,dI d]),some (sI g)]⟩ (N9t a b c d g) (fun(t:Int×(List Int))=>(Exit.ret,⟨mkE 80 0 [(4,.slc 1)],[some (.box [dV c,dI t.1]),some (sI t.2)]⟩)):= .of fun K h=>by
 simp only[N9t,wpW] at h
 exact .of (by kernel_rfl) h
theorem Nx4 (b:Int) (d:List Int) (g:Int) {r:AV} {H':Heap} (h:(Ans.mk _ (N34 b d g) (fun(t:Int×(List Int))=>(.slc 1,[some (.box [dV d,dI t.1]),some (sI t.2)])) [] none).run=some (r,H')):Awp N4b LL (bodyOf Tryz.f64) N7 ⟨mkE 80 0 [(0,.ptr 0 0),(1,dI b)],[some (.box [dV d,dI g])]⟩ (Ret (tlook tys) Tryz.f64.results.toList r H'):=
 ret_of' (Link.cast (by kernel_rfl) (by kernel_rfl) (link_group (c:=(cq [0,1,1,1,1] (bodyOf Tryz.f64))) (a:=(aq [0,1,1,1,1] N7)) [(cq [0] (bodyOf Tryz.f64)),(cq [0,1] (bodyOf Tryz.f64)),(cq [0,1,1] (bodyOf Tryz.f64)),(cq [0,1,1,1] (bodyOf Tryz.f64))] [(aq [0] N7),(aq [0,1] N7),(aq [0,1,1] N7),(aq [0,1,1,1] N7)] rfl (link_seq (Nw5 b d g) (fun(t:Int×Int×Int×(List Int)×(List Int))=>(link_seq (link_seq (N166 b t.1 t.2.1 d t.2.2.1 t.2.2.2.1 t.2.2.2.2) (fun(t41:Unit)=>(link_block (fin2:=(fun(t41:Int×(List Int))=>(Exit.normal,⟨mkE 80 0 [(0,.ptr 0 0),(1,dI b),(5,dI t.1),(7,.slc 1)],[some (.box [dV d,dI t41.1]),some (sI t41.2)]⟩))) (id:=0) (link_loop (mk:=fun(s:Int×Int×(List Int))=>⟨mkE 80 0 [(0,.ptr 0 0),(1,dI b),(5,dI t.1),(6,.slc 1),(7,.slc 2),(8,dI t.2.1),(9,dI s.1)],[some (.box [dV d,dI s.2.1]),some (sI t.2.2.2.1),some (sI s.2.2)]⟩) (fin:=(fun(t41:Int×(List Int))=>((Exit.exit 0),⟨mkE 80 0 [(0,.ptr 0 0),(1,dI b),(5,dI t.1),(7,.slc 1)],[some (.box [dV d,dI t41.1]),some (sI t41.2)]⟩))) (by
 rintro t41 f K h
 ·exact h) (fun s=>link_map (N13o b t.1 t.2.1 s.1 d s.2.1 t.2.2.2.1 s.2.2) (Sum.elim (fun(t41:Int×Int×(List Int))=>Sum.inl (t41.1,t41.2.1,t41.2.2)) (fun(t41:Int×(List Int))=>Sum.inr t41)) (by
 rintro(t41|t41)
 ·kernel_rfl
 ·kernel_rfl)) (1,t.2.2.1,t.2.2.2.2)) (fun(t41:Int×(List Int))=>(t41.1,t41.2)) (by
 rintro t41 K h
 ·exact Eq.mp (by kernel_rfl) h)))) (fun(t41:Int×(List Int))=>(Nq2 b t.1 d t41.1 t41.2))))))) (by unfold N34;kernel_rfl) (by
 intro t
 exact ret_mk [.slc 1] (by kernel_rfl) (by kernel_rfl) (by kernel_rfl) (by kernel_rfl)) h
def N7v:Fun:=fun avs H=>
 match avs,H with
 |[.ptr 0 0,.dat (.int .i64) a],[some (.box [.dat (.list (.int .u8)) b,.dat (.int .i64) c])]=>⟨_,N34 a b c,fun(t:Int×(List Int))=>(.slc 1,[some (.box [dV b,dI t.1]),some (sI t.2)]),[],none⟩
 |_,_=>Ans.no
theorem Nnv:Sound Tryz.prog 64 N7v:=by
 refine fn_sound' (C:=N4b) (c:=bodyOf Tryz.f64) (cok_of tys_ok (allc Nu (allc Np6 (allc Nb8 alln))) (allc Tryz.call19 (allc Tryz.call66 (allc Tryz.call25 alln))) (by kernel_rfl)) Tryz.func64 (by kernel_rfl) LL N7 ?_
 intro avs H r H' h
 unfold N7v at h
 split at h
 ·refine Awp.cast ?_ ?_ ?_ (Nx4 _ _ _ h)<;>kernel_rfl
 ·simp[Ans.no,Ans.run] at h
def Ngo:Ann:=(.seq (.leaf [0,1,2]) (.seq (.leaf [6]) (.leaf [6])))
noncomputable def Ndb:Ctx:=⟨tlook tys,olook [],ioF,0,false,[]⟩
theorem N10g (a b c:Int):Link Ndb LL (bodyOf Tryz.f51) Ngo ⟨mkE 15 0 [(0,dI a),(1,dI b),(2,dI c)],[]⟩ (Ncq a b c) (fun(t:Bool)=>(Exit.ret,⟨mkE 15 0 [(6,dB t)],[]⟩)):= .of fun K h=>by
 simp only[Ncq,wpW] at h
 exact .of (by kernel_rfl) h
theorem N160 (a b c:Int) {r:AV} {H':Heap} (h:(Ans.mk _ (Na a b c) (fun(t:Bool)=>(dB t,[])) [] none).run=some (r,H')):Awp Ndb LL (bodyOf Tryz.f51) Ngo ⟨mkE 15 0 [(0,dI a),(1,dI b),(2,dI c)],[]⟩ (Ret (tlook tys) Tryz.f51.results.toList r H'):=
 ret_of' (N10g a b c) (by unfold Na;kernel_rfl) (by
 intro t
 exact ret_mk [dB t] (by kernel_rfl) (by kernel_rfl) (by kernel_rfl) (by kernel_rfl)) h
def N3p:Fun:=fun avs H=>
 match avs,H with
 |[.dat (.int .i64) a,.dat (.int .i64) b,.dat (.int .i64) c],[]=>⟨_,Na a b c,fun(t:Bool)=>(dB t,[]),[],none⟩
 |_,_=>Ans.no
theorem N7m:Sound Tryz.prog 51 N3p:=by
 refine fn_sound' (C:=Ndb) (c:=bodyOf Tryz.f51) (cok_of tys_ok (alln) (alln) (by kernel_rfl)) Tryz.func51 (by kernel_rfl) LL Ngo ?_
 intro avs H r H' h
 unfold N3p at h
 split at h
 ·refine Awp.cast ?_ ?_ ?_ (N160 _ _ _ h)<;>kernel_rfl
 ·simp[Ans.no,Ans.run] at h
def N2:Ann:=(.seq (.leaf [0]) (.seq (.leaf [0,3]) (.seq (.seq (.leaf [0,3,12]) (.cond (.seq (.leaf [2]) (.leaf [2])) (.leaf [0,3]))) (.seq (.leaf [0,3,4]) (.seq (.seq (.leaf [0,3,4,5]) (.block (.loop (.seq (.seq (.leaf [0,3,4,5,15]) (.cond (.leaf [0,3,4,5]) (.leaf [4]))) (.seq (.block (.seq (.seq (.leaf [0,3,4,5,33]) (.cond (.seq (.leaf [2]) (.leaf [2])) (.leaf [0,3,4,5]))) (.seq (.seq (.leaf [0,3,4,5,38]) (.cond (.leaf [0,3,4,5]) (.leaf [0,3,4,5]))) (.seq (.leaf [0,3,4,5,6]) (.seq (.seq (.leaf [0,3,4,5,6,7]) (.block (.loop (.seq (.seq (.leaf [0,3,4,5,6,7,49]) (.cond (.leaf [0,3,4,5,6,7]) (.leaf [0,3,4,5,6]))) (.seq (.block (.seq (.leaf [0,3,4,5,6,7]) (.seq (.leaf [0,3,4,5,6,7,60]) (.cond (.seq (.leaf [2]) (.leaf [2])) (.leaf [0,3,4,5,6,7]))))) (.leaf [0,3,4,5,6,7])))))) (.seq (.leaf [0,3,4,5,62]) (.cond (.seq (.leaf [2]) (.leaf [2])) (.leaf [0,3,4,5])))))))) (.leaf [0,3,4,5])))))) (.seq (.leaf [2]) (.leaf [2])))))))
noncomputable def Nx:Ctx:=⟨tlook tys,olook [(51,N3p)],ioF,0,false,[]⟩
theorem N12q (a:List Int):Link Nx LL (Code.seq (cq [0] (bodyOf Tryz.f27)) (Code.seq (cq [0,1] (bodyOf Tryz.f27)) (Code.seq (cq [0,1,1] (bodyOf Tryz.f27)) (cq [0,1,1,1] (bodyOf Tryz.f27))))) (Ann.seq (aq [0] N2) (Ann.seq (aq [0,1] N2) (Ann.seq (aq [0,1,1] N2) (aq [0,1,1,1] N2)))) ⟨mkE 65 0 [(0,dL a)],[]⟩ (N8k a) (Sum.elim (fun(t:Int)=>(Exit.normal,⟨mkE 65 0 [(0,dL a),(3,dI t),(4,dI 0)],[]⟩)) (fun(t:Bool)=>(Exit.ret,⟨mkE 65 0 [(2,dB t)],[]⟩))):= .of fun K h=>by
 simp only[N8k,wpW] at h
 exact .of (by kernel_rfl) h
theorem N103 (a:List Int) (b:Int):Link Nx LL (cq [0,0,1,1,1,1] (bodyOf Tryz.f27)) (aq [0,0,1,1,1,1] N2) ⟨mkE 65 0 [(0,dL a),(3,dI b),(4,dI 0)],[]⟩ (N7w) (fun(t:Unit)=>(Exit.normal,⟨mkE 65 0 [(0,dL a),(3,dI b),(4,dI 0),(5,dI 0)],[]⟩)):= .of fun K h=>by
 simp only[N7w,wpW] at h
 exact .of (by kernel_rfl) h
theorem Nr2 (a:List Int) (b c d:Int):Link Nx LL (cq [0,0,0,1,0,1,1,1,1] (bodyOf Tryz.f27)) (aq [0,0,0,1,0,1,1,1,1] N2) ⟨mkE 65 0 [(0,dL a),(3,dI b),(4,dI c),(5,dI d)],[]⟩ (N6r b c d) (Sum.elim (fun(t:Unit)=>(Exit.normal,⟨mkE 65 0 [(0,dL a),(3,dI b),(4,dI c),(5,dI d)],[]⟩)) (fun(t:Int)=>((Exit.exit 0),⟨mkE 65 0 [(4,dI t)],[]⟩))):= .of fun K h=>by
 simp only[N6r,wpW] at h
 exact .of (by kernel_rfl) h
theorem N128 (a:List Int) (b c d:Int):Link Nx LL (Code.seq (cq [0,0,0,1,0,0,1,0,1,1,1,1] (bodyOf Tryz.f27)) (Code.seq (cq [0,1,0,0,1,0,0,1,0,1,1,1,1] (bodyOf Tryz.f27)) (cq [0,1,1,0,0,1,0,0,1,0,1,1,1,1] (bodyOf Tryz.f27)))) (Ann.seq (aq [0,0,0,1,0,0,1,0,1,1,1,1] N2) (Ann.seq (aq [0,1,0,0,1,0,0,1,0,1,1,1,1] N2) (aq [0,1,1,0,0,1,0,0,1,0,1,1,1,1] N2))) ⟨mkE 65 0 [(0,dL a),(3,dI b),(4,dI c),(5,dI d)],[]⟩ (Nb3 a b c d) (Sum.elim (fun(t:Int×Int)=>(Exit.normal,⟨mkE 65 0 [(0,dL a),(3,dI b),(4,dI t.1),(5,dI d),(6,dI t.2)],[]⟩)) (fun(t:Bool)=>(Exit.ret,⟨mkE 65 0 [(2,dB t)],[]⟩))):= .of fun K h=>by
 simp only[Nb3,wpW] at h
 exact .of (by kernel_rfl) h
theorem Nt3 (a:List Int) (b c d g:Int):Link Nx LL (cq [0,0,1,1,1,0,0,1,0,0,1,0,1,1,1,1] (bodyOf Tryz.f27)) (aq [0,0,1,1,1,0,0,1,0,0,1,0,1,1,1,1] N2) ⟨mkE 65 0 [(0,dL a),(3,dI b),(4,dI c),(5,dI d),(6,dI g)],[]⟩ (Nbm) (fun(t:Unit)=>(Exit.normal,⟨mkE 65 0 [(0,dL a),(3,dI b),(4,dI c),(5,dI d),(6,dI g),(7,dI 0)],[]⟩)):= .of fun K h=>by
 simp only[Nbm,wpW] at h
 exact .of (by kernel_rfl) h
theorem Nu9 (a:List Int) (b c d g i:Int):Link Nx LL (cq [0,0,1,0,1,1,1,0,0,1,0,0,1,0,1,1,1,1] (bodyOf Tryz.f27)) (aq [0,0,1,0,1,1,1,0,0,1,0,0,1,0,1,1,1,1] N2) ⟨mkE 65 0 [(0,dL a),(3,dI b),(4,dI c),(5,dI d),(6,dI g),(7,dI i)],[]⟩ (N6s a b g i) (Sum.elim (fun(t:Int×Int)=>(Exit.normal,⟨mkE 65 0 [(0,dL a),(3,dI b),(4,dI c),(5,dI d),(6,dI t.1),(7,dI t.2)],[]⟩)) (Sum.elim (fun(t:Bool)=>(Exit.ret,⟨mkE 65 0 [(2,dB t)],[]⟩)) (fun(t:Int)=>((Exit.exit 2),⟨mkE 65 0 [(0,dL a),(3,dI b),(4,dI c),(5,dI d),(6,dI t)],[]⟩)))):= .of fun K h=>by
 simp only[N6s,wpW] at h
 exact .of (by kernel_rfl) h
theorem N159 (a:List Int) (b c d g:Int):Link Nx LL (cq [1,1,1,1,0,0,1,0,0,1,0,1,1,1,1] (bodyOf Tryz.f27)) (aq [1,1,1,1,0,0,1,0,0,1,0,1,1,1,1] N2) ⟨mkE 65 0 [(0,dL a),(3,dI b),(4,dI c),(5,dI d),(6,dI g)],[]⟩ (Naw g) (Sum.elim (fun(t:Unit)=>(Exit.normal,⟨mkE 65 0 [(0,dL a),(3,dI b),(4,dI c),(5,dI d)],[]⟩)) (fun(t:Bool)=>(Exit.ret,⟨mkE 65 0 [(2,dB t)],[]⟩))):= .of fun K h=>by
 simp only[Naw,wpW] at h
 exact .of (by kernel_rfl) h
theorem Nqk (a:List Int) (b c d:Int):Link Nx LL (cq [1,1,0,0,1,0,1,1,1,1] (bodyOf Tryz.f27)) (aq [1,1,0,0,1,0,1,1,1,1] N2) ⟨mkE 65 0 [(0,dL a),(3,dI b),(4,dI c),(5,dI d)],[]⟩ (N9m d) (fun(t:Int)=>(Exit.normal,⟨mkE 65 0 [(0,dL a),(3,dI b),(4,dI c),(5,dI t)],[]⟩)):= .of fun K h=>by
 simp only[N9m,wpW] at h
 exact .of (by kernel_rfl) h
theorem N13s (a:Int):Link Nx LL (cq [1,1,1,1,1] (bodyOf Tryz.f27)) (aq [1,1,1,1,1] N2) ⟨mkE 65 0 [(4,dI a)],[]⟩ (N8y a) (fun(t:Bool)=>(Exit.ret,⟨mkE 65 0 [(2,dB t)],[]⟩)):= .of fun K h=>by
 simp only[N8y,wpW] at h
 exact .of (by kernel_rfl) h
theorem N14u (b:List Int) {r:AV} {H':Heap} (h:(Ans.mk _ (N8 b) (fun(t:Bool)=>(dB t,[])) [] none).run=some (r,H')):Awp Nx LL (bodyOf Tryz.f27) N2 ⟨mkE 65 0 [(0,dL b)],[]⟩ (Ret (tlook tys) Tryz.f27.results.toList r H'):=
 ret_of' (Link.cast (by kernel_rfl) (by kernel_rfl) (link_group (c:=(cq [0,1,1,1] (bodyOf Tryz.f27))) (a:=(aq [0,1,1,1] N2)) [(cq [0] (bodyOf Tryz.f27)),(cq [0,1] (bodyOf Tryz.f27)),(cq [0,1,1] (bodyOf Tryz.f27))] [(aq [0] N2),(aq [0,1] N2),(aq [0,1,1] N2)] rfl (link_seq2 (N12q b) (fun(t:Int)=>(link_seq2 (link_seq (N103 b t) (fun(t43:Unit)=>(link_block (fin2:=(Sum.elim (fun(t43:Int)=>(Exit.normal,⟨mkE 65 0 [(4,dI t43)],[]⟩)) (fun(t43:Bool)=>(Exit.ret,⟨mkE 65 0 [(2,dB t43)],[]⟩)))) (id:=0) (link_loop (mk:=fun(s:Int×Int)=>⟨mkE 65 0 [(0,dL b),(3,dI t),(4,dI s.1),(5,dI s.2)],[]⟩) (fin:=(Sum.elim (fun(t43:Bool)=>(Exit.ret,⟨mkE 65 0 [(2,dB t43)],[]⟩)) (fun(t43:Int)=>((Exit.exit 0),⟨mkE 65 0 [(4,dI t43)],[]⟩)))) (by
 rintro(t43|t43) f K h
 ·exact h
 ·exact h) (fun s=>link_map (link_seq2 (Nr2 b t s.1 s.2) (fun(t54:Unit)=>(link_map (fin2:=(Sum.elim (fun(t54:Int×Int)=>(Exit.normal,⟨mkE 65 0 [(0,dL b),(3,dI t),(4,dI t54.1),(5,dI t54.2)],[]⟩)) (Sum.elim (fun(t54:Bool)=>(Exit.ret,⟨mkE 65 0 [(2,dB t54)],[]⟩)) (fun(t54:Int)=>((Exit.exit 0),⟨mkE 65 0 [(4,dI t54)],[]⟩))))) (link_seq2 (link_block (fin2:=(Sum.elim (fun(t54:Int)=>(Exit.normal,⟨mkE 65 0 [(0,dL b),(3,dI t),(4,dI t54),(5,dI s.2)],[]⟩)) (fun(t54:Bool)=>(Exit.ret,⟨mkE 65 0 [(2,dB t54)],[]⟩)))) (id:=1) (link_group (c:=(cq [0,1,1,0,0,1,0,0,1,0,1,1,1,1] (bodyOf Tryz.f27))) (a:=(aq [0,1,1,0,0,1,0,0,1,0,1,1,1,1] N2)) [(cq [0,0,0,1,0,0,1,0,1,1,1,1] (bodyOf Tryz.f27)),(cq [0,1,0,0,1,0,0,1,0,1,1,1,1] (bodyOf Tryz.f27))] [(aq [0,0,0,1,0,0,1,0,1,1,1,1] N2),(aq [0,1,0,0,1,0,0,1,0,1,1,1,1] N2)] rfl (link_seq2 (N128 b t s.1 s.2) (fun(t54:Int×Int)=>(link_map (fin2:=(Sum.elim (fun(t54:Int)=>(Exit.normal,⟨mkE 65 0 [(0,dL b),(3,dI t),(4,dI t54),(5,dI s.2)],[]⟩)) (fun(t54:Bool)=>(Exit.ret,⟨mkE 65 0 [(2,dB t54)],[]⟩)))) (link_seq2 (link_seq (Nt3 b t t54.1 s.2 t54.2) (fun(t42:Unit)=>(link_block (fin2:=(Sum.elim (fun(t42:Int)=>(Exit.normal,⟨mkE 65 0 [(0,dL b),(3,dI t),(4,dI t54.1),(5,dI s.2),(6,dI t42)],[]⟩)) (fun(t42:Bool)=>(Exit.ret,⟨mkE 65 0 [(2,dB t42)],[]⟩)))) (id:=2) (link_loop (mk:=fun(s53:Int×Int)=>⟨mkE 65 0 [(0,dL b),(3,dI t),(4,dI t54.1),(5,dI s.2),(6,dI s53.1),(7,dI s53.2)],[]⟩) (fin:=(Sum.elim (fun(t42:Bool)=>(Exit.ret,⟨mkE 65 0 [(2,dB t42)],[]⟩)) (fun(t42:Int)=>((Exit.exit 2),⟨mkE 65 0 [(0,dL b),(3,dI t),(4,dI t54.1),(5,dI s.2),(6,dI t42)],[]⟩)))) (by
 rintro(t42|t42) f K h
 ·exact h
 ·exact h) (fun s53=>link_map (Nu9 b t t54.1 s.2 s53.1 s53.2) (Sum.elim (fun(t42:Int×Int)=>Sum.inl (t42.1,t42.2)) (Sum.elim (fun(t42:Bool)=>Sum.inr (Sum.inl t42)) (fun(t42:Int)=>Sum.inr (Sum.inr t42)))) (by
 rintro(t42|t42|t42)
 ·kernel_rfl
 ·kernel_rfl
 ·kernel_rfl)) (t54.2,0)) (Sum.elim (fun(t42:Bool)=>(Sum.inr t42)) (fun(t42:Int)=>(Sum.inl t42))) (by
 rintro(t42|t42) K h
 ·exact Eq.mp (by kernel_rfl) h
 ·exact Eq.mp (by kernel_rfl) h)))) (fun(t42:Int)=>(N159 b t t54.1 s.2 t42)) (fun(t42:Bool)=>(Sum.inr t42)) (by
 rintro t42
 ·kernel_rfl) (by
 rintro t42 f K h
 ·exact h)) (Sum.elim (fun(u:Unit)=>(Sum.inl t54.1)) (fun(u:Bool)=>(Sum.inr u))) (by
 rintro(t54|t54)
 ·kernel_rfl
 ·kernel_rfl))) (fun(t54:Bool)=>(Sum.inr t54)) (by
 rintro t54
 ·kernel_rfl) (by
 rintro t54 f K h
 ·exact h))) (Sum.elim (fun(t54:Int)=>(Sum.inl t54)) (fun(t54:Bool)=>(Sum.inr t54))) (by
 rintro(t54|t54) K h
 ·exact Eq.mp (by kernel_rfl) h
 ·exact Eq.mp (by kernel_rfl) h)) (fun(t54:Int)=>(link_map (fin2:=(Sum.elim (fun(t54:Int×Int)=>(Exit.normal,⟨mkE 65 0 [(0,dL b),(3,dI t),(4,dI t54.1),(5,dI t54.2)],[]⟩)) (fun(t54:Bool)=>(Exit.ret,⟨mkE 65 0 [(2,dB t54)],[]⟩)))) (Nqk b t t54 s.2) (fun(u:Int)=>(Sum.inl (t54,u))) (by
 rintro t54
 ·kernel_rfl))) (fun(t54:Bool)=>(Sum.inr t54)) (by
 rintro t54
 ·kernel_rfl) (by
 rintro t54 f K h
 ·exact h)) (Sum.elim (fun(t54:Int×Int)=>(Sum.inl (t54.1,t54.2))) (fun(t54:Bool)=>(Sum.inr (Sum.inl t54)))) (by
 rintro(t54|t54)
 ·kernel_rfl
 ·kernel_rfl))) (fun(t54:Int)=>(Sum.inr (Sum.inr t54))) (by
 rintro t54
 ·kernel_rfl) (by
 rintro t54 f K h
 ·exact h)) (Sum.elim (fun(t43:Int×Int)=>Sum.inl (t43.1,t43.2)) (Sum.elim (fun(t43:Bool)=>Sum.inr (Sum.inl t43)) (fun(t43:Int)=>Sum.inr (Sum.inr t43)))) (by
 rintro(t43|t43|t43)
 ·kernel_rfl
 ·kernel_rfl
 ·kernel_rfl)) (0,0)) (Sum.elim (fun(t43:Bool)=>(Sum.inr t43)) (fun(t43:Int)=>(Sum.inl t43))) (by
 rintro(t43|t43) K h
 ·exact Eq.mp (by kernel_rfl) h
 ·exact Eq.mp (by kernel_rfl) h)))) (fun(t43:Int)=>(N13s t43)) (fun(t43:Bool)=>t43) (by
 rintro t43
 ·kernel_rfl) (by
 rintro t43 f K h
 ·exact h))) (fun(t:Bool)=>t) (by
 rintro t
 ·kernel_rfl) (by
 rintro t f K h
 ·exact h)))) (by unfold N8;kernel_rfl) (by
 intro t
 exact ret_mk [dB t] (by kernel_rfl) (by kernel_rfl) (by kernel_rfl) (by kernel_rfl)) h
def N1b:Fun:=fun avs H=>
 match avs,H with
 |[.dat (.list (.int .i64)) a],[]=>⟨_,N8 a,fun(t:Bool)=>(dB t,[]),[],none⟩
 |_,_=>Ans.no
theorem N2q:Sound Tryz.prog 27 N1b:=by
 refine fn_sound' (C:=Nx) (c:=bodyOf Tryz.f27) (cok_of tys_ok (allc N7m alln) (allc Tryz.call51 alln) (by kernel_rfl)) Tryz.func27 (by kernel_rfl) LL N2 ?_
 intro avs H r H' h
 unfold N1b at h
 split at h
 ·refine Awp.cast ?_ ?_ ?_ (N14u _ h)<;>kernel_rfl
 ·simp[Ans.no,Ans.run] at h
def Nq:Ann:=(.seq (.leaf [0,1]) (.seq (.seq (.leaf [0,1,5]) (.block (.loop (.seq (.seq (.leaf [0,1,5,10]) (.cond (.leaf [0,1,5]) (.leaf [0,1]))) (.seq (.block (.seq (.seq (.leaf [0,1,5,19]) (.cond (.seq (.leaf [4]) (.leaf [4])) (.leaf [0,1,5]))) (.seq (.leaf [0,1,5,6]) (.block (.loop (.seq (.seq (.leaf [0,1,5,6,22]) (.cond (.leaf [0,1,5,6]) (.leaf [0,1,5]))) (.seq (.block (.seq (.draw [] [0,1,2,3,4,5,6,7,8] [] [0,1,5,6,33]) (.cond (.seq (.leaf [4]) (.leaf [4])) (.leaf [0,1,5,6])))) (.leaf [0,1,5,6])))))))) (.leaf [0,1,5])))))) (.seq (.leaf [4]) (.leaf [4]))))
noncomputable def N1e:Ctx:=⟨tlook tys,olook [(51,N3p)],ioF,0,false,[]⟩
theorem Ns1 (a:List Int) (b:Int):Link N1e LL (cq [0] (bodyOf Tryz.f99)) (aq [0] Nq) ⟨mkE 42 0 [(0,dL a),(1,dI b)],[]⟩ (Nb2) (fun(t:Unit)=>(Exit.normal,⟨mkE 42 0 [(0,dL a),(1,dI b)],[]⟩)):= .of fun K h=>by
 simp only[Nb2,wpW] at h
 exact .of (by kernel_rfl) h
theorem Nq0 (a:List Int) (b:Int):Link N1e LL (cq [0,0,1] (bodyOf Tryz.f99)) (aq [0,0,1] Nq) ⟨mkE 42 0 [(0,dL a),(1,dI b)],[]⟩ (N8q) (fun(t:Unit)=>(Exit.normal,⟨mkE 42 0 [(0,dL a),(1,dI b),(5,dI 0)],[]⟩)):= .of fun K h=>by
 simp only[N8q,wpW] at h
 exact .of (by kernel_rfl) h
theorem Nv9 (a:List Int) (b c:Int):Link N1e LL (cq [0,0,0,1,0,1] (bodyOf Tryz.f99)) (aq [0,0,0,1,0,1] Nq) ⟨mkE 42 0 [(0,dL a),(1,dI b),(5,dI c)],[]⟩ (N8l a c) (Sum.elim (fun(t:Unit)=>(Exit.normal,⟨mkE 42 0 [(0,dL a),(1,dI b),(5,dI c)],[]⟩)) (fun(t:Unit)=>((Exit.exit 0),⟨mkE 42 0 [(0,dL a),(1,dI b)],[]⟩))):= .of fun K h=>by
 simp only[N8l,wpW] at h
 exact .of (by kernel_rfl) h
theorem Nxq (a:List Int) (b c:Int):Link N1e LL (Code.seq (cq [0,0,0,1,0,0,1,0,1] (bodyOf Tryz.f99)) (cq [0,1,0,0,1,0,0,1,0,1] (bodyOf Tryz.f99))) (Ann.seq (aq [0,0,0,1,0,0,1,0,1] Nq) (aq [0,1,0,0,1,0,0,1,0,1] Nq)) ⟨mkE 42 0 [(0,dL a),(1,dI b),(5,dI c)],[]⟩ (Nba a b c) (Sum.elim (fun(t:Unit)=>(Exit.normal,⟨mkE 42 0 [(0,dL a),(1,dI b),(5,dI c),(6,dI 0)],[]⟩)) (fun(t:Bool)=>(Exit.ret,⟨mkE 42 0 [(4,dB t)],[]⟩))):= .of fun K h=>by
 simp only[Nba,wpW] at h
 exact .of (by kernel_rfl) h
theorem N135 (a:List Int) (b c d:Int):Link N1e LL (cq [0,0,1,1,0,0,1,0,0,1,0,1] (bodyOf Tryz.f99)) (aq [0,0,1,1,0,0,1,0,0,1,0,1] Nq) ⟨mkE 42 0 [(0,dL a),(1,dI b),(5,dI c),(6,dI d)],[]⟩ (N7g a c d) (Sum.elim (fun(t:Int)=>(Exit.normal,⟨mkE 42 0 [(0,dL a),(1,dI b),(5,dI c),(6,dI t)],[]⟩)) (Sum.elim (fun(t:Bool)=>(Exit.ret,⟨mkE 42 0 [(4,dB t)],[]⟩)) (fun(t:Unit)=>((Exit.exit 2),⟨mkE 42 0 [(0,dL a),(1,dI b),(5,dI c)],[]⟩)))):= .of fun K h=>by
 simp only[N7g,wpW] at h
 exact .of (by kernel_rfl) h
theorem N138 (a:List Int) (b c:Int):Link N1e LL (cq [1,1,0,0,1,0,1] (bodyOf Tryz.f99)) (aq [1,1,0,0,1,0,1] Nq) ⟨mkE 42 0 [(0,dL a),(1,dI b),(5,dI c)],[]⟩ (N8e c) (fun(t:Int)=>(Exit.normal,⟨mkE 42 0 [(0,dL a),(1,dI b),(5,dI t)],[]⟩)):= .of fun K h=>by
 simp only[N8e,wpW] at h
 exact .of (by kernel_rfl) h
theorem N129 (a:List Int) (b:Int):Link N1e LL (cq [1,1] (bodyOf Tryz.f99)) (aq [1,1] Nq) ⟨mkE 42 0 [(0,dL a),(1,dI b)],[]⟩ (Ncp a b) (fun(t:Bool)=>(Exit.ret,⟨mkE 42 0 [(4,dB t)],[]⟩)):= .of fun K h=>by
 simp only[Ncp,wpW] at h
 exact .of (by kernel_rfl) h
theorem Nx5 (b:List Int) (d:Int) {r:AV} {H':Heap} (h:(Ans.mk _ (N57 b d) (fun(t:Bool)=>(dB t,[])) [] none).run=some (r,H')):Awp N1e LL (bodyOf Tryz.f99) Nq ⟨mkE 42 0 [(0,dL b),(1,dI d)],[]⟩ (Ret (tlook tys) Tryz.f99.results.toList r H'):=
 ret_of' (Link.cast (by kernel_rfl) (by kernel_rfl) (link_seq (Ns1 b d) (fun(t:Unit)=>(link_seq2 (link_seq (Nq0 b d) (fun(t:Unit)=>(link_block (fin2:=(Sum.elim (fun(t:Unit)=>(Exit.normal,⟨mkE 42 0 [(0,dL b),(1,dI d)],[]⟩)) (fun(t:Bool)=>(Exit.ret,⟨mkE 42 0 [(4,dB t)],[]⟩)))) (id:=0) (link_loop (mk:=fun(s:Int)=>⟨mkE 42 0 [(0,dL b),(1,dI d),(5,dI s)],[]⟩) (fin:=(Sum.elim (fun(t:Bool)=>(Exit.ret,⟨mkE 42 0 [(4,dB t)],[]⟩)) (fun(t:Unit)=>((Exit.exit 0),⟨mkE 42 0 [(0,dL b),(1,dI d)],[]⟩)))) (by
 rintro(t|t) f K h
 ·exact h
 ·exact h) (fun s=>link_map (link_seq2 (Nv9 b d s) (fun(t:Unit)=>(link_map (fin2:=(Sum.elim (fun(t:Int)=>(Exit.normal,⟨mkE 42 0 [(0,dL b),(1,dI d),(5,dI t)],[]⟩)) (Sum.elim (fun(t:Bool)=>(Exit.ret,⟨mkE 42 0 [(4,dB t)],[]⟩)) (fun(t:Unit)=>((Exit.exit 0),⟨mkE 42 0 [(0,dL b),(1,dI d)],[]⟩))))) (link_seq2 (link_block (fin2:=(Sum.elim (fun(t:Unit)=>(Exit.normal,⟨mkE 42 0 [(0,dL b),(1,dI d),(5,dI s)],[]⟩)) (fun(t:Bool)=>(Exit.ret,⟨mkE 42 0 [(4,dB t)],[]⟩)))) (id:=1) (link_group (c:=(cq [0,1,0,0,1,0,0,1,0,1] (bodyOf Tryz.f99))) (a:=(aq [0,1,0,0,1,0,0,1,0,1] Nq)) [(cq [0,0,0,1,0,0,1,0,1] (bodyOf Tryz.f99))] [(aq [0,0,0,1,0,0,1,0,1] Nq)] rfl (link_seq2 (Nxq b d s) (fun(t:Unit)=>(link_block (fin2:=(Sum.elim (fun(t:Unit)=>(Exit.normal,⟨mkE 42 0 [(0,dL b),(1,dI d),(5,dI s)],[]⟩)) (fun(t:Bool)=>(Exit.ret,⟨mkE 42 0 [(4,dB t)],[]⟩)))) (id:=2) (link_loop (mk:=fun(s44:Int)=>⟨mkE 42 0 [(0,dL b),(1,dI d),(5,dI s),(6,dI s44)],[]⟩) (fin:=(Sum.elim (fun(t:Bool)=>(Exit.ret,⟨mkE 42 0 [(4,dB t)],[]⟩)) (fun(t:Unit)=>((Exit.exit 2),⟨mkE 42 0 [(0,dL b),(1,dI d),(5,dI s)],[]⟩)))) (by
 rintro(t|t) f K h
 ·exact h
 ·exact h) (fun s44=>link_map (N135 b d s s44) (Sum.elim (fun(t:Int)=>Sum.inl t) (Sum.elim (fun(t:Bool)=>Sum.inr (Sum.inl t)) (fun(t:Unit)=>Sum.inr (Sum.inr t)))) (by
 rintro(t|t|t)
 ·kernel_rfl
 ·kernel_rfl
 ·kernel_rfl)) 0) (Sum.elim (fun(t:Bool)=>(Sum.inr t)) (fun(t:Unit)=>(Sum.inl ()))) (by
 rintro(t|t) K h
 ·exact Eq.mp (by kernel_rfl) h
 ·exact Eq.mp (by kernel_rfl) h))) (fun(t:Bool)=>(Sum.inr t)) (by
 rintro t
 ·kernel_rfl) (by
 rintro t f K h
 ·exact h))) (Sum.elim (fun(t:Unit)=>(Sum.inl ())) (fun(t:Bool)=>(Sum.inr t))) (by
 rintro(t|t) K h
 ·exact Eq.mp (by kernel_rfl) h
 ·exact Eq.mp (by kernel_rfl) h)) (fun(t:Unit)=>(link_map (fin2:=(Sum.elim (fun(t:Int)=>(Exit.normal,⟨mkE 42 0 [(0,dL b),(1,dI d),(5,dI t)],[]⟩)) (fun(t:Bool)=>(Exit.ret,⟨mkE 42 0 [(4,dB t)],[]⟩)))) (N138 b d s) (fun(t:Int)=>(Sum.inl t)) (by
 rintro t
 ·kernel_rfl))) (fun(t:Bool)=>(Sum.inr t)) (by
 rintro t
 ·kernel_rfl) (by
 rintro t f K h
 ·exact h)) (Sum.elim (fun(t:Int)=>(Sum.inl t)) (fun(t:Bool)=>(Sum.inr (Sum.inl t)))) (by
 rintro(t|t)
 ·kernel_rfl
 ·kernel_rfl))) (fun(t:Unit)=>(Sum.inr (Sum.inr t))) (by
 rintro t
 ·kernel_rfl) (by
 rintro t f K h
 ·exact h)) (Sum.elim (fun(t:Int)=>Sum.inl t) (Sum.elim (fun(t:Bool)=>Sum.inr (Sum.inl t)) (fun(t:Unit)=>Sum.inr (Sum.inr t)))) (by
 rintro(t|t|t)
 ·kernel_rfl
 ·kernel_rfl
 ·kernel_rfl)) 0) (Sum.elim (fun(t:Bool)=>(Sum.inr t)) (fun(t:Unit)=>(Sum.inl ()))) (by
 rintro(t|t) K h
 ·exact Eq.mp (by kernel_rfl) h
 ·exact Eq.mp (by kernel_rfl) h)))) (fun(t:Unit)=>(N129 b d)) (fun(t:Bool)=>t) (by
 rintro t
 ·kernel_rfl) (by
 rintro t f K h
 ·exact h))))) (by unfold N57;kernel_rfl) (by
 intro t
 exact ret_mk [dB t] (by kernel_rfl) (by kernel_rfl) (by kernel_rfl) (by kernel_rfl)) h
def Ngj:Fun:=fun avs H=>
 match avs,H with
 |[.dat (.list (.int .i64)) a,.dat (.int .i64) b],[]=>⟨_,N57 a b,fun(t:Bool)=>(dB t,[]),[],none⟩
 |_,_=>Ans.no
theorem Nzi:Sound Tryz.prog 99 Ngj:=by
 refine fn_sound' (C:=N1e) (c:=bodyOf Tryz.f99) (cok_of tys_ok (allc N7m alln) (allc Tryz.call51 alln) (by kernel_rfl)) Tryz.func99 (by kernel_rfl) LL Nq ?_
 intro avs H r H' h
 unfold Ngj at h
 split at h
 ·refine Awp.cast ?_ ?_ ?_ (Nx5 _ _ h)<;>kernel_rfl
 ·simp[Ans.no,Ans.run] at h
def Nd:Ann:=(.seq (.leaf [0,1]) (.seq (.seq (.leaf [0,1,19]) (.cond (.seq (.leaf [4,5]) (.leaf [4,5])) (.leaf [0,1]))) (.seq (.leaf [0,1,6]) (.seq (.seq (.leaf [0,1,6,7]) (.block (.loop (.seq (.seq (.leaf [0,1,6,7,28]) (.cond (.leaf [0,1,6,7]) (.leaf [0,1,6]))) (.seq (.block (.leaf [0,1,6,7])) (.leaf [0,1,6,7])))))) (.seq (.leaf [0,1,6,8]) (.seq (.seq (.leaf [0,1,6,8,9]) (.block (.loop (.seq (.seq (.leaf [0,1,6,8,9,43]) (.cond (.leaf [0,1,6,8,9]) (.leaf [8]))) (.seq (.block (.leaf [0,1,6,8,9])) (.leaf [0,1,6,8,9])))))) (.seq (.leaf [4,5]) (.leaf [4,5]))))))))
noncomputable def N1j:Ctx:=⟨tlook tys,olook [(27,N1b),(99,Ngj)],ioF,0,false,[]⟩
theorem N181 (a b:List Int):Link N1j LL (Code.seq (cq [0] (bodyOf Tryz.f65)) (Code.seq (cq [0,1] (bodyOf Tryz.f65)) (cq [0,1,1] (bodyOf Tryz.f65)))) (Ann.seq (aq [0] Nd) (Ann.seq (aq [0,1] Nd) (aq [0,1,1] Nd))) ⟨mkE 61 0 [(0,dL a),(1,dL b)],[]⟩ (Nbq a b) (Sum.elim (fun(t:(List Int))=>(Exit.normal,⟨mkE 61 0 [(0,dL a),(1,dL b),(6,.slc 0)],[some (sI t)]⟩)) (fun(t:Bool×(List Int))=>(Exit.ret,⟨mkE 61 0 [(4,.slc 0),(5,dB t.1)],[some (sI t.2)]⟩))):= .of fun K h=>by
 simp only[Nbq,wpW] at h
 exact .of (by kernel_rfl) h
theorem N161 (a b c:List Int):Link N1j LL (cq [0,0,1,1,1] (bodyOf Tryz.f65)) (aq [0,0,1,1,1] Nd) ⟨mkE 61 0 [(0,dL a),(1,dL b),(6,.slc 0)],[some (sI c)]⟩ (Nao) (fun(t:Unit)=>(Exit.normal,⟨mkE 61 0 [(0,dL a),(1,dL b),(6,.slc 0),(7,dI 0)],[some (sI c)]⟩)):= .of fun K h=>by
 simp only[Nao,wpW] at h
 exact .of (by kernel_rfl) h
theorem Nzn (a b:List Int) (c:Int) (d:List Int):Link N1j LL (cq [0,0,1,0,1,1,1] (bodyOf Tryz.f65)) (aq [0,0,1,0,1,1,1] Nd) ⟨mkE 61 0 [(0,dL a),(1,dL b),(6,.slc 0),(7,dI c)],[some (sI d)]⟩ (N4s b c d) (Sum.elim (fun(t:Int×(List Int))=>(Exit.normal,⟨mkE 61 0 [(0,dL a),(1,dL b),(6,.slc 0),(7,dI t.1)],[some (sI t.2)]⟩)) (fun(t:(List Int))=>((Exit.exit 0),⟨mkE 61 0 [(0,dL a),(1,dL b),(6,.slc 0)],[some (sI t)]⟩))):= .of fun K h=>by
 simp only[N4s,wpW] at h
 exact .of (by kernel_rfl) h
theorem N187 (a b c:List Int):Link N1j LL (cq [0,1,1,1,1] (bodyOf Tryz.f65)) (aq [0,1,1,1,1] Nd) ⟨mkE 61 0 [(0,dL a),(1,dL b),(6,.slc 0)],[some (sI c)]⟩ (N86) (fun(t:Unit)=>(Exit.normal,⟨mkE 61 0 [(0,dL a),(1,dL b),(6,.slc 0),(8,.slc 1)],[some (sI c),some (sI ([]:List Int))]⟩)):= .of fun K h=>by
 simp only[N86,wpW] at h
 exact .of (by kernel_rfl) h
theorem N15w (a b c:List Int):Link N1j LL (cq [0,0,1,1,1,1,1] (bodyOf Tryz.f65)) (aq [0,0,1,1,1,1,1] Nd) ⟨mkE 61 0 [(0,dL a),(1,dL b),(6,.slc 0),(8,.slc 1)],[some (sI c),some (sI ([]:List Int))]⟩ (Nas) (fun(t:Unit)=>(Exit.normal,⟨mkE 61 0 [(0,dL a),(1,dL b),(6,.slc 0),(8,.slc 1),(9,dI 0)],[some (sI c),some (sI ([]:List Int))]⟩)):= .of fun K h=>by
 simp only[Nas,wpW] at h
 exact .of (by kernel_rfl) h
theorem Nwz (a b:List Int) (c:Int) (d g:List Int):Link N1j LL (cq [0,0,1,0,1,1,1,1,1] (bodyOf Tryz.f65)) (aq [0,0,1,0,1,1,1,1,1] Nd) ⟨mkE 61 0 [(0,dL a),(1,dL b),(6,.slc 0),(8,.slc 1),(9,dI c)],[some (sI d),some (sI g)]⟩ (N78 a b c d g) (Sum.elim (fun(t:Int×(List Int))=>(Exit.normal,⟨mkE 61 0 [(0,dL a),(1,dL b),(6,.slc 0),(8,.slc 1),(9,dI t.1)],[some (sI d),some (sI t.2)]⟩)) (fun(t:(List Int))=>((Exit.exit 2),⟨mkE 61 0 [(8,.slc 0)],[some (sI t)]⟩))):= .of fun K h=>by
 simp only[N78,wpW] at h
 exact .of (by kernel_rfl) h
theorem Nvx (a:List Int):Link N1j LL (cq [1,1,1,1,1,1] (bodyOf Tryz.f65)) (aq [1,1,1,1,1,1] Nd) ⟨mkE 61 0 [(8,.slc 0)],[some (sI a)]⟩ (N9e a) (fun(t:Bool×(List Int))=>(Exit.ret,⟨mkE 61 0 [(4,.slc 0),(5,dB t.1)],[some (sI t.2)]⟩)):= .of fun K h=>by
 simp only[N9e,wpW] at h
 exact .of (by kernel_rfl) h
theorem Nsc (b d:List Int) {r:AV} {H':Heap} (h:(Ans.mk _ (N3i b d) (fun(t:Bool×(List Int))=>(.tup [.slc 0,dB t.1],[some (sI t.2)])) [] none).run=some (r,H')):Awp N1j LL (bodyOf Tryz.f65) Nd ⟨mkE 61 0 [(0,dL b),(1,dL d)],[]⟩ (Ret (tlook tys) Tryz.f65.results.toList r H'):=
 ret_of' (Link.cast (by kernel_rfl) (by kernel_rfl) (link_group (c:=(cq [0,1,1] (bodyOf Tryz.f65))) (a:=(aq [0,1,1] Nd)) [(cq [0] (bodyOf Tryz.f65)),(cq [0,1] (bodyOf Tryz.f65))] [(aq [0] Nd),(aq [0,1] Nd)] rfl (link_seq2 (N181 b d) (fun(t:(List Int))=>(link_seq (link_seq (N161 b d t) (fun(t45:Unit)=>(link_block (fin2:=(fun(t45:(List Int))=>(Exit.normal,⟨mkE 61 0 [(0,dL b),(1,dL d),(6,.slc 0)],[some (sI t45)]⟩))) (id:=0) (link_loop (mk:=fun(s:Int×(List Int))=>⟨mkE 61 0 [(0,dL b),(1,dL d),(6,.slc 0),(7,dI s.1)],[some (sI s.2)]⟩) (fin:=(fun(t45:(List Int))=>((Exit.exit 0),⟨mkE 61 0 [(0,dL b),(1,dL d),(6,.slc 0)],[some (sI t45)]⟩))) (by
 rintro t45 f K h
 ·exact h) (fun s=>link_map (Nzn b d s.1 s.2) (Sum.elim (fun(t45:Int×(List Int))=>Sum.inl (t45.1,t45.2)) (fun(t45:(List Int))=>Sum.inr t45)) (by
 rintro(t45|t45)
 ·kernel_rfl
 ·kernel_rfl)) (0,t)) (fun(t45:(List Int))=>t45) (by
 rintro t45 K h
 ·exact Eq.mp (by kernel_rfl) h)))) (fun(t45:(List Int))=>(link_seq (N187 b d t45) (fun(t:Unit)=>(link_seq (link_seq (N15w b d t45) (fun(t:Unit)=>(link_block (fin2:=(fun(t:(List Int))=>(Exit.normal,⟨mkE 61 0 [(8,.slc 0)],[some (sI t)]⟩))) (id:=2) (link_loop (mk:=fun(s:Int×(List Int))=>⟨mkE 61 0 [(0,dL b),(1,dL d),(6,.slc 0),(8,.slc 1),(9,dI s.1)],[some (sI t45),some (sI s.2)]⟩) (fin:=(fun(t:(List Int))=>((Exit.exit 2),⟨mkE 61 0 [(8,.slc 0)],[some (sI t)]⟩))) (by
 rintro t f K h
 ·exact h) (fun s=>link_map (Nwz b d s.1 t45 s.2) (Sum.elim (fun(t:Int×(List Int))=>Sum.inl (t.1,t.2)) (fun(t:(List Int))=>Sum.inr t)) (by
 rintro(t|t)
 ·kernel_rfl
 ·kernel_rfl)) (0,([]:List Int))) (fun(t:(List Int))=>t) (by
 rintro t K h
 ·exact Eq.mp (by kernel_rfl) h)))) (fun(t:(List Int))=>(Nvx t)))))))) (fun(t:Bool×(List Int))=>t) (by
 rintro t
 ·kernel_rfl) (by
 rintro t f K h
 ·exact h)))) (by unfold N3i;kernel_rfl) (by
 intro t
 exact ret_mk [.slc 0,dB t.1] (by kernel_rfl) (by kernel_rfl) (by kernel_rfl) (by kernel_rfl)) h
def N9u:Fun:=fun avs H=>
 match avs,H with
 |[.dat (.list (.int .i64)) a,.dat (.list (.int .i64)) b],[]=>⟨_,N3i a b,fun(t:Bool×(List Int))=>(.tup [.slc 0,dB t.1],[some (sI t.2)]),[],none⟩
 |_,_=>Ans.no
theorem Nlu:Sound Tryz.prog 65 N9u:=by
 refine fn_sound' (C:=N1j) (c:=bodyOf Tryz.f65) (cok_of tys_ok (allc N2q (allc Nzi alln)) (allc Tryz.call27 (allc Tryz.call99 alln)) (by kernel_rfl)) Tryz.func65 (by kernel_rfl) LL Nd ?_
 intro avs H r H' h
 unfold N9u at h
 split at h
 ·refine Awp.cast ?_ ?_ ?_ (Nsc _ _ h)<;>kernel_rfl
 ·simp[Ans.no,Ans.run] at h
def Ni:Ann:=(.seq (.seq (.leaf [0,1,2,3,4,16]) (.cond (.leaf []) (.leaf [0,1,2,3,4]))) (.seq (.leaf [0,1,2,3,4,10]) (.seq (.leaf [0,1,2,3,10]) (.seq (.leaf [0,1,3,10,11]) (.seq (.block (.loop (.seq (.seq (.leaf [0,1,3,10,11,33]) (.cond (.leaf [0,1,3,10,11]) (.leaf [0,1,3,10]))) (.block (.seq (.leaf [0,1,3,10,11,12]) (.seq (.leaf [0,1,3,10,12]) (.leaf [0,1,3,10,11]))))))) (.seq (.leaf [0,1,3,10,11]) (.block (.loop (.seq (.seq (.leaf [0,1,3,10,11,53]) (.cond (.leaf [0,1,3,10,11]) (.leaf []))) (.block (.seq (.leaf [0,1,3,10,11,13]) (.seq (.leaf [0,1,3,10,13]) (.leaf [0,1,3,10,11])))))))))))))
def N1n (n:Nat):Fun:=fun avs H=>
 match avs,H with
 |[.ptr 0 0,.slc 1,.dat (.int .i64) a,.dat (.int .i64) b,.dat (.int .i64) c],[some (.box [.dat (.list (.int .u8)) d,.dat (.int .i64) g]),some (.seq (.int .i64) i)]=>⟨_,N1t n a b c d g i,fun(t:Int×(List Int))=>(.tup [],[some (.box [dV d,dI t.1]),some (sI t.2)]),[],none⟩
 |_,_=>Ans.no
noncomputable def N67 (n:Nat):Ctx:=⟨tlook tys,olook [(19,Nk),(100,N1n n)],ioF,2,false,[]⟩
theorem Nqt (n:Nat) (a b c:Int) (d:List Int) (g:Int) (i:List Int):Link (N67 n) LL (Code.seq (cq [0] (bodyOf Tryz.f100)) (Code.seq (cq [0,1] (bodyOf Tryz.f100)) (Code.seq (cq [0,1,1] (bodyOf Tryz.f100)) (cq [0,1,1,1] (bodyOf Tryz.f100))))) (Ann.seq (aq [0] Ni) (Ann.seq (aq [0,1] Ni) (Ann.seq (aq [0,1,1] Ni) (aq [0,1,1,1] Ni)))) ⟨mkE 70 0 [(0,.ptr 0 0),(1,.slc 1),(2,dI a),(3,dI b),(4,dI c)],[some (.box [dV d,dI g]),some (sI i)]⟩ (Nbo (N1t n) a b c d g i) (Sum.elim (fun(t:Int×Int×(List Int))=>(Exit.normal,⟨mkE 70 0 [(0,.ptr 0 0),(1,.slc 1),(3,dI b),(10,dI t.1),(11,dI a)],[some (.box [dV d,dI t.2.1]),some (sI t.2.2)]⟩)) (fun(t:Int×(List Int))=>(Exit.ret,⟨mkE 70 0 [],[some (.box [dV d,dI t.1]),some (sI t.2)]⟩))):= .of fun K h=>by
 simp only[Nbo,wpW] at h
 exact .of (by kernel_rfl) h
theorem Ns4 (n:Nat) (a b c:Int) (d:List Int) (g:Int) (i:List Int):Link (N67 n) LL (cq [0,0,0,1,1,1,1] (bodyOf Tryz.f100)) (aq [0,0,0,1,1,1,1] Ni) ⟨mkE 70 0 [(0,.ptr 0 0),(1,.slc 1),(3,dI a),(10,dI b),(11,dI c)],[some (.box [dV d,dI g]),some (sI i)]⟩ (N74 (N1t n) b c d g i) (Sum.elim (fun(t:Int×Int×(List Int))=>(Exit.normal,⟨mkE 70 0 [(0,.ptr 0 0),(1,.slc 1),(3,dI a),(10,dI b),(11,dI t.1)],[some (.box [dV d,dI t.2.1]),some (sI t.2.2)]⟩)) (fun(t:Int×(List Int))=>((Exit.exit 0),⟨mkE 70 0 [(0,.ptr 0 0),(1,.slc 1),(3,dI a),(10,dI b)],[some (.box [dV d,dI t.1]),some (sI t.2)]⟩))):= .of fun K h=>by
 simp only[N74,wpW] at h
 exact .of (by kernel_rfl) h
theorem N10j (n:Nat) (a b:Int) (c:List Int) (d:Int) (g:List Int):Link (N67 n) LL (cq [0,1,1,1,1,1] (bodyOf Tryz.f100)) (aq [0,1,1,1,1,1] Ni) ⟨mkE 70 0 [(0,.ptr 0 0),(1,.slc 1),(3,dI a),(10,dI b)],[some (.box [dV c,dI d]),some (sI g)]⟩ (Nb1 (N1t n) b) (fun(t:Int)=>(Exit.normal,⟨mkE 70 0 [(0,.ptr 0 0),(1,.slc 1),(3,dI a),(10,dI b),(11,dI t)],[some (.box [dV c,dI d]),some (sI g)]⟩)):= .of fun K h=>by
 simp only[Nb1,wpW] at h
 exact .of (by kernel_rfl) h
theorem N146 (n:Nat) (a b c:Int) (d:List Int) (g:Int) (i:List Int):Link (N67 n) LL (cq [0,0,1,1,1,1,1,1] (bodyOf Tryz.f100)) (aq [0,0,1,1,1,1,1,1] Ni) ⟨mkE 70 0 [(0,.ptr 0 0),(1,.slc 1),(3,dI a),(10,dI b),(11,dI c)],[some (.box [dV d,dI g]),some (sI i)]⟩ (N6h (N1t n) a b c d g i) (Sum.elim (fun(t:Int×Int×(List Int))=>(Exit.normal,⟨mkE 70 0 [(0,.ptr 0 0),(1,.slc 1),(3,dI a),(10,dI b),(11,dI t.1)],[some (.box [dV d,dI t.2.1]),some (sI t.2.2)]⟩)) (fun(t:Int×(List Int))=>((Exit.exit 2),⟨mkE 70 0 [],[some (.box [dV d,dI t.1]),some (sI t.2)]⟩))):= .of fun K h=>by
 simp only[N6h,wpW] at h
 exact .of (by kernel_rfl) h
theorem N16j (n:Nat) (b d g:Int) (i:List Int) (j:Int) (k:List Int) {r:AV} {H':Heap} (h:(Ans.mk _ (N1t (n+1) b d g i j k) (fun(t:Int×(List Int))=>(.tup [],[some (.box [dV i,dI t.1]),some (sI t.2)])) [] none).run=some (r,H')):Awp (N67 n) LL (bodyOf Tryz.f100) Ni ⟨mkE 70 0 [(0,.ptr 0 0),(1,.slc 1),(2,dI b),(3,dI d),(4,dI g)],[some (.box [dV i,dI j]),some (sI k)]⟩ (Ret (tlook tys) Tryz.f100.results.toList r H'):=
 ret_of (Link.cast (by kernel_rfl) (by kernel_rfl) (link_group (c:=(cq [0,1,1,1] (bodyOf Tryz.f100))) (a:=(aq [0,1,1,1] Ni)) [(cq [0] (bodyOf Tryz.f100)),(cq [0,1] (bodyOf Tryz.f100)),(cq [0,1,1] (bodyOf Tryz.f100))] [(aq [0] Ni),(aq [0,1] Ni),(aq [0,1,1] Ni)] rfl (link_seq2 (Nqt n b d g i j k) (fun(t:Int×Int×(List Int))=>(link_map (fin2:=(Sum.elim (fun(t:Int×(List Int))=>(Exit.normal,⟨mkE 70 0 [],[some (.box [dV i,dI t.1]),some (sI t.2)]⟩)) (fun(t:Int×(List Int))=>(Exit.ret,⟨mkE 70 0 [],[some (.box [dV i,dI t.1]),some (sI t.2)]⟩)))) (link_seq (link_block (fin2:=(fun(t55:Int×(List Int))=>(Exit.normal,⟨mkE 70 0 [(0,.ptr 0 0),(1,.slc 1),(3,dI d),(10,dI t.1)],[some (.box [dV i,dI t55.1]),some (sI t55.2)]⟩))) (id:=0) (link_loop (mk:=fun(s:Int×Int×(List Int))=>⟨mkE 70 0 [(0,.ptr 0 0),(1,.slc 1),(3,dI d),(10,dI t.1),(11,dI s.1)],[some (.box [dV i,dI s.2.1]),some (sI s.2.2)]⟩) (fin:=(fun(t55:Int×(List Int))=>((Exit.exit 0),⟨mkE 70 0 [(0,.ptr 0 0),(1,.slc 1),(3,dI d),(10,dI t.1)],[some (.box [dV i,dI t55.1]),some (sI t55.2)]⟩))) (by
 rintro t55 f K h
 ·exact h) (fun s=>link_map (Ns4 n d t.1 s.1 i s.2.1 s.2.2) (Sum.elim (fun(t55:Int×Int×(List Int))=>Sum.inl (t55.1,t55.2.1,t55.2.2)) (fun(t55:Int×(List Int))=>Sum.inr t55)) (by
 rintro(t55|t55)
 ·kernel_rfl
 ·kernel_rfl)) (b,t.2.1,t.2.2)) (fun(t55:Int×(List Int))=>(t55.1,t55.2)) (by
 rintro t55 K h
 ·exact Eq.mp (by kernel_rfl) h)) (fun(t55:Int×(List Int))=>(link_seq (N10j n d t.1 i t55.1 t55.2) (fun(t4:Int)=>(link_block (fin2:=(fun(t46:Int×(List Int))=>(Exit.normal,⟨mkE 70 0 [],[some (.box [dV i,dI t46.1]),some (sI t46.2)]⟩))) (id:=2) (link_loop (mk:=fun(s:Int×Int×(List Int))=>⟨mkE 70 0 [(0,.ptr 0 0),(1,.slc 1),(3,dI d),(10,dI t.1),(11,dI s.1)],[some (.box [dV i,dI s.2.1]),some (sI s.2.2)]⟩) (fin:=(fun(t46:Int×(List Int))=>((Exit.exit 2),⟨mkE 70 0 [],[some (.box [dV i,dI t46.1]),some (sI t46.2)]⟩))) (by
 rintro t46 f K h
 ·exact h) (fun s=>link_map (N146 n d t.1 s.1 i s.2.1 s.2.2) (Sum.elim (fun(t46:Int×Int×(List Int))=>Sum.inl (t46.1,t46.2.1,t46.2.2)) (fun(t46:Int×(List Int))=>Sum.inr t46)) (by
 rintro(t46|t46)
 ·kernel_rfl
 ·kernel_rfl)) (t4,t55.1,t55.2)) (fun(t46:Int×(List Int))=>(t46.1,t46.2)) (by
 rintro t46 K h
 ·exact Eq.mp (by kernel_rfl) h)))))) (fun(u:Int×(List Int))=>(Sum.inl (u.1,u.2))) (by
 rintro t
 ·kernel_rfl))) (fun(t:Int×(List Int))=>(Sum.inr t)) (by
 rintro t
 ·kernel_rfl) (by
 rintro t f K h
 ·exact h)))) (Sum.elim (fun(t:Int×(List Int))=>(t.1,t.2)) (fun(t:Int×(List Int))=>t)) (by(show _=_);kernel_rfl) (by
 rintro(t|t)
 ·exact ret_mk [] (by kernel_rfl) (by kernel_rfl) (by kernel_rfl) (by kernel_rfl)
 ·exact ret_mk [] (by kernel_rfl) (by kernel_rfl) (by kernel_rfl) (by kernel_rfl)) h
theorem N15m (n:Nat) (h100:Sound Tryz.prog 100 (N1n n)):Sound Tryz.prog 100 (N1n (n+1)):=by
 refine fn_sound' (C:=N67 n) (c:=bodyOf Tryz.f100) (cok_of tys_ok (allc Nu (allc h100 alln)) (allc Tryz.call19 (allc Tryz.call100 alln)) (by kernel_rfl)) Tryz.func100 (by kernel_rfl) LL Ni ?_
 intro avs H r H' h
 unfold N1n at h
 split at h
 ·refine Awp.cast ?_ ?_ ?_ (N16j n _ _ _ _ _ _ h)<;>kernel_rfl
 ·simp[Ans.no,Ans.run] at h
theorem N10q:Sound Tryz.prog 100 (N1n 0):=by
 intro avs H r H' h
 unfold N1n at h
 split at h
 ·simp[N1t,N3d,Ans.run] at h
 ·simp[Ans.no,Ans.run] at h
theorem Njs: ∀n,Sound Tryz.prog 100 (N1n n)
 |0=>N10q
 |n+1=>by
  have h100:=Njs n
  exact N15m n h100
def N89:Fun:=fun avs H=>
 match avs,H with
 |[.ptr 0 0,.slc 1,.dat (.int .i64) a,.dat (.int .i64) b,.dat (.int .i64) c],[some (.box [.dat (.list (.int .u8)) d,.dat (.int .i64) g]),some (.seq (.int .i64) i)]=>⟨_,N7p a b c d g i,fun(t:Int×(List Int))=>(.tup [],[some (.box [dV d,dI t.1]),some (sI t.2)]),[],none⟩
 |_,_=>Ans.no
theorem N145:Sound Tryz.prog 100 N89:=by
 have e:N89=N1n RR:=by
  funext avs H
  unfold N89 N1n
  split<;>first|rfl|(simp only[N7p])
 rw[e]
 exact(Njs RR)
def Ner:Ann:=(.seq (.leaf [0,1]) (.seq (.seq (.leaf [0,1,9]) (.cond (.seq (.leaf [4]) (.leaf [4])) (.leaf [0]))) (.seq (.leaf [0,5]) (.seq (.leaf [0,5,6]) (.seq (.leaf [6]) (.seq (.leaf [4]) (.leaf [4])))))))
noncomputable def Nio:Ctx:=⟨tlook tys,olook [(19,Nk),(64,N7v),(100,N89)],ioF,1,false,[]⟩
theorem Nyr (a:Int) (b:List Int) (c:Int):Link Nio LL (bodyOf Tryz.f67) Ner ⟨mkE 23 0 [(0,.ptr 0 0),(1,dI a)],[some (.box [dV b,dI c])]⟩ (N6u a b c) (fun(t:Int×(List Int))=>(Exit.ret,⟨mkE 23 0 [(4,.slc 1)],[some (.box [dV b,dI t.1]),some (sI t.2)]⟩)):= .of fun K h=>by
 simp only[N6u,wpW] at h
 exact .of (by kernel_rfl) h
theorem Nqa (a:Int) (b:List Int) (c:Int) {r:AV} {H':Heap} (h:(Ans.mk _ (N1y a b c) (fun(t:Int×(List Int))=>(.slc 1,[some (.box [dV b,dI t.1]),some (sI t.2)])) [] none).run=some (r,H')):Awp Nio LL (bodyOf Tryz.f67) Ner ⟨mkE 23 0 [(0,.ptr 0 0),(1,dI a)],[some (.box [dV b,dI c])]⟩ (Ret (tlook tys) Tryz.f67.results.toList r H'):=
 ret_of' (Nyr a b c) (by unfold N1y;kernel_rfl) (by
 intro t
 exact ret_mk [.slc 1] (by kernel_rfl) (by kernel_rfl) (by kernel_rfl) (by kernel_rfl)) h
def Nil:Fun:=fun avs H=>
 match avs,H with
 |[.ptr 0 0,.dat (.int .i64) a],[some (.box [.dat (.list (.int .u8)) b,.dat (.int .i64) c])]=>⟨_,N1y a b c,fun(t:Int×(List Int))=>(.slc 1,[some (.box [dV b,dI t.1]),some (sI t.2)]),[],none⟩
 |_,_=>Ans.no
theorem Npk:Sound Tryz.prog 67 Nil:=by
 refine fn_sound' (C:=Nio) (c:=bodyOf Tryz.f67) (cok_of tys_ok (allc Nu (allc Nnv (allc N145 alln))) (allc Tryz.call19 (allc Tryz.call64 (allc Tryz.call100 alln))) (by kernel_rfl)) Tryz.func67 (by kernel_rfl) LL Ner ?_
 intro avs H r H' h
 unfold Nil at h
 split at h
 ·refine Awp.cast ?_ ?_ ?_ (Nqa _ _ _ h)<;>kernel_rfl
 ·simp[Ans.no,Ans.run] at h
def Ne7:Ann:=(.seq (.leaf [0,1]) (.seq (.leaf [0,1,5]) (.seq (.seq (.leaf [0,1,5,17]) (.cond (.seq (.leaf [6]) (.seq (.leaf [4]) (.leaf [4]))) (.leaf [0,1,5]))) (.seq (.seq (.leaf [0,1,5,30]) (.cond (.seq (.leaf [4]) (.leaf [4])) (.leaf [5]))) (.seq (.leaf [4]) (.leaf [4]))))))
noncomputable def Ngw:Ctx:=⟨tlook tys,olook [(64,N7v),(19,Nk),(27,N1b),(66,N8s),(65,N9u),(67,Nil)],ioF,1,false,[]⟩
theorem N15o (a:Int) (b:List Int) (c:Int):Link Ngw LL (bodyOf Tryz.f41) Ne7 ⟨mkE 35 0 [(0,.ptr 0 0),(1,dI a)],[some (.box [dV b,dI c])]⟩ (N6i a b c) (fun(t:Int×(List Int))=>(Exit.ret,⟨mkE 35 0 [(4,.slc 1)],[some (.box [dV b,dI t.1]),some (sI t.2)]⟩)):= .of fun K h=>by
 simp only[N6i,wpW] at h
 exact .of (by kernel_rfl) h
theorem Nxd (a:Int) (b:List Int) (c:Int) {r:AV} {H':Heap} (h:(Ans.mk _ (N2e a b c) (fun(t:Int×(List Int))=>(.slc 1,[some (.box [dV b,dI t.1]),some (sI t.2)])) [] none).run=some (r,H')):Awp Ngw LL (bodyOf Tryz.f41) Ne7 ⟨mkE 35 0 [(0,.ptr 0 0),(1,dI a)],[some (.box [dV b,dI c])]⟩ (Ret (tlook tys) Tryz.f41.results.toList r H'):=
 ret_of' (N15o a b c) (by unfold N2e;kernel_rfl) (by
 intro t
 exact ret_mk [.slc 1] (by kernel_rfl) (by kernel_rfl) (by kernel_rfl) (by kernel_rfl)) h
def Naa:Fun:=fun avs H=>
 match avs,H with
 |[.ptr 0 0,.dat (.int .i64) a],[some (.box [.dat (.list (.int .u8)) b,.dat (.int .i64) c])]=>⟨_,N2e a b c,fun(t:Int×(List Int))=>(.slc 1,[some (.box [dV b,dI t.1]),some (sI t.2)]),[],none⟩
 |_,_=>Ans.no
theorem Nn5:Sound Tryz.prog 41 Naa:=by
 refine fn_sound' (C:=Ngw) (c:=bodyOf Tryz.f41) (cok_of tys_ok (allc Nnv (allc Nu (allc N2q (allc Np6 (allc Nlu (allc Npk alln)))))) (allc Tryz.call64 (allc Tryz.call19 (allc Tryz.call27 (allc Tryz.call66 (allc Tryz.call65 (allc Tryz.call67 alln)))))) (by kernel_rfl)) Tryz.func41 (by kernel_rfl) LL Ne7 ?_
 intro avs H r H' h
 unfold Naa at h
 split at h
 ·refine Awp.cast ?_ ?_ ?_ (Nxd _ _ _ h)<;>kernel_rfl
 ·simp[Ans.no,Ans.run] at h
def Nfx:Ann:=(.seq (.leaf [0,1,4]) (.seq (.draw [0,3,4] [0,1,5,2,3,4,6,7,8,9,10,11,12] [] [0,1,4,5]) (.seq (.seq (.leaf [0,1,4,5,18]) (.block (.seq (.leaf [0,1,4,5,18,19]) (.cond (.seq (.leaf [0,1,4,5]) (.leaf [0,4,5])) (.seq (.leaf [0,1,4,5,34]) (.cond (.leaf [0,4,5]) (.leaf [0,4,5]))))))) (.seq (.seq (.leaf [0,4,5,47]) (.cond (.leaf [4,5]) (.leaf [4,5]))) (.seq (.leaf [4]) (.leaf [4]))))))
noncomputable def Ngt:Ctx:=⟨tlook tys,olook [(19,Nk),(25,N49)],ioF,1,false,[]⟩
theorem Ntr (a b:List Int) (c:Int):Link Ngt LL (bodyOf Tryz.f50) Nfx ⟨mkE 55 0 [(0,.ptr 0 0),(1,dL a)],[some (.box [dV b,dI c])]⟩ (N6t a b c) (fun(t:Int×Int×Int×Int)=>(Exit.ret,⟨mkE 55 0 [(4,.ptr 1 0)],[some (.box [dV b,dI t.1]),some (.box [dI t.2.1,dI t.2.2.1,dI t.2.2.2])]⟩)):= .of fun K h=>by
 simp only[N6t,wpW] at h
 exact .of (by kernel_rfl) h
theorem Nus (a b:List Int) (c:Int) {r:AV} {H':Heap} (h:(Ans.mk _ (N1h a b c) (fun(t:Int×Int×Int×Int)=>(.agg [dI t.2.1,dI t.2.2.1,dI t.2.2.2],[some (.box [dV b,dI t.1]),some (.box [dI t.2.1,dI t.2.2.1,dI t.2.2.2])])) [] none).run=some (r,H')):Awp Ngt LL (bodyOf Tryz.f50) Nfx ⟨mkE 55 0 [(0,.ptr 0 0),(1,dL a)],[some (.box [dV b,dI c])]⟩ (Ret (tlook tys) Tryz.f50.results.toList r H'):=
 ret_of' (Ntr a b c) (by unfold N1h;kernel_rfl) (by
 intro t
 exact ret_mk [.agg [dI t.2.1,dI t.2.2.1,dI t.2.2.2]] (by kernel_rfl) (by kernel_rfl) (by kernel_rfl) (by kernel_rfl)) h
def N7q:Fun:=fun avs H=>
 match avs,H with
 |[.ptr 0 0,.dat (.list (.int .i64)) a],[some (.box [.dat (.list (.int .u8)) b,.dat (.int .i64) c])]=>⟨_,N1h a b c,fun(t:Int×Int×Int×Int)=>(.agg [dI t.2.1,dI t.2.2.1,dI t.2.2.2],[some (.box [dV b,dI t.1]),some (.box [dI t.2.1,dI t.2.2.1,dI t.2.2.2])]),[],none⟩
 |_,_=>Ans.no
theorem No2:Sound Tryz.prog 50 N7q:=by
 refine fn_sound' (C:=Ngt) (c:=bodyOf Tryz.f50) (cok_of tys_ok (allc Nu (allc Nb8 alln)) (allc Tryz.call19 (allc Tryz.call25 alln)) (by kernel_rfl)) Tryz.func50 (by kernel_rfl) LL Nfx ?_
 intro avs H r H' h
 unfold N7q at h
 split at h
 ·refine Awp.cast ?_ ?_ ?_ (Nus _ _ _ h)<;>kernel_rfl
 ·simp[Ans.no,Ans.run] at h
def N1o:Ann:=(.seq (.leaf [0,1]) (.seq (.leaf [0,1,5]) (.seq (.seq (.leaf [0,1,5,6]) (.block (.loop (.seq (.seq (.leaf [0,1,5,6,11]) (.cond (.leaf [0,1,5,6]) (.leaf [5]))) (.seq (.block (.leaf [0,1,5,6])) (.leaf [0,1,5,6])))))) (.seq (.leaf [4]) (.leaf [4])))))
noncomputable def N63:Ctx:=⟨tlook tys,olook [(19,Nk),(50,N7q)],ioF,1,false,[]⟩
theorem N12b (a b:List Int) (c:Int):Link N63 LL (Code.seq (cq [0] (bodyOf Tryz.f26)) (cq [0,1] (bodyOf Tryz.f26))) (Ann.seq (aq [0] N1o) (aq [0,1] N1o)) ⟨mkE 21 0 [(0,.ptr 0 0),(1,dL a)],[some (.box [dV b,dI c])]⟩ (N8j) (fun(t:Unit)=>(Exit.normal,⟨mkE 21 0 [(0,.ptr 0 0),(1,dL a),(5,.slc 1)],[some (.box [dV b,dI c]),some (.seq (.pair (.int .i64) (.pair (.int .i64) (.pair (.int .i64) .unit))) ([]:List (Int×Int×Int×Unit)))]⟩)):= .of fun K h=>by
 simp only[N8j,wpW] at h
 exact .of (by kernel_rfl) h
theorem N15j (a b:List Int) (c:Int):Link N63 LL (cq [0,0,1,1] (bodyOf Tryz.f26)) (aq [0,0,1,1] N1o) ⟨mkE 21 0 [(0,.ptr 0 0),(1,dL a),(5,.slc 1)],[some (.box [dV b,dI c]),some (.seq (.pair (.int .i64) (.pair (.int .i64) (.pair (.int .i64) .unit))) ([]:List (Int×Int×Int×Unit)))]⟩ (N8c b c) (fun(t:Int×Int)=>(Exit.normal,⟨mkE 21 0 [(0,.ptr 0 0),(1,dL a),(5,.slc 1),(6,dI t.1)],[some (.box [dV b,dI t.2]),some (.seq (.pair (.int .i64) (.pair (.int .i64) (.pair (.int .i64) .unit))) ([]:List (Int×Int×Int×Unit)))]⟩)):= .of fun K h=>by
 simp only[N8c,wpW] at h
 exact .of (by kernel_rfl) h
theorem N111 (a:List Int) (b:Int) (c:List Int) (d:Int) (g:List (Int×Int×Int×Unit)):Link N63 LL (cq [0,0,1,0,1,1] (bodyOf Tryz.f26)) (aq [0,0,1,0,1,1] N1o) ⟨mkE 21 0 [(0,.ptr 0 0),(1,dL a),(5,.slc 1),(6,dI b)],[some (.box [dV c,dI d]),some (.seq (.pair (.int .i64) (.pair (.int .i64) (.pair (.int .i64) .unit))) g)]⟩ (N69 a b c d g) (Sum.elim (fun(t:Int×Int×(List (Int×Int×Int×Unit)))=>(Exit.normal,⟨mkE 21 0 [(0,.ptr 0 0),(1,dL a),(5,.slc 1),(6,dI t.1)],[some (.box [dV c,dI t.2.1]),some (.seq (.pair (.int .i64) (.pair (.int .i64) (.pair (.int .i64) .unit))) t.2.2)]⟩)) (fun(t:Int×(List (Int×Int×Int×Unit)))=>((Exit.exit 0),⟨mkE 21 0 [(5,.slc 1)],[some (.box [dV c,dI t.1]),some (.seq (.pair (.int .i64) (.pair (.int .i64) (.pair (.int .i64) .unit))) t.2)]⟩))):= .of fun K h=>by
 simp only[N69,wpW] at h
 exact .of (by kernel_rfl) h
theorem Nzg (a:List Int) (b:Int) (c:List (Int×Int×Int×Unit)):Link N63 LL (cq [1,1,1] (bodyOf Tryz.f26)) (aq [1,1,1] N1o) ⟨mkE 21 0 [(5,.slc 1)],[some (.box [dV a,dI b]),some (.seq (.pair (.int .i64) (.pair (.int .i64) (.pair (.int .i64) .unit))) c)]⟩ (Nds b c) (fun(t:Int×(List (Int×Int×Int×Unit)))=>(Exit.ret,⟨mkE 21 0 [(4,.slc 1)],[some (.box [dV a,dI t.1]),some (.seq (.pair (.int .i64) (.pair (.int .i64) (.pair (.int .i64) .unit))) t.2)]⟩)):= .of fun K h=>by
 simp only[Nds,wpW] at h
 exact .of (by kernel_rfl) h
theorem Ny3 (b d:List Int) (g:Int) {r:AV} {H':Heap} (h:(Ans.mk _ (N2l b d g) (fun(t:Int×(List (Int×Int×Int×Unit)))=>(.slc 1,[some (.box [dV d,dI t.1]),some (.seq (.pair (.int .i64) (.pair (.int .i64) (.pair (.int .i64) .unit))) t.2)])) [] none).run=some (r,H')):Awp N63 LL (bodyOf Tryz.f26) N1o ⟨mkE 21 0 [(0,.ptr 0 0),(1,dL b)],[some (.box [dV d,dI g])]⟩ (Ret (tlook tys) Tryz.f26.results.toList r H'):=
 ret_of' (Link.cast (by kernel_rfl) (by kernel_rfl) (link_group (c:=(cq [0,1] (bodyOf Tryz.f26))) (a:=(aq [0,1] N1o)) [(cq [0] (bodyOf Tryz.f26))] [(aq [0] N1o)] rfl (link_seq (N12b b d g) (fun(t:Unit)=>(link_seq (link_seq (N15j b d g) (fun(t:Int×Int)=>(link_block (fin2:=(fun(t23:Int×(List (Int×Int×Int×Unit)))=>(Exit.normal,⟨mkE 21 0 [(5,.slc 1)],[some (.box [dV d,dI t23.1]),some (.seq (.pair (.int .i64) (.pair (.int .i64) (.pair (.int .i64) .unit))) t23.2)]⟩))) (id:=0) (link_loop (mk:=fun(s:Int×Int×(List (Int×Int×Int×Unit)))=>⟨mkE 21 0 [(0,.ptr 0 0),(1,dL b),(5,.slc 1),(6,dI s.1)],[some (.box [dV d,dI s.2.1]),some (.seq (.pair (.int .i64) (.pair (.int .i64) (.pair (.int .i64) .unit))) s.2.2)]⟩) (fin:=(fun(t23:Int×(List (Int×Int×Int×Unit)))=>((Exit.exit 0),⟨mkE 21 0 [(5,.slc 1)],[some (.box [dV d,dI t23.1]),some (.seq (.pair (.int .i64) (.pair (.int .i64) (.pair (.int .i64) .unit))) t23.2)]⟩))) (by
 rintro t23 f K h
 ·exact h) (fun s=>link_map (N111 b s.1 d s.2.1 s.2.2) (Sum.elim (fun(t23:Int×Int×(List (Int×Int×Int×Unit)))=>Sum.inl (t23.1,t23.2.1,t23.2.2)) (fun(t23:Int×(List (Int×Int×Int×Unit)))=>Sum.inr t23)) (by
 rintro(t23|t23)
 ·kernel_rfl
 ·kernel_rfl)) (t.1,t.2,([]:List (Int×Int×Int×Unit)))) (fun(t23:Int×(List (Int×Int×Int×Unit)))=>(t23.1,t23.2)) (by
 rintro t23 K h
 ·exact Eq.mp (by kernel_rfl) h)))) (fun(t:Int×(List (Int×Int×Int×Unit)))=>(Nzg d t.1 t.2))))))) (by unfold N2l;kernel_rfl) (by
 intro t
 exact ret_mk [.slc 1] (by kernel_rfl) (by kernel_rfl) (by kernel_rfl) (by kernel_rfl)) h
def N8w:Fun:=fun avs H=>
 match avs,H with
 |[.ptr 0 0,.dat (.list (.int .i64)) a],[some (.box [.dat (.list (.int .u8)) b,.dat (.int .i64) c])]=>⟨_,N2l a b c,fun(t:Int×(List (Int×Int×Int×Unit)))=>(.slc 1,[some (.box [dV b,dI t.1]),some (.seq (.pair (.int .i64) (.pair (.int .i64) (.pair (.int .i64) .unit))) t.2)]),[],none⟩
 |_,_=>Ans.no
theorem Nm6:Sound Tryz.prog 26 N8w:=by
 refine fn_sound' (C:=N63) (c:=bodyOf Tryz.f26) (cok_of tys_ok (allc Nu (allc No2 alln)) (allc Tryz.call19 (allc Tryz.call50 alln)) (by kernel_rfl)) Tryz.func26 (by kernel_rfl) LL N1o ?_
 intro avs H r H' h
 unfold N8w at h
 split at h
 ·refine Awp.cast ?_ ?_ ?_ (Ny3 _ _ _ h)<;>kernel_rfl
 ·simp[Ans.no,Ans.run] at h
def Ni6:Ann:=(.seq (.leaf [0]) (.seq (.seq (.leaf [0,4]) (.cond (.seq (.leafF [⟨5,9,false,none,none⟩] [2]) (.leaf [2])) (.leaf [0]))) (.seq (.draw [2,7] [0,1,3,4,5,6,7,8,2,9,10] [] [2]) (.leaf [2]))))
def N23 (n:Nat):Fun:=fun avs H=>
 match avs,H with
 |[.dat (.int .i64) a],[]=>⟨_,N6j n a,fun(t:ByteArray)=>(dS t,[]),[],none⟩
 |_,_=>Ans.no
noncomputable def Ndu (n:Nat):Ctx:=⟨tlook tys,olook [(63,N23 n)],ioF,0,false,[]⟩
theorem N11e (n:Nat) (a:Int):Link (Ndu n) LL (bodyOf Tryz.f63) Ni6 ⟨mkE 21 0 [(0,dI a)],[]⟩ (Nhx (N6j n) a) (fun(t:ByteArray)=>(Exit.ret,⟨mkE 21 0 [(2,dS t)],[]⟩)):= .of fun K h=>by
 simp only[Nhx,wpW] at h
 exact .of (by kernel_rfl) h
theorem N11n (n:Nat) (a:Int) {r:AV} {H':Heap} (h:(Ans.mk _ (N6j (n+1) a) (fun(t:ByteArray)=>(dS t,[])) [] none).run=some (r,H')):Awp (Ndu n) LL (bodyOf Tryz.f63) Ni6 ⟨mkE 21 0 [(0,dI a)],[]⟩ (Ret (tlook tys) Tryz.f63.results.toList r H'):=
 ret_of' (N11e n a) (by(show _=_);kernel_rfl) (by
 intro t
 exact ret_mk [dS t] (by kernel_rfl) (by kernel_rfl) (by kernel_rfl) (by kernel_rfl)) h
theorem Nr6 (n:Nat) (h63:Sound Tryz.prog 63 (N23 n)):Sound Tryz.prog 63 (N23 (n+1)):=by
 refine fn_sound' (C:=Ndu n) (c:=bodyOf Tryz.f63) (cok_of tys_ok (allc h63 alln) (allc Tryz.call63 alln) (by kernel_rfl)) Tryz.func63 (by kernel_rfl) LL Ni6 ?_
 intro avs H r H' h
 unfold N23 at h
 split at h
 ·refine Awp.cast ?_ ?_ ?_ (N11n n _ h)<;>kernel_rfl
 ·simp[Ans.no,Ans.run] at h
theorem Nw2:Sound Tryz.prog 63 (N23 0):=by
 intro avs H r H' h
 unfold N23 at h
 split at h
 ·simp[N6j,Ndc,Ans.run] at h
 ·simp[Ans.no,Ans.run] at h
theorem Njc: ∀n,Sound Tryz.prog 63 (N23 n)
 |0=>Nw2
 |n+1=>by
  have h63:=Njc n
  exact Nr6 n h63
def Nc2:Fun:=fun avs H=>
 match avs,H with
 |[.dat (.int .i64) a],[]=>⟨_,N12 a,fun(t:ByteArray)=>(dS t,[]),[],none⟩
 |_,_=>Ans.no
theorem Nvg:Sound Tryz.prog 63 Nc2:=by
 have e:Nc2=N23 RR:=by
  funext avs H
  unfold Nc2 N23
  split<;>first|rfl|(simp only[N12])
 rw[e]
 exact(Njc RR)
def N2g:Ann:=(.seq (.leaf [1]) (.seq (.block (.seq (.leaf [1,3]) (.cond (.seq (.draw [2,7] [0,1,5,6,2,3,4,7,8,9] [] [2]) (.leaf [2])) (.seq (.leaf [1,26]) (.cond (.seq (.leaf [2]) (.leaf [2])) (.seq (.leaf [1,44]) (.cond (.seq (.leaf [2]) (.leaf [2])) (.seq (.leaf [1,48]) (.cond (.seq (.leaf [2]) (.leaf [2])) (.seq (.leaf [1,52]) (.cond (.seq (.leaf [2]) (.leaf [2])) (.seq (.leaf [56]) (.cond (.seq (.leaf [2]) (.leaf [2])) (.leaf [])))))))))))))) (.seq (.leaf [2]) (.leaf [2]))))
noncomputable def N2o:Ctx:=⟨tlook tys,olook [(51,N3p),(63,Nc2)],ioF,0,false,[]⟩
theorem Nz3 (a b c:Int):Link N2o LL (cq [0] (bodyOf Tryz.f40)) (aq [0] N2g) ⟨mkE 60 0 [(0,.agg [dI a,dI b,dI c])],[]⟩ (N7u) (fun(t:Unit)=>(Exit.normal,⟨mkE 60 0 [(1,.ptr 0 0)],[some (.box [dI a,dI b,dI c])]⟩)):= .of fun K h=>by
 simp only[N7u,wpW] at h
 exact .of (by kernel_rfl) h
theorem N16q (a b c:Int):Link N2o LL (cq [0,0,0,1] (bodyOf Tryz.f40)) (aq [0,0,0,1] N2g) ⟨mkE 60 0 [(1,.ptr 0 0)],[some (.box [dI a,dI b,dI c])]⟩ (N98 a b c) (fun(t:Bool)=>(Exit.normal,⟨mkE 60 0 [(1,.ptr 0 0),(3,dB t)],[some (.box [dI a,dI b,dI c])]⟩)):= .of fun K h=>by
 simp only[N98,wpW] at h
 exact .of (by kernel_rfl) h
theorem Nrt (a:Bool) (b c d:Int):Link N2o LL (cq [0,1,0,0,1] (bodyOf Tryz.f40)) (aq [0,1,0,0,1] N2g) ⟨mkE 60 0 [(1,.ptr 0 0),(3,dB a)],[some (.box [dI b,dI c,dI d])]⟩ (Nc7 c d) (fun(t:ByteArray)=>(Exit.ret,⟨mkE 60 0 [(2,dS t)],[]⟩)):= .of fun K h=>by
 simp only[Nc7,wpW] at h
 exact .of (by kernel_rfl) h
theorem Nro (a:Bool) (b c d:Int):Link N2o LL (cq [0,1,1,0,0,1] (bodyOf Tryz.f40)) (aq [0,1,1,0,0,1] N2g) ⟨mkE 60 0 [(1,.ptr 0 0),(3,dB a)],[some (.box [dI b,dI c,dI d])]⟩ (Nbt b c d) (fun(t:Bool)=>(Exit.normal,⟨mkE 60 0 [(1,.ptr 0 0),(26,dB t)],[some (.box [dI b,dI c,dI d])]⟩)):= .of fun K h=>by
 simp only[Nbt,wpW] at h
 exact .of (by kernel_rfl) h
theorem Nxx (a:Bool) (b c d:Int):Link N2o LL (cq [1,1,1,0,0,1] (bodyOf Tryz.f40)) (aq [1,1,1,0,0,1] N2g) ⟨mkE 60 0 [(1,.ptr 0 0),(26,dB a)],[some (.box [dI b,dI c,dI d])]⟩ (N6a a b c d) (Sum.elim (fun(t:Unit)=>(Exit.normal,⟨mkE 60 0 [],[]⟩)) (fun(t:ByteArray)=>(Exit.ret,⟨mkE 60 0 [(2,dS t)],[]⟩))):= .of fun K h=>by
 simp only[N6a,wpW] at h
 exact .of (by kernel_rfl) h
theorem N10k:Link N2o LL (cq [1,1] (bodyOf Tryz.f40)) (aq [1,1] N2g) ⟨mkE 60 0 [],[]⟩ (Nh7) (fun(t:ByteArray)=>(Exit.ret,⟨mkE 60 0 [(2,dS t)],[]⟩)):= .of fun K h=>by
 simp only[Nh7,wpW] at h
 exact .of (by kernel_rfl) h
theorem N17n (a b d:Int) {r:AV} {H':Heap} (h:(Ans.mk _ (Nj a b d) (fun(t:ByteArray)=>(dS t,[])) [] none).run=some (r,H')):Awp N2o LL (bodyOf Tryz.f40) N2g ⟨mkE 60 0 [(0,.agg [dI a,dI b,dI d])],[]⟩ (Ret (tlook tys) Tryz.f40.results.toList r H'):=
 ret_of' (Link.cast (by kernel_rfl) (by kernel_rfl) (link_seq (Nz3 a b d) (fun(t:Unit)=>(link_seq2 (link_block (fin2:=(Sum.elim (fun(t:Unit)=>(Exit.normal,⟨mkE 60 0 [],[]⟩)) (fun(t:ByteArray)=>(Exit.ret,⟨mkE 60 0 [(2,dS t)],[]⟩)))) (id:=0) (link_seq (N16q a b d) (fun(t:Bool)=>(link_cond (c:= .tmp 3) (g:=t) (by kernel_rfl) ((link_map (fin2:=(Sum.elim (fun(t24:Unit)=>(Exit.normal,⟨mkE 60 0 [],[]⟩)) (fun(t24:ByteArray)=>(Exit.ret,⟨mkE 60 0 [(2,dS t24)],[]⟩)))) (Nrt t a b d) (fun(t24:ByteArray)=>(Sum.inr t24)) (by
 rintro t24
 ·kernel_rfl))) ((link_seq (Nro t a b d) (fun(t24:Bool)=>(Nxx t24 a b d))))))) (Sum.elim (fun(t:Unit)=>(Sum.inl ())) (fun(t:ByteArray)=>(Sum.inr t))) (by
 rintro(t|t) K h
 ·exact Eq.mp (by kernel_rfl) h
 ·exact Eq.mp (by kernel_rfl) h)) (fun(t:Unit)=>(N10k)) (fun(t:ByteArray)=>t) (by
 rintro t
 ·kernel_rfl) (by
 rintro t f K h
 ·exact h))))) (by unfold Nj;kernel_rfl) (by
 intro t
 exact ret_mk [dS t] (by kernel_rfl) (by kernel_rfl) (by kernel_rfl) (by kernel_rfl)) h
def N7n:Fun:=fun avs H=>
 match avs,H with
 |[.agg [.dat (.int .i64) a,.dat (.int .i64) b,.dat (.int .i64) c]],[]=>⟨_,Nj a b c,fun(t:ByteArray)=>(dS t,[]),[],none⟩
 |_,_=>Ans.no
theorem Niy:Sound Tryz.prog 40 N7n:=by
 refine fn_sound' (C:=N2o) (c:=bodyOf Tryz.f40) (cok_of tys_ok (allc N7m (allc Nvg alln)) (allc Tryz.call51 (allc Tryz.call63 alln)) (by kernel_rfl)) Tryz.func40 (by kernel_rfl) LL N2g ?_
 intro avs H r H' h
 unfold N7n at h
 split at h
 ·refine Awp.cast ?_ ?_ ?_ (N17n _ _ _ h)<;>kernel_rfl
 ·simp[Ans.no,Ans.run] at h
def Nt:Ann:=(.seq (.leaf [0]) (.seq (.leaf [0,3]) (.seq (.leafF [⟨3,9,false,none,none⟩] [3,4]) (.seq (.seq (.leaf [3,4,5]) (.block (.loop (.seq (.seq (.leaf [3,4,5,14]) (.cond (.leaf [3,4,5]) (.leaf [3]))) (.seq (.block (.seq (.leaf [3,4,5,22]) (.cond (.leaf [3,4,5]) (.leaf [3,4,5])))) (.leaf [3,4,5])))))) (.seq (.leaf [2]) (.leaf [2]))))))
noncomputable def N4d:Ctx:=⟨tlook tys,olook [(41,Naa),(26,N8w),(40,N7n)],ioF,1,false,[]⟩
theorem Nxy (a:List Int) (b:Int):Link N4d LL (Code.seq (cq [0] (bodyOf Tryz.f18)) (Code.seq (cq [0,1] (bodyOf Tryz.f18)) (cq [0,1,1] (bodyOf Tryz.f18)))) (Ann.seq (aq [0] Nt) (Ann.seq (aq [0,1] Nt) (aq [0,1,1] Nt))) ⟨mkE 31 0 [(0,.ptr 0 0)],[some (.box [dV a,dI b])]⟩ (N97 a b) (fun(t:Int×(List (Int×Int×Int×Unit)))=>(Exit.normal,⟨mkE 31 0 [(3,.slc 1),(4,.slc 2)],[some (.box [dV a,dI t.1]),some (.seq (.pair (.int .i64) (.pair (.int .i64) (.pair (.int .i64) .unit))) ([]:List (Int×Int×Int×Unit))),some (.seq (.pair (.int .i64) (.pair (.int .i64) (.pair (.int .i64) .unit))) t.2)]⟩)):= .of fun K h=>by
 simp only[N97,wpW] at h
 exact .of (by kernel_rfl) h
theorem Nx1 (a:List Int) (b:Int) (c:List (Int×Int×Int×Unit)):Link N4d LL (cq [0,0,1,1,1] (bodyOf Tryz.f18)) (aq [0,0,1,1,1] Nt) ⟨mkE 31 0 [(3,.slc 1),(4,.slc 2)],[some (.box [dV a,dI b]),some (.seq (.pair (.int .i64) (.pair (.int .i64) (.pair (.int .i64) .unit))) ([]:List (Int×Int×Int×Unit))),some (.seq (.pair (.int .i64) (.pair (.int .i64) (.pair (.int .i64) .unit))) c)]⟩ (N8o) (fun(t:Unit)=>(Exit.normal,⟨mkE 31 0 [(3,.slc 1),(4,.slc 2),(5,dI 0)],[some (.box [dV a,dI b]),some (.seq (.pair (.int .i64) (.pair (.int .i64) (.pair (.int .i64) .unit))) ([]:List (Int×Int×Int×Unit))),some (.seq (.pair (.int .i64) (.pair (.int .i64) (.pair (.int .i64) .unit))) c)]⟩)):= .of fun K h=>by
 simp only[N8o,wpW] at h
 exact .of (by kernel_rfl) h
theorem Nuq (a:Int) (b:List Int) (c:Int) (d g:List (Int×Int×Int×Unit)):Link N4d LL (cq [0,0,1,0,1,1,1] (bodyOf Tryz.f18)) (aq [0,0,1,0,1,1,1] Nt) ⟨mkE 31 0 [(3,.slc 1),(4,.slc 2),(5,dI a)],[some (.box [dV b,dI c]),some (.seq (.pair (.int .i64) (.pair (.int .i64) (.pair (.int .i64) .unit))) d),some (.seq (.pair (.int .i64) (.pair (.int .i64) (.pair (.int .i64) .unit))) g)]⟩ (N7c a d g) (Sum.elim (fun(t:Int×(List (Int×Int×Int×Unit)))=>(Exit.normal,⟨mkE 31 0 [(3,.slc 1),(4,.slc 2),(5,dI t.1)],[some (.box [dV b,dI c]),some (.seq (.pair (.int .i64) (.pair (.int .i64) (.pair (.int .i64) .unit))) t.2),some (.seq (.pair (.int .i64) (.pair (.int .i64) (.pair (.int .i64) .unit))) g)]⟩)) (fun(t:(List (Int×Int×Int×Unit)))=>((Exit.exit 0),⟨mkE 31 0 [(3,.slc 1)],[some (.box [dV b,dI c]),some (.seq (.pair (.int .i64) (.pair (.int .i64) (.pair (.int .i64) .unit))) t)]⟩))):= .of fun K h=>by
 simp only[N7c,wpW] at h
 exact .of (by kernel_rfl) h
theorem N123 (a:List Int) (b:Int) (c:List (Int×Int×Int×Unit)):Link N4d LL (cq [1,1,1,1] (bodyOf Tryz.f18)) (aq [1,1,1,1] Nt) ⟨mkE 31 0 [(3,.slc 1)],[some (.box [dV a,dI b]),some (.seq (.pair (.int .i64) (.pair (.int .i64) (.pair (.int .i64) .unit))) c)]⟩ (Ndx b c) (fun(t:Int×(List (Int×Int×Int×Unit)))=>(Exit.ret,⟨mkE 31 0 [(2,.slc 1)],[some (.box [dV a,dI t.1]),some (.seq (.pair (.int .i64) (.pair (.int .i64) (.pair (.int .i64) .unit))) t.2)]⟩)):= .of fun K h=>by
 simp only[Ndx,wpW] at h
 exact .of (by kernel_rfl) h
theorem Nwy (b:List Int) (d:Int) {r:AV} {H':Heap} (h:(Ans.mk _ (N3r b d) (fun(t:Int×(List (Int×Int×Int×Unit)))=>(.slc 1,[some (.box [dV b,dI t.1]),some (.seq (.pair (.int .i64) (.pair (.int .i64) (.pair (.int .i64) .unit))) t.2)])) [] none).run=some (r,H')):Awp N4d LL (bodyOf Tryz.f18) Nt ⟨mkE 31 0 [(0,.ptr 0 0)],[some (.box [dV b,dI d])]⟩ (Ret (tlook tys) Tryz.f18.results.toList r H'):=
 ret_of' (Link.cast (by kernel_rfl) (by kernel_rfl) (link_group (c:=(cq [0,1,1] (bodyOf Tryz.f18))) (a:=(aq [0,1,1] Nt)) [(cq [0] (bodyOf Tryz.f18)),(cq [0,1] (bodyOf Tryz.f18))] [(aq [0] Nt),(aq [0,1] Nt)] rfl (link_seq (Nxy b d) (fun(t:Int×(List (Int×Int×Int×Unit)))=>(link_seq (link_seq (Nx1 b t.1 t.2) (fun(t47:Unit)=>(link_block (fin2:=(fun(t47:(List (Int×Int×Int×Unit)))=>(Exit.normal,⟨mkE 31 0 [(3,.slc 1)],[some (.box [dV b,dI t.1]),some (.seq (.pair (.int .i64) (.pair (.int .i64) (.pair (.int .i64) .unit))) t47)]⟩))) (id:=0) (link_loop (mk:=fun(s:Int×(List (Int×Int×Int×Unit)))=>⟨mkE 31 0 [(3,.slc 1),(4,.slc 2),(5,dI s.1)],[some (.box [dV b,dI t.1]),some (.seq (.pair (.int .i64) (.pair (.int .i64) (.pair (.int .i64) .unit))) s.2),some (.seq (.pair (.int .i64) (.pair (.int .i64) (.pair (.int .i64) .unit))) t.2)]⟩) (fin:=(fun(t47:(List (Int×Int×Int×Unit)))=>((Exit.exit 0),⟨mkE 31 0 [(3,.slc 1)],[some (.box [dV b,dI t.1]),some (.seq (.pair (.int .i64) (.pair (.int .i64) (.pair (.int .i64) .unit))) t47)]⟩))) (by
 rintro t47 f K h
 ·exact h) (fun s=>link_map (Nuq s.1 b t.1 s.2 t.2) (Sum.elim (fun(t47:Int×(List (Int×Int×Int×Unit)))=>Sum.inl (t47.1,t47.2)) (fun(t47:(List (Int×Int×Int×Unit)))=>Sum.inr t47)) (by
 rintro(t47|t47)
 ·kernel_rfl
 ·kernel_rfl)) (0,([]:List (Int×Int×Int×Unit)))) (fun(t47:(List (Int×Int×Int×Unit)))=>t47) (by
 rintro t47 K h
 ·exact Eq.mp (by kernel_rfl) h)))) (fun(t47:(List (Int×Int×Int×Unit)))=>(N123 b t.1 t47))))))) (by unfold N3r;kernel_rfl) (by
 intro t
 exact ret_mk [.slc 1] (by kernel_rfl) (by kernel_rfl) (by kernel_rfl) (by kernel_rfl)) h
def Nit:Fun:=fun avs H=>
 match avs,H with
 |[.ptr 0 0],[some (.box [.dat (.list (.int .u8)) a,.dat (.int .i64) b])]=>⟨_,N3r a b,fun(t:Int×(List (Int×Int×Int×Unit)))=>(.slc 1,[some (.box [dV a,dI t.1]),some (.seq (.pair (.int .i64) (.pair (.int .i64) (.pair (.int .i64) .unit))) t.2)]),[],none⟩
 |_,_=>Ans.no
theorem Nuo:Sound Tryz.prog 18 Nit:=by
 refine fn_sound' (C:=N4d) (c:=bodyOf Tryz.f18) (cok_of tys_ok (allc Nn5 (allc Nm6 (allc Niy alln))) (allc Tryz.call41 (allc Tryz.call26 (allc Tryz.call40 alln))) (by kernel_rfl)) Tryz.func18 (by kernel_rfl) LL Nt ?_
 intro avs H r H' h
 unfold Nit at h
 split at h
 ·refine Awp.cast ?_ ?_ ?_ (Nwy _ _ h)<;>kernel_rfl
 ·simp[Ans.no,Ans.run] at h
def N20:Ann:=(.seq (.leaf [0]) (.seq (.leaf [0,3]) (.seq (.seq (.leaf [0,3,4]) (.block (.loop (.seq (.seq (.leaf [0,3,4,8]) (.cond (.leaf [0,3,4]) (.leaf [3]))) (.seq (.block (.seq (.seq (.leaf [0,3,4,16]) (.cond (.seq (.leaf [2]) (.leaf [2])) (.leaf [0,3,4]))) (.leaf [0,3,4]))) (.leaf [0,3,4])))))) (.seq (.leaf [2]) (.leaf [2])))))
noncomputable def N4n:Ctx:=⟨tlook tys,olook [(40,N7n)],ioF,0,false,[]⟩
theorem N131 (a:List (Int×Int×Int×Unit)):Link N4n LL (Code.seq (cq [0] (bodyOf Tryz.f17)) (cq [0,1] (bodyOf Tryz.f17))) (Ann.seq (aq [0] N20) (aq [0,1] N20)) ⟨mkE 26 0 [(0,.dat (.list (.pair (.int .i64) (.pair (.int .i64) (.pair (.int .i64) .unit)))) a)],[]⟩ (Nbs) (fun(t:Unit)=>(Exit.normal,⟨mkE 26 0 [(0,.dat (.list (.pair (.int .i64) (.pair (.int .i64) (.pair (.int .i64) .unit)))) a),(3,dS ByteArray.empty)],[]⟩)):= .of fun K h=>by
 simp only[Nbs,wpW] at h
 exact .of (by kernel_rfl) h
theorem Nrs (a:List (Int×Int×Int×Unit)):Link N4n LL (cq [0,0,1,1] (bodyOf Tryz.f17)) (aq [0,0,1,1] N20) ⟨mkE 26 0 [(0,.dat (.list (.pair (.int .i64) (.pair (.int .i64) (.pair (.int .i64) .unit)))) a),(3,dS ByteArray.empty)],[]⟩ (N99) (fun(t:Unit)=>(Exit.normal,⟨mkE 26 0 [(0,.dat (.list (.pair (.int .i64) (.pair (.int .i64) (.pair (.int .i64) .unit)))) a),(3,dS ByteArray.empty),(4,dI 0)],[]⟩)):= .of fun K h=>by
 simp only[N99,wpW] at h
 exact .of (by kernel_rfl) h
theorem Nxz (a:List (Int×Int×Int×Unit)) (b:ByteArray) (c:Int):Link N4n LL (cq [0,0,1,0,1,1] (bodyOf Tryz.f17)) (aq [0,0,1,0,1,1] N20) ⟨mkE 26 0 [(0,.dat (.list (.pair (.int .i64) (.pair (.int .i64) (.pair (.int .i64) .unit)))) a),(3,dS b),(4,dI c)],[]⟩ (N3k a b c) (Sum.elim (fun(t:ByteArray×Int)=>(Exit.normal,⟨mkE 26 0 [(0,.dat (.list (.pair (.int .i64) (.pair (.int .i64) (.pair (.int .i64) .unit)))) a),(3,dS t.1),(4,dI t.2)],[]⟩)) (Sum.elim (fun(t:ByteArray)=>(Exit.ret,⟨mkE 26 0 [(2,dS t)],[]⟩)) (fun(t:ByteArray)=>((Exit.exit 0),⟨mkE 26 0 [(3,dS t)],[]⟩)))):= .of fun K h=>by
 simp only[N3k,wpW] at h
 exact .of (by kernel_rfl) h
theorem N16k (a:ByteArray):Link N4n LL (cq [1,1,1] (bodyOf Tryz.f17)) (aq [1,1,1] N20) ⟨mkE 26 0 [(3,dS a)],[]⟩ (Nal a) (fun(t:ByteArray)=>(Exit.ret,⟨mkE 26 0 [(2,dS t)],[]⟩)):= .of fun K h=>by
 simp only[Nal,wpW] at h
 exact .of (by kernel_rfl) h
theorem Ny8 (b:List (Int×Int×Int×Unit)) {r:AV} {H':Heap} (h:(Ans.mk _ (N3x b) (fun(t:ByteArray)=>(dS t,[])) [] none).run=some (r,H')):Awp N4n LL (bodyOf Tryz.f17) N20 ⟨mkE 26 0 [(0,.dat (.list (.pair (.int .i64) (.pair (.int .i64) (.pair (.int .i64) .unit)))) b)],[]⟩ (Ret (tlook tys) Tryz.f17.results.toList r H'):=
 ret_of' (Link.cast (by kernel_rfl) (by kernel_rfl) (link_group (c:=(cq [0,1] (bodyOf Tryz.f17))) (a:=(aq [0,1] N20)) [(cq [0] (bodyOf Tryz.f17))] [(aq [0] N20)] rfl (link_seq (N131 b) (fun(t:Unit)=>(link_seq2 (link_seq (Nrs b) (fun(t:Unit)=>(link_block (fin2:=(Sum.elim (fun(t:ByteArray)=>(Exit.normal,⟨mkE 26 0 [(3,dS t)],[]⟩)) (fun(t:ByteArray)=>(Exit.ret,⟨mkE 26 0 [(2,dS t)],[]⟩)))) (id:=0) (link_loop (mk:=fun(s:ByteArray×Int)=>⟨mkE 26 0 [(0,.dat (.list (.pair (.int .i64) (.pair (.int .i64) (.pair (.int .i64) .unit)))) b),(3,dS s.1),(4,dI s.2)],[]⟩) (fin:=(Sum.elim (fun(t:ByteArray)=>(Exit.ret,⟨mkE 26 0 [(2,dS t)],[]⟩)) (fun(t:ByteArray)=>((Exit.exit 0),⟨mkE 26 0 [(3,dS t)],[]⟩)))) (by
 rintro(t|t) f K h
 ·exact h
 ·exact h) (fun s=>link_map (Nxz b s.1 s.2) (Sum.elim (fun(t:ByteArray×Int)=>Sum.inl (t.1,t.2)) (Sum.elim (fun(t:ByteArray)=>Sum.inr (Sum.inl t)) (fun(t:ByteArray)=>Sum.inr (Sum.inr t)))) (by
 rintro(t|t|t)
 ·kernel_rfl
 ·kernel_rfl
 ·kernel_rfl)) (ByteArray.empty,0)) (Sum.elim (fun(t:ByteArray)=>(Sum.inr t)) (fun(t:ByteArray)=>(Sum.inl t))) (by
 rintro(t|t) K h
 ·exact Eq.mp (by kernel_rfl) h
 ·exact Eq.mp (by kernel_rfl) h)))) (fun(t:ByteArray)=>(N16k t)) (fun(t:ByteArray)=>t) (by
 rintro t
 ·kernel_rfl) (by
 rintro t f K h
 ·exact h)))))) (by unfold N3x;kernel_rfl) (by
 intro t
 exact ret_mk [dS t] (by kernel_rfl) (by kernel_rfl) (by kernel_rfl) (by kernel_rfl)) h
def Ne6:Fun:=fun avs H=>
 match avs,H with
 |[.dat (.list (.pair (.int .i64) (.pair (.int .i64) (.pair (.int .i64) .unit)))) a],[]=>⟨_,N3x a,fun(t:ByteArray)=>(dS t,[]),[],none⟩
 |_,_=>Ans.no
theorem N16a:Sound Tryz.prog 17 Ne6:=by
 refine fn_sound' (C:=N4n) (c:=bodyOf Tryz.f17) (cok_of tys_ok (allc Niy alln) (allc Tryz.call40 alln) (by kernel_rfl)) Tryz.func17 (by kernel_rfl) LL N20 ?_
 intro avs H r H' h
 unfold Ne6 at h
 split at h
 ·refine Awp.cast ?_ ?_ ?_ (Ny8 _ h)<;>kernel_rfl
 ·simp[Ans.no,Ans.run] at h
def Nf8:Ann:=(.seq (.leaf [0,1]) (.seq (.seq (.leaf [0,1,8]) (.cond (.seq (.leaf [4]) (.leaf [4])) (.leaf [0,1]))) (.seq (.leaf [0,1,5]) (.seq (.draw [3,2,12] [0,1,2,3,4,9,10,11,12,5,6,7,8,13,14] [] [4]) (.leaf [4])))))
noncomputable def Nhr:Ctx:=⟨tlook tys,olook [(19,Nk)],ioF,1,false,[]⟩
theorem Ntx (a:ByteArray) (b:List Int) (c:Int):Link Nhr LL (bodyOf Tryz.f20) Nf8 ⟨mkE 27 0 [(0,.ptr 0 0),(1,dS a)],[some (.box [dV b,dI c])]⟩ (N7f a b c) (fun(t:ByteArray×Int)=>(Exit.ret,⟨mkE 27 0 [(4,dS t.1)],[some (.box [dV b,dI t.2])]⟩)):= .of fun K h=>by
 simp only[N7f,wpW] at h
 exact .of (by kernel_rfl) h
theorem Nzb (a:ByteArray) (b:List Int) (c:Int) {r:AV} {H':Heap} (h:(Ans.mk _ (N32 a b c) (fun(t:ByteArray×Int)=>(dS t.1,[some (.box [dV b,dI t.2])])) [] none).run=some (r,H')):Awp Nhr LL (bodyOf Tryz.f20) Nf8 ⟨mkE 27 0 [(0,.ptr 0 0),(1,dS a)],[some (.box [dV b,dI c])]⟩ (Ret (tlook tys) Tryz.f20.results.toList r H'):=
 ret_of' (Ntx a b c) (by unfold N32;kernel_rfl) (by
 intro t
 exact ret_mk [dS t.1] (by kernel_rfl) (by kernel_rfl) (by kernel_rfl) (by kernel_rfl)) h
def Nid:Fun:=fun avs H=>
 match avs,H with
 |[.ptr 0 0,.dat .str a],[some (.box [.dat (.list (.int .u8)) b,.dat (.int .i64) c])]=>⟨_,N32 a b c,fun(t:ByteArray×Int)=>(dS t.1,[some (.box [dV b,dI t.2])]),[],none⟩
 |_,_=>Ans.no
theorem N15e:Sound Tryz.prog 20 Nid:=by
 refine fn_sound' (C:=Nhr) (c:=bodyOf Tryz.f20) (cok_of tys_ok (allc Nu alln) (allc Tryz.call19 alln) (by kernel_rfl)) Tryz.func20 (by kernel_rfl) LL Nf8 ?_
 intro avs H r H' h
 unfold Nid at h
 split at h
 ·refine Awp.cast ?_ ?_ ?_ (Nzb _ _ _ h)<;>kernel_rfl
 ·simp[Ans.no,Ans.run] at h
def Nfp:Ann:=(.seq (.leaf [0]) (.seq (.leaf [3]) (.seq (.leaf [3,4]) (.seq (.seq (.leaf [3,4,11]) (.block (.seq (.leaf [3,4,11,12]) (.cond (.seq (.leaf [2]) (.leaf [2])) (.seq (.leaf [3,4,17]) (.cond (.seq (.leaf [2]) (.leaf [2])) (.leaf [4]))))))) (.seq (.leaf [2]) (.leaf [2]))))))
noncomputable def Nic:Ctx:=⟨tlook tys,olook [(16,N7t),(18,Nit),(17,Ne6),(19,Nk),(20,Nid)],ioF,0,false,[]⟩
theorem Nql (a:List Int):Link Nic LL (bodyOf Tryz.f4) Nfp ⟨mkE 27 0 [(0,dV a)],[]⟩ (N8d a) (fun(t:ByteArray)=>(Exit.ret,⟨mkE 27 0 [(2,dS t)],[]⟩)):= .of fun K h=>by
 simp only[N8d,wpW] at h
 exact .of (by kernel_rfl) h
theorem Nv4 (a:List Int) {r:AV} {H':Heap} (h:(Ans.mk _ (N52 a) (fun(t:ByteArray)=>(dS t,[])) [] none).run=some (r,H')):Awp Nic LL (bodyOf Tryz.f4) Nfp ⟨mkE 27 0 [(0,dV a)],[]⟩ (Ret (tlook tys) Tryz.f4.results.toList r H'):=
 ret_of' (Nql a) (by unfold N52;kernel_rfl) (by
 intro t
 exact ret_mk [dS t] (by kernel_rfl) (by kernel_rfl) (by kernel_rfl) (by kernel_rfl)) h
def Nfq:Fun:=fun avs H=>
 match avs,H with
 |[.dat (.list (.int .u8)) a],[]=>⟨_,N52 a,fun(t:ByteArray)=>(dS t,[]),[],none⟩
 |_,_=>Ans.no
theorem N17x:Sound Tryz.prog 4 Nfq:=by
 refine fn_sound' (C:=Nic) (c:=bodyOf Tryz.f4) (cok_of tys_ok (allc Nn9 (allc Nuo (allc N16a (allc Nu (allc N15e alln))))) (allc Tryz.call16 (allc Tryz.call18 (allc Tryz.call17 (allc Tryz.call19 (allc Tryz.call20 alln))))) (by kernel_rfl)) Tryz.func4 (by kernel_rfl) LL Nfp ?_
 intro avs H r H' h
 unfold Nfq at h
 split at h
 ·refine Awp.cast ?_ ?_ ?_ (Nv4 _ h)<;>kernel_rfl
 ·simp[Ans.no,Ans.run] at h
def ren_sidx:Go.Shelf.Ren:=⟨fun|217=>101|219=>68|224=>103|225=>102|266=>141|267=>104|314=>142|n=>n,fun|3=>3|4=>4|5=>5|9=>9|46=>115|51=>139|146=>140|n=>n,fun|1=>1|n=>n⟩
theorem lay_sidx:Lays.n219 Tryz.prog ren_sidx:={
 mixed:=by kernel_rfl
 f217:=Tryz.func101.trans (congrArg some (by kernel_rfl))
 f219:=Tryz.func68.trans (congrArg some (by kernel_rfl))
 f224:=Tryz.func103.trans (congrArg some (by kernel_rfl))
 f225:=Tryz.func102.trans (congrArg some (by kernel_rfl))
 f266:=Tryz.func141.trans (congrArg some (by kernel_rfl))
 f267:=Tryz.func104.trans (congrArg some (by kernel_rfl))
 f314:=Tryz.func142.trans (congrArg some (by kernel_rfl))
 t3:=Tryz.underlying3
 a3:=Tryz.isAgg3
 z3:=Tryz.sizeOf3
 v3:=Tryz.zeroValue3
 t4:=Tryz.underlying4
 a4:=Tryz.isAgg4
 z4:=Tryz.sizeOf4
 v4:=Tryz.zeroValue4
 t5:=Tryz.underlying5
 a5:=Tryz.isAgg5
 z5:=Tryz.sizeOf5
 v5:=Tryz.zeroValue5
 t9:=Tryz.underlying9
 a9:=Tryz.isAgg9
 z9:=Tryz.sizeOf9
 v9:=Tryz.zeroValue9
 t46:=Tryz.underlying115
 a46:=Tryz.isAgg115
 z46:=Tryz.sizeOf115
 v46:=Tryz.zeroValue115
 t51:=Tryz.underlying139
 a51:=Tryz.isAgg139
 z51:=Tryz.sizeOf139
 v51:=Tryz.zeroValue139
 t146:=Tryz.underlying140
 a146:=Tryz.isAgg140
 z146:=Tryz.sizeOf140
 a:=Tryz.zeroValue140
 g1:=by kernel_rfl}
def Ni5:Fun:=F_sidx
theorem Nj9:Sound Tryz.prog 68 Ni5:=sidx_sound lay_sidx
def Nhy:Ann:=(.seq (.leaf [0,1]) (.seq (.seq (.leaf [0,1,7]) (.seq (.leaf [0,1,7,12]) (.cond (.seq (.draw [] [0,1,2,3,4,5,6,7,8,9,10,11] [] [4,5,6]) (.leaf [4,5,6])) (.leaf [0])))) (.seq (.leaf [4,5,6]) (.leaf [4,5,6]))))
noncomputable def Nfm:Ctx:=⟨tlook tys,olook [(68,Ni5)],ioF,0,false,[]⟩
theorem N13d (a b:ByteArray):Link Nfm LL (bodyOf Tryz.f42) Nhy ⟨mkE 23 0 [(0,dS a),(1,dS b)],[]⟩ (N2v a b) (fun(t:ByteArray×ByteArray×Bool)=>(Exit.ret,⟨mkE 23 0 [(4,dS t.1),(5,dS t.2.1),(6,dB t.2.2)],[]⟩)):= .of fun K h=>by
 simp only[N2v,wpW] at h
 exact .of (by kernel_rfl) h
theorem Nvs (a b:ByteArray) {r:AV} {H':Heap} (h:(Ans.mk _ (N2d a b) (fun(t:ByteArray×ByteArray×Bool)=>(.tup [dS t.1,dS t.2.1,dB t.2.2],[])) [] none).run=some (r,H')):Awp Nfm LL (bodyOf Tryz.f42) Nhy ⟨mkE 23 0 [(0,dS a),(1,dS b)],[]⟩ (Ret (tlook tys) Tryz.f42.results.toList r H'):=
 ret_of' (N13d a b) (by unfold N2d;kernel_rfl) (by
 intro t
 exact ret_mk [dS t.1,dS t.2.1,dB t.2.2] (by kernel_rfl) (by kernel_rfl) (by kernel_rfl) (by kernel_rfl)) h
def Nhj:Fun:=fun avs H=>
 match avs,H with
 |[.dat .str a,.dat .str b],[]=>⟨_,N2d a b,fun(t:ByteArray×ByteArray×Bool)=>(.tup [dS t.1,dS t.2.1,dB t.2.2],[]),[],none⟩
 |_,_=>Ans.no
theorem Nr0:Sound Tryz.prog 42 Nhj:=by
 refine fn_sound' (C:=Nfm) (c:=bodyOf Tryz.f42) (cok_of tys_ok (allc Nj9 alln) (allc Tryz.call68 alln) (by kernel_rfl)) Tryz.func42 (by kernel_rfl) LL Nhy ?_
 intro avs H r H' h
 unfold Nhj at h
 split at h
 ·refine Awp.cast ?_ ?_ ?_ (Nvs _ _ h)<;>kernel_rfl
 ·simp[Ans.no,Ans.run] at h
def Niq:Ann:=(.seq (.leaf [0,1]) (.seq (.leaf [4,5,6]) (.leaf [4,5,6])))
noncomputable def Niu:Ctx:=⟨tlook tys,olook [(42,Nhj)],ioF,0,false,[]⟩
theorem Nu4 (a b:ByteArray):Link Niu LL (bodyOf Tryz.f21) Niq ⟨mkE 13 0 [(0,dS a),(1,dS b)],[]⟩ (N3z a b) (fun(t:ByteArray×ByteArray×Bool)=>(Exit.ret,⟨mkE 13 0 [(4,dS t.1),(5,dS t.2.1),(6,dB t.2.2)],[]⟩)):= .of fun K h=>by
 simp only[N3z,wpW] at h
 exact .of (by kernel_rfl) h
theorem N14b (a b:ByteArray) {r:AV} {H':Heap} (h:(Ans.mk _ (N1a a b) (fun(t:ByteArray×ByteArray×Bool)=>(.tup [dS t.1,dS t.2.1,dB t.2.2],[])) [] none).run=some (r,H')):Awp Niu LL (bodyOf Tryz.f21) Niq ⟨mkE 13 0 [(0,dS a),(1,dS b)],[]⟩ (Ret (tlook tys) Tryz.f21.results.toList r H'):=
 ret_of' (Nu4 a b) (by unfold N1a;kernel_rfl) (by
 intro t
 exact ret_mk [dS t.1,dS t.2.1,dB t.2.2] (by kernel_rfl) (by kernel_rfl) (by kernel_rfl) (by kernel_rfl)) h
def Nh4:Fun:=fun avs H=>
 match avs,H with
 |[.dat .str a,.dat .str b],[]=>⟨_,N1a a b,fun(t:ByteArray×ByteArray×Bool)=>(.tup [dS t.1,dS t.2.1,dB t.2.2],[]),[],none⟩
 |_,_=>Ans.no
theorem N13w:Sound Tryz.prog 21 Nh4:=by
 refine fn_sound' (C:=Niu) (c:=bodyOf Tryz.f21) (cok_of tys_ok (allc Nr0 alln) (allc Tryz.call42 alln) (by kernel_rfl)) Tryz.func21 (by kernel_rfl) LL Niq ?_
 intro avs H r H' h
 unfold Nh4 at h
 split at h
 ·refine Awp.cast ?_ ?_ ?_ (N14b _ _ h)<;>kernel_rfl
 ·simp[Ans.no,Ans.run] at h
def Ni2:Ann:=(.seq (.leaf [0,1]) (.seq (.leaf [4]) (.leaf [4])))
noncomputable def Nfb:Ctx:=⟨tlook tys,olook [(68,Ni5)],ioF,0,false,[]⟩
theorem Nr3 (a b:ByteArray):Link Nfb LL (bodyOf Tryz.f107) Ni2 ⟨mkE 8 0 [(0,dS a),(1,dS b)],[]⟩ (Nb6 a b) (fun(t:Int)=>(Exit.ret,⟨mkE 8 0 [(4,dI t)],[]⟩)):= .of fun K h=>by
 simp only[Nb6,wpW] at h
 exact .of (by kernel_rfl) h
theorem Nzo (a b:ByteArray) {r:AV} {H':Heap} (h:(Ans.mk _ (N62 a b) (fun(t:Int)=>(dI t,[])) [] none).run=some (r,H')):Awp Nfb LL (bodyOf Tryz.f107) Ni2 ⟨mkE 8 0 [(0,dS a),(1,dS b)],[]⟩ (Ret (tlook tys) Tryz.f107.results.toList r H'):=
 ret_of' (Nr3 a b) (by unfold N62;kernel_rfl) (by
 intro t
 exact ret_mk [dI t] (by kernel_rfl) (by kernel_rfl) (by kernel_rfl) (by kernel_rfl)) h
def Nfk:Fun:=fun avs H=>
 match avs,H with
 |[.dat .str a,.dat .str b],[]=>⟨_,N62 a b,fun(t:Int)=>(dI t,[]),[],none⟩
 |_,_=>Ans.no
theorem Nuk:Sound Tryz.prog 107 Nfk:=by
 refine fn_sound' (C:=Nfb) (c:=bodyOf Tryz.f107) (cok_of tys_ok (allc Nj9 alln) (allc Tryz.call68 alln) (by kernel_rfl)) Tryz.func107 (by kernel_rfl) LL Ni2 ?_
 intro avs H r H' h
 unfold Nfk at h
 split at h
 ·refine Awp.cast ?_ ?_ ?_ (Nzo _ _ h)<;>kernel_rfl
 ·simp[Ans.no,Ans.run] at h
def N4:Ann:=(.seq (.leaf [0,1,2,3]) (.seq (.seq (.leaf [0,1,2,3,13]) (.cond (.seq (.leaf [8]) (.leafF [⟨0,8,true,none,none⟩] [8])) (.leaf [0,1,2,3]))) (.seq (.seq (.leaf [0,1,2,3,15]) (.cond (.seq (.leaf [8]) (.leaf [8])) (.leaf [0,1,2,3]))) (.seq (.seq (.leaf [0,1,2,3,20]) (.cond (.leaf [0,1,2,3]) (.leaf [0,1,2,3]))) (.seq (.leaf [0,1,2,3]) (.seq (.leaf [0,1,2,3,9]) (.seq (.leaf [0,1,2,3,9]) (.seq (.leaf [0,1,2,3,9,10]) (.seq (.block (.loop (.seq (.seq (.leaf [0,1,2,3,9,10,36]) (.cond (.leaf [0,1,2,3,9,10]) (.leaf [0,9,10]))) (.block (.seq (.leaf [0,1,2,3,9,10,11]) (.seq (.seq (.leaf [0,1,2,3,9,10,11,41]) (.cond (.leaf [0,9,10]) (.leaf [0,1,2,3,9,10,11]))) (.seq (.leaf [0,1,2,3,9,10,11]) (.seq (.leaf [0,1,2,3,9,10]) (.leaf [0,1,2,3,9,10]))))))))) (.seq (.leaf [9,10]) (.seq (.leaf [8]) (.leaf [8]))))))))))))
noncomputable def N6p:Ctx:=⟨tlook tys,olook [(107,Nfk)],ioF,0,false,[]⟩
theorem Nxm (a b:ByteArray) (c d:Int):Link N6p LL (Code.seq (cq [0] (bodyOf Tryz.f69)) (Code.seq (cq [0,1] (bodyOf Tryz.f69)) (Code.seq (cq [0,1,1] (bodyOf Tryz.f69)) (Code.seq (cq [0,1,1,1] (bodyOf Tryz.f69)) (Code.seq (cq [0,1,1,1,1] (bodyOf Tryz.f69)) (Code.seq (cq [0,1,1,1,1,1] (bodyOf Tryz.f69)) (Code.seq (cq [0,1,1,1,1,1,1] (bodyOf Tryz.f69)) (cq [0,1,1,1,1,1,1,1] (bodyOf Tryz.f69))))))))) (Ann.seq (aq [0] N4) (Ann.seq (aq [0,1] N4) (Ann.seq (aq [0,1,1] N4) (Ann.seq (aq [0,1,1,1] N4) (Ann.seq (aq [0,1,1,1,1] N4) (Ann.seq (aq [0,1,1,1,1,1] N4) (Ann.seq (aq [0,1,1,1,1,1,1] N4) (aq [0,1,1,1,1,1,1,1] N4)))))))) ⟨mkE 66 0 [(0,dS a),(1,dS b),(2,dI c),(3,dI d)],[]⟩ (Na4 a b d) (Sum.elim (fun(t:Int×(List ByteArray))=>(Exit.normal,⟨mkE 66 0 [(0,dS a),(1,dS b),(2,dI c),(3,dI t.1),(9,.slc 0),(10,dI 0)],[some (.seq .str t.2)]⟩)) (fun(t:Nat×(List ByteArray))=>(Exit.ret,⟨mkE 66 0 [(8,.win 0 0 t.1)],[some (.seq .str t.2)]⟩))):= .of fun K h=>by
 simp only[Na4,wpW,wpO_none] at h
 exact .of (by kernel_rfl) h
theorem N13e (a b:ByteArray) (c d g:Int) (i:List ByteArray):Link N6p LL (cq [0,0,0,1,1,1,1,1,1,1,1] (bodyOf Tryz.f69)) (aq [0,0,0,1,1,1,1,1,1,1,1] N4) ⟨mkE 66 0 [(0,dS a),(1,dS b),(2,dI c),(3,dI d),(9,.slc 0),(10,dI g)],[some (.seq .str i)]⟩ (N3l a b c d g i) (Sum.elim (fun(t:ByteArray×Int×(List ByteArray))=>(Exit.normal,⟨mkE 66 0 [(0,dS t.1),(1,dS b),(2,dI c),(3,dI d),(9,.slc 0),(10,dI t.2.1)],[some (.seq .str t.2.2)]⟩)) (fun(t:ByteArray×Int×(List ByteArray))=>((Exit.exit 0),⟨mkE 66 0 [(0,dS t.1),(9,.slc 0),(10,dI t.2.1)],[some (.seq .str t.2.2)]⟩))):= .of fun K h=>by
 simp only[N3l,wpW] at h
 exact .of (by kernel_rfl) h
theorem N16x (a:ByteArray) (b:Int) (c:List ByteArray):Link N6p LL (cq [1,1,1,1,1,1,1,1,1] (bodyOf Tryz.f69)) (aq [1,1,1,1,1,1,1,1,1] N4) ⟨mkE 66 0 [(0,dS a),(9,.slc 0),(10,dI b)],[some (.seq .str c)]⟩ (N6v a b c) (fun(t:Nat×(List ByteArray))=>(Exit.ret,⟨mkE 66 0 [(8,.win 0 0 t.1)],[some (.seq .str t.2)]⟩)):= .of fun K h=>by
 simp only[N6v,wpW] at h
 exact .of (by kernel_rfl) h
theorem N10n (b d:ByteArray) (g i:Int) {r:AV} {H':Heap} (h:(Ans.mk _ (N5g b d g i) (fun(t:Nat×(List ByteArray))=>(.win 0 0 t.1,[some (.seq .str t.2)])) [] none).run=some (r,H')):Awp N6p LL (bodyOf Tryz.f69) N4 ⟨mkE 66 0 [(0,dS b),(1,dS d),(2,dI g),(3,dI i)],[]⟩ (Ret (tlook tys) Tryz.f69.results.toList r H'):=
 ret_of' (Link.cast (by kernel_rfl) (by kernel_rfl) (link_group (c:=(cq [0,1,1,1,1,1,1,1] (bodyOf Tryz.f69))) (a:=(aq [0,1,1,1,1,1,1,1] N4)) [(cq [0] (bodyOf Tryz.f69)),(cq [0,1] (bodyOf Tryz.f69)),(cq [0,1,1] (bodyOf Tryz.f69)),(cq [0,1,1,1] (bodyOf Tryz.f69)),(cq [0,1,1,1,1] (bodyOf Tryz.f69)),(cq [0,1,1,1,1,1] (bodyOf Tryz.f69)),(cq [0,1,1,1,1,1,1] (bodyOf Tryz.f69))] [(aq [0] N4),(aq [0,1] N4),(aq [0,1,1] N4),(aq [0,1,1,1] N4),(aq [0,1,1,1,1] N4),(aq [0,1,1,1,1,1] N4),(aq [0,1,1,1,1,1,1] N4)] rfl (link_seq2 (Nxm b d g i) (fun(t:Int×(List ByteArray))=>(link_seq (link_block (fin2:=(fun(t25:ByteArray×Int×(List ByteArray))=>(Exit.normal,⟨mkE 66 0 [(0,dS t25.1),(9,.slc 0),(10,dI t25.2.1)],[some (.seq .str t25.2.2)]⟩))) (id:=0) (link_loop (mk:=fun(s:ByteArray×Int×(List ByteArray))=>⟨mkE 66 0 [(0,dS s.1),(1,dS d),(2,dI g),(3,dI t.1),(9,.slc 0),(10,dI s.2.1)],[some (.seq .str s.2.2)]⟩) (fin:=(fun(t25:ByteArray×Int×(List ByteArray))=>((Exit.exit 0),⟨mkE 66 0 [(0,dS t25.1),(9,.slc 0),(10,dI t25.2.1)],[some (.seq .str t25.2.2)]⟩))) (by
 rintro t25 f K h
 ·exact h) (fun s=>link_map (N13e s.1 d g t.1 s.2.1 s.2.2) (Sum.elim (fun(t25:ByteArray×Int×(List ByteArray))=>Sum.inl (t25.1,t25.2.1,t25.2.2)) (fun(t25:ByteArray×Int×(List ByteArray))=>Sum.inr t25)) (by
 rintro(t25|t25)
 ·kernel_rfl
 ·kernel_rfl)) (b,0,t.2)) (fun(t25:ByteArray×Int×(List ByteArray))=>(t25.1,t25.2.1,t25.2.2)) (by
 rintro t25 K h
 ·exact Eq.mp (by kernel_rfl) h)) (fun(t5:ByteArray×Int×(List ByteArray))=>(N16x t5.1 t5.2.1 t5.2.2)))) (fun(t:Nat×(List ByteArray))=>t) (by
 rintro t
 ·kernel_rfl) (by
 rintro t f K h
 ·exact h)))) (by unfold N5g;kernel_rfl) (by
 intro t
 exact ret_mk [.win 0 0 t.1] (by kernel_rfl) (by kernel_rfl) (by kernel_rfl) (by kernel_rfl)) h
def Ng5:Fun:=fun avs H=>
 match avs,H with
 |[.dat .str a,.dat .str b,.dat (.int .i64) c,.dat (.int .i64) d],[]=>⟨_,N5g a b c d,fun(t:Nat×(List ByteArray))=>(.win 0 0 t.1,[some (.seq .str t.2)]),[],none⟩
 |_,_=>Ans.no
theorem N11k:Sound Tryz.prog 69 Ng5:=by
 refine fn_sound' (C:=N6p) (c:=bodyOf Tryz.f69) (cok_of tys_ok (allc Nuk alln) (allc Tryz.call107 alln) (by kernel_rfl)) Tryz.func69 (by kernel_rfl) LL N4 ?_
 intro avs H r H' h
 unfold Ng5 at h
 split at h
 ·refine Awp.cast ?_ ?_ ?_ (N10n _ _ _ _ h)<;>kernel_rfl
 ·simp[Ans.no,Ans.run] at h
def Nis:Ann:=(.seq (.leaf [0,1,2]) (.seq (.leaf [6]) (.leaf [6])))
noncomputable def Nib:Ctx:=⟨tlook tys,olook [(69,Ng5)],ioF,0,false,[]⟩
theorem Nwp (a b:ByteArray) (c:Int):Link Nib LL (bodyOf Tryz.f43) Nis ⟨mkE 11 0 [(0,dS a),(1,dS b),(2,dI c)],[]⟩ (N71 a b c) (fun(t:Nat×(List ByteArray))=>(Exit.ret,⟨mkE 11 0 [(6,.win 0 0 t.1)],[some (.seq .str t.2)]⟩)):= .of fun K h=>by
 simp only[N71,wpW] at h
 exact .of (by kernel_rfl) h
theorem N188 (a b:ByteArray) (c:Int) {r:AV} {H':Heap} (h:(Ans.mk _ (N3s a b c) (fun(t:Nat×(List ByteArray))=>(.win 0 0 t.1,[some (.seq .str t.2)])) [] none).run=some (r,H')):Awp Nib LL (bodyOf Tryz.f43) Nis ⟨mkE 11 0 [(0,dS a),(1,dS b),(2,dI c)],[]⟩ (Ret (tlook tys) Tryz.f43.results.toList r H'):=
 ret_of' (Nwp a b c) (by unfold N3s;kernel_rfl) (by
 intro t
 exact ret_mk [.win 0 0 t.1] (by kernel_rfl) (by kernel_rfl) (by kernel_rfl) (by kernel_rfl)) h
def Nh3:Fun:=fun avs H=>
 match avs,H with
 |[.dat .str a,.dat .str b,.dat (.int .i64) c],[]=>⟨_,N3s a b c,fun(t:Nat×(List ByteArray))=>(.win 0 0 t.1,[some (.seq .str t.2)]),[],none⟩
 |_,_=>Ans.no
theorem N18h:Sound Tryz.prog 43 Nh3:=by
 refine fn_sound' (C:=Nib) (c:=bodyOf Tryz.f43) (cok_of tys_ok (allc N11k alln) (allc Tryz.call69 alln) (by kernel_rfl)) Tryz.func43 (by kernel_rfl) LL Nis ?_
 intro avs H r H' h
 unfold Nh3 at h
 split at h
 ·refine Awp.cast ?_ ?_ ?_ (N188 _ _ _ h)<;>kernel_rfl
 ·simp[Ans.no,Ans.run] at h
def N5m:Ann:=(.seq (.leaf [0]) (.seq (.seq (.leaf [0,5,6]) (.block (.loop (.seq (.leaf [0,5,6,7]) (.seq (.cond (.leaf [0,5,6]) (.leaf [])) (.seq (.block (.seq (.leaf [0,3,4,5,6]) (.seq (.leaf [0,3,5,6,12]) (.cond (.seq (.leaf [2]) (.leaf [2])) (.leaf [0,5,6]))))) (.leaf [0,5,6]))))))) (.seq (.leaf [2]) (.leaf [2]))))
noncomputable def N48:Ctx:=⟨tlook tys,olook [],ioF,0,false,[]⟩
theorem Nvk (a:ByteArray):Link N48 LL (cq [0] (bodyOf Tryz.f44)) (aq [0] N5m) ⟨mkE 15 0 [(0,dS a)],[]⟩ (Ncg) (fun(t:Unit)=>(Exit.normal,⟨mkE 15 0 [(0,dS a)],[]⟩)):= .of fun K h=>by
 simp only[Ncg,wpW] at h
 exact .of (by kernel_rfl) h
theorem Nz7 (a:ByteArray):Link N48 LL (cq [0,0,1] (bodyOf Tryz.f44)) (aq [0,0,1] N5m) ⟨mkE 15 0 [(0,dS a)],[]⟩ (Nan) (fun(t:ByteArray×ByteArray×ByteArray×ByteArray×ByteArray×ByteArray)=>(Exit.normal,⟨mkE 15 0 [(0,dS a),(5,.agg [dS t.1,dS t.2.1,dS t.2.2.1,dS t.2.2.2.1,dS t.2.2.2.2.1,dS t.2.2.2.2.2]),(6,dI 0)],[]⟩)):= .of fun K h=>by
 simp only[Nan,wpW] at h
 exact .of (by kernel_rfl) h
theorem N163 (a b c d g i j:ByteArray) (k:Int):Link N48 LL (cq [0,0,1,0,1] (bodyOf Tryz.f44)) (aq [0,0,1,0,1] N5m) ⟨mkE 15 0 [(0,dS a),(5,.agg [dS b,dS c,dS d,dS g,dS i,dS j]),(6,dI k)],[]⟩ (N6n a b c d g i j k) (Sum.elim (fun(t:Int)=>(Exit.normal,⟨mkE 15 0 [(0,dS a),(5,.agg [dS b,dS c,dS d,dS g,dS i,dS j]),(6,dI t)],[]⟩)) (Sum.elim (fun(t:Int)=>(Exit.ret,⟨mkE 15 0 [(2,dI t)],[]⟩)) (fun(t:Unit)=>((Exit.exit 0),⟨mkE 15 0 [],[]⟩)))):= .of fun K h=>by
 simp only[N6n,wpW] at h
 exact .of (by kernel_rfl) h
theorem N11f:Link N48 LL (cq [1,1] (bodyOf Tryz.f44)) (aq [1,1] N5m) ⟨mkE 15 0 [],[]⟩ (Naz) (fun(t:Int)=>(Exit.ret,⟨mkE 15 0 [(2,dI t)],[]⟩)):= .of fun K h=>by
 simp only[Naz,wpW] at h
 exact .of (by kernel_rfl) h
theorem Nrh (a:ByteArray) {r:AV} {H':Heap} (h:(Ans.mk _ (Nh a) (fun(t:Int)=>(dI t,[])) [] none).run=some (r,H')):Awp N48 LL (bodyOf Tryz.f44) N5m ⟨mkE 15 0 [(0,dS a)],[]⟩ (Ret (tlook tys) Tryz.f44.results.toList r H'):=
 ret_of' (Link.cast (by kernel_rfl) (by kernel_rfl) (link_seq (Nvk a) (fun(t:Unit)=>(link_seq2 (link_seq (Nz7 a) (fun(t:ByteArray×ByteArray×ByteArray×ByteArray×ByteArray×ByteArray)=>(link_block (fin2:=(Sum.elim (fun(t26:Unit)=>(Exit.normal,⟨mkE 15 0 [],[]⟩)) (fun(t26:Int)=>(Exit.ret,⟨mkE 15 0 [(2,dI t26)],[]⟩)))) (id:=0) (link_loop (mk:=fun(s:Int)=>⟨mkE 15 0 [(0,dS a),(5,.agg [dS t.1,dS t.2.1,dS t.2.2.1,dS t.2.2.2.1,dS t.2.2.2.2.1,dS t.2.2.2.2.2]),(6,dI s)],[]⟩) (fin:=(Sum.elim (fun(t26:Int)=>(Exit.ret,⟨mkE 15 0 [(2,dI t26)],[]⟩)) (fun(t26:Unit)=>((Exit.exit 0),⟨mkE 15 0 [],[]⟩)))) (by
 rintro(t26|t26) f K h
 ·exact h
 ·exact h) (fun s=>link_map (N163 a t.1 t.2.1 t.2.2.1 t.2.2.2.1 t.2.2.2.2.1 t.2.2.2.2.2 s) (Sum.elim (fun(t26:Int)=>Sum.inl t26) (Sum.elim (fun(t26:Int)=>Sum.inr (Sum.inl t26)) (fun(t26:Unit)=>Sum.inr (Sum.inr t26)))) (by
 rintro(t26|t26|t26)
 ·kernel_rfl
 ·kernel_rfl
 ·kernel_rfl)) 0) (Sum.elim (fun(t26:Int)=>(Sum.inr t26)) (fun(t26:Unit)=>(Sum.inl ()))) (by
 rintro(t26|t26) K h
 ·exact Eq.mp (by kernel_rfl) h
 ·exact Eq.mp (by kernel_rfl) h)))) (fun(t:Unit)=>(N11f)) (fun(t:Int)=>t) (by
 rintro t
 ·kernel_rfl) (by
 rintro t f K h
 ·exact h))))) (by unfold Nh;kernel_rfl) (by
 intro t
 exact ret_mk [dI t] (by kernel_rfl) (by kernel_rfl) (by kernel_rfl) (by kernel_rfl)) h
def Ngk:Fun:=fun avs H=>
 match avs,H with
 |[.dat .str a],[]=>⟨_,Nh a,fun(t:Int)=>(dI t,[]),[],none⟩
 |_,_=>Ans.no
theorem Nq5:Sound Tryz.prog 44 Ngk:=by
 refine fn_sound' (C:=N48) (c:=bodyOf Tryz.f44) (cok_of tys_ok (alln) (alln) (by kernel_rfl)) Tryz.func44 (by kernel_rfl) LL N5m ?_
 intro avs H r H' h
 unfold Ngk at h
 split at h
 ·refine Awp.cast ?_ ?_ ?_ (Nrh _ h)<;>kernel_rfl
 ·simp[Ans.no,Ans.run] at h
def ren_atoiS:Go.Shelf.Ren:=⟨fun|129=>179|171=>34|172=>45|205=>148|243=>59|244=>70|245=>71|246=>96|247=>108|279=>109|280=>110|281=>111|282=>112|283=>137|284=>138|285=>139|286=>140|287=>146|316=>147|317=>178|318=>180|319=>181|320=>175|321=>183|322=>184|337=>221|338=>222|n=>n,fun|0=>0|2=>2|3=>3|4=>4|5=>5|9=>9|20=>20|21=>21|37=>22|46=>115|51=>139|53=>133|75=>69|76=>70|80=>72|85=>118|127=>94|143=>199|145=>201|167=>117|168=>120|171=>132|173=>136|175=>144|210=>147|212=>195|213=>196|232=>237|233=>238|n=>n,fun|15=>2|16=>3|17=>4|18=>7|19=>8|n=>n⟩
theorem lay_atoiS:LaysC.n172 Tryz.prog ren_atoiS:={
 mixed:=by kernel_rfl
 f129:=Tryz.func179.trans (congrArg some (by kernel_rfl))
 f171:=Tryz.func34.trans (congrArg some (by kernel_rfl))
 f172:=Tryz.func45.trans (congrArg some (by kernel_rfl))
 f205:=Tryz.func148.trans (congrArg some (by kernel_rfl))
 f243:=Tryz.func59.trans (congrArg some (by kernel_rfl))
 f244:=Tryz.func70.trans (congrArg some (by kernel_rfl))
 f245:=Tryz.func71.trans (congrArg some (by kernel_rfl))
 f246:=Tryz.func96.trans (congrArg some (by kernel_rfl))
 f247:=Tryz.func108.trans (congrArg some (by kernel_rfl))
 f279:=Tryz.func109.trans (congrArg some (by kernel_rfl))
 f280:=Tryz.func110.trans (congrArg some (by kernel_rfl))
 f281:=Tryz.func111.trans (congrArg some (by kernel_rfl))
 f282:=Tryz.func112.trans (congrArg some (by kernel_rfl))
 f283:=Tryz.func137.trans (congrArg some (by kernel_rfl))
 f284:=Tryz.func138.trans (congrArg some (by kernel_rfl))
 f285:=Tryz.func139.trans (congrArg some (by kernel_rfl))
 f286:=Tryz.func140.trans (congrArg some (by kernel_rfl))
 f287:=Tryz.func146.trans (congrArg some (by kernel_rfl))
 f316:=Tryz.func147.trans (congrArg some (by kernel_rfl))
 f317:=Tryz.func178.trans (congrArg some (by kernel_rfl))
 f318:=Tryz.func180.trans (congrArg some (by kernel_rfl))
 f319:=Tryz.func181.trans (congrArg some (by kernel_rfl))
 f320:=Tryz.func175.trans (congrArg some (by kernel_rfl))
 f321:=Tryz.func183.trans (congrArg some (by kernel_rfl))
 f322:=Tryz.func184.trans (congrArg some (by kernel_rfl))
 f337:=Tryz.func221.trans (congrArg some (by kernel_rfl))
 f338:=Tryz.func222.trans (congrArg some (by kernel_rfl))
 t0:=Tryz.underlying0
 a0:=Tryz.isAgg0
 z0:=Tryz.sizeOf0
 v0:=Tryz.zeroValue0
 t2:=Tryz.underlying2
 a2:=Tryz.isAgg2
 z2:=Tryz.sizeOf2
 v2:=Tryz.zeroValue2
 t3:=Tryz.underlying3
 a3:=Tryz.isAgg3
 z3:=Tryz.sizeOf3
 v3:=Tryz.zeroValue3
 t4:=Tryz.underlying4
 a4:=Tryz.isAgg4
 z4:=Tryz.sizeOf4
 v4:=Tryz.zeroValue4
 t5:=Tryz.underlying5
 a5:=Tryz.isAgg5
 z5:=Tryz.sizeOf5
 v5:=Tryz.zeroValue5
 t9:=Tryz.underlying9
 a9:=Tryz.isAgg9
 z9:=Tryz.sizeOf9
 v9:=Tryz.zeroValue9
 t20:=Tryz.underlying20
 a20:=Tryz.isAgg20
 z20:=Tryz.sizeOf20
 v20:=Tryz.zeroValue20
 t21:=Tryz.underlying21
 a21:=Tryz.isAgg21
 z21:=Tryz.sizeOf21
 v21:=Tryz.zeroValue21
 t37:=Tryz.underlying22
 a37:=Tryz.isAgg22
 z37:=Tryz.sizeOf22
 v37:=Tryz.zeroValue22
 t46:=Tryz.underlying115
 a46:=Tryz.isAgg115
 z46:=Tryz.sizeOf115
 v46:=Tryz.zeroValue115
 t51:=Tryz.underlying139
 a51:=Tryz.isAgg139
 z51:=Tryz.sizeOf139
 v51:=Tryz.zeroValue139
 t53:=Tryz.underlying133
 a53:=Tryz.isAgg133
 z53:=Tryz.sizeOf133
 v53:=Tryz.zeroValue133
 t75:=Tryz.underlying69
 a75:=Tryz.isAgg69
 z75:=Tryz.sizeOf69
 v75:=Tryz.zeroValue69
 t76:=Tryz.underlying70
 a76:=Tryz.isAgg70
 z76:=Tryz.sizeOf70
 v76:=Tryz.zeroValue70
 t85:=Tryz.underlying118
 a85:=Tryz.isAgg118
 z85:=Tryz.sizeOf118
 v85:=Tryz.zeroValue118
 t127:=Tryz.underlying94
 a127:=Tryz.isAgg94
 z127:=Tryz.sizeOf94
 a:=Tryz.zeroValue94
 t143:=Tryz.underlying199
 a143:=Tryz.isAgg199
 z143:=Tryz.sizeOf199
 b:=Tryz.zeroValue199
 t145:=Tryz.underlying201
 a145:=Tryz.isAgg201
 z145:=Tryz.sizeOf201
 c:=Tryz.zeroValue201
 t167:=Tryz.underlying117
 a167:=Tryz.isAgg117
 z167:=Tryz.sizeOf117
 d:=Tryz.zeroValue117
 t168:=Tryz.underlying120
 a168:=Tryz.isAgg120
 z168:=Tryz.sizeOf120
 g:=Tryz.zeroValue120
 t171:=Tryz.underlying132
 a171:=Tryz.isAgg132
 z171:=Tryz.sizeOf132
 i:=Tryz.zeroValue132
 t173:=Tryz.underlying136
 a173:=Tryz.isAgg136
 z173:=Tryz.sizeOf136
 j:=Tryz.zeroValue136
 t175:=Tryz.underlying144
 a175:=Tryz.isAgg144
 z175:=Tryz.sizeOf144
 k:=Tryz.zeroValue144
 t210:=Tryz.underlying147
 a210:=Tryz.isAgg147
 z210:=Tryz.sizeOf147
 l:=Tryz.zeroValue147
 t212:=Tryz.underlying195
 a212:=Tryz.isAgg195
 z212:=Tryz.sizeOf195
 m:=Tryz.zeroValue195
 t213:=Tryz.underlying196
 a213:=Tryz.isAgg196
 z213:=Tryz.sizeOf196
 t232:=Tryz.underlying237
 a232:=Tryz.isAgg237
 z232:=Tryz.sizeOf237
 o:=Tryz.zeroValue237
 t233:=Tryz.underlying238
 a233:=Tryz.isAgg238
 z233:=Tryz.sizeOf238
 p:=Tryz.zeroValue238
 g15:=by kernel_rfl
 g16:=by kernel_rfl
 g17:=by kernel_rfl
 g18:=by kernel_rfl
 g19:=by kernel_rfl
 t80:=Tryz.underlying72
 a80:=Tryz.isAgg72
 z80:=Tryz.sizeOf72
 v80:=Tryz.zeroValue72
 i0:=by kernel_rfl
 i2:=by kernel_rfl
 i3:=by kernel_rfl
 i4:=by kernel_rfl
 i5:=by kernel_rfl
 i9:=by kernel_rfl
 i20:=by kernel_rfl
 i21:=by kernel_rfl
 i37:=by kernel_rfl
 i46:=by kernel_rfl
 i51:=by kernel_rfl
 i53:=by kernel_rfl
 i75:=by kernel_rfl
 i76:=by kernel_rfl
 i80:=by kernel_rfl
 i85:=by kernel_rfl
 i127:=by kernel_rfl
 i143:=by kernel_rfl
 i145:=by kernel_rfl
 i167:=by kernel_rfl
 i168:=by kernel_rfl
 i171:=by kernel_rfl
 i173:=by kernel_rfl
 i175:=by kernel_rfl
 i210:=by kernel_rfl
 i212:=by kernel_rfl
 i232:=by kernel_rfl
 i233:=by kernel_rfl
 m15:=by kernel_rfl
 m16:=by kernel_rfl
 m17:=by kernel_rfl
 m18:=by kernel_rfl
 m19:=by kernel_rfl
 c0:=by kernel_rfl
 c2:=by kernel_rfl
 c3:=by kernel_rfl
 c4:=by kernel_rfl
 c5:=by kernel_rfl
 c9:=by kernel_rfl
 c20:=by kernel_rfl
 c21:=by kernel_rfl
 c37:=by kernel_rfl
 c46:=by kernel_rfl
 c51:=by kernel_rfl
 c53:=by kernel_rfl
 c75:=by kernel_rfl
 c76:=by kernel_rfl
 c80:=by kernel_rfl
 c85:=by kernel_rfl
 c127:=by kernel_rfl
 c143:=by kernel_rfl
 c145:=by kernel_rfl
 c167:=by kernel_rfl
 c168:=by kernel_rfl
 c171:=by kernel_rfl
 c173:=by kernel_rfl
 c175:=by kernel_rfl
 c210:=by kernel_rfl
 c212:=by kernel_rfl
 c213:=by kernel_rfl
 c232:=by kernel_rfl
 c233:=by kernel_rfl}
def Nk9:Fun:=F_atoiS
theorem Nqi:Sound Tryz.prog 45 Nk9:=atoiS_sound lay_atoiS rfl rfl
def Nhw:Ann:=(.seq (.leaf [0]) (.seq (.seq (.leaf [3]) (.block (.seq (.leaf [3,4]) (.cond (.seq (.leaf [2]) (.leaf [2])) (.seq (.leaf [6]) (.cond (.seq (.leaf [2]) (.leaf [2])) (.leaf []))))))) (.seq (.leaf [2]) (.leaf [2]))))
noncomputable def Ndi:Ctx:=⟨tlook tys,olook [],ioF,0,false,[]⟩
theorem N12l (a:Int):Link Ndi LL (bodyOf Tryz.f33) Nhw ⟨mkE 8 0 [(0,dI a)],[]⟩ (N7h a) (fun(t:Int)=>(Exit.ret,⟨mkE 8 0 [(2,dI t)],[]⟩)):= .of fun K h=>by
 simp only[N7h,wpW] at h
 exact .of (by kernel_rfl) h
theorem N125 (a:Int) {r:AV} {H':Heap} (h:(Ans.mk _ (Nl a) (fun(t:Int)=>(dI t,[])) [] none).run=some (r,H')):Awp Ndi LL (bodyOf Tryz.f33) Nhw ⟨mkE 8 0 [(0,dI a)],[]⟩ (Ret (tlook tys) Tryz.f33.results.toList r H'):=
 ret_of' (N12l a) (by unfold Nl;kernel_rfl) (by
 intro t
 exact ret_mk [dI t] (by kernel_rfl) (by kernel_rfl) (by kernel_rfl) (by kernel_rfl)) h
def N83:Fun:=fun avs H=>
 match avs,H with
 |[.dat (.int .i64) a],[]=>⟨_,Nl a,fun(t:Int)=>(dI t,[]),[],none⟩
 |_,_=>Ans.no
theorem Nol:Sound Tryz.prog 33 N83:=by
 refine fn_sound' (C:=Ndi) (c:=bodyOf Tryz.f33) (cok_of tys_ok (alln) (alln) (by kernel_rfl)) Tryz.func33 (by kernel_rfl) LL Nhw ?_
 intro avs H r H' h
 unfold N83 at h
 split at h
 ·refine Awp.cast ?_ ?_ ?_ (N125 _ h)<;>kernel_rfl
 ·simp[Ans.no,Ans.run] at h
def Ndv:Ann:=(.seq (.leaf [1]) (.seq (.leaf [1,3]) (.seq (.leaf [2]) (.leaf [2]))))
noncomputable def Niv:Ctx:=⟨tlook tys,olook [(33,N83)],ioF,0,false,[]⟩
theorem N157 (a b c:Int):Link Niv LL (bodyOf Tryz.f56) Ndv ⟨mkE 23 0 [(0,.agg [dI a,dI b,dI c])],[]⟩ (Nc9 a b c) (fun(t:Bool)=>(Exit.ret,⟨mkE 23 0 [(2,dB t)],[]⟩)):= .of fun K h=>by
 simp only[Nc9,wpW] at h
 exact .of (by kernel_rfl) h
theorem Nvp (a b c:Int) {r:AV} {H':Heap} (h:(Ans.mk _ (N3b a b c) (fun(t:Bool)=>(dB t,[])) [] none).run=some (r,H')):Awp Niv LL (bodyOf Tryz.f56) Ndv ⟨mkE 23 0 [(0,.agg [dI a,dI b,dI c])],[]⟩ (Ret (tlook tys) Tryz.f56.results.toList r H'):=
 ret_of' (N157 a b c) (by unfold N3b;kernel_rfl) (by
 intro t
 exact ret_mk [dB t] (by kernel_rfl) (by kernel_rfl) (by kernel_rfl) (by kernel_rfl)) h
def Nam:Fun:=fun avs H=>
 match avs,H with
 |[.agg [.dat (.int .i64) a,.dat (.int .i64) b,.dat (.int .i64) c]],[]=>⟨_,N3b a b c,fun(t:Bool)=>(dB t,[]),[],none⟩
 |_,_=>Ans.no
theorem Nlp:Sound Tryz.prog 56 Nam:=by
 refine fn_sound' (C:=Niv) (c:=bodyOf Tryz.f56) (cok_of tys_ok (allc Nol alln) (allc Tryz.call33 alln) (by kernel_rfl)) Tryz.func56 (by kernel_rfl) LL Ndv ?_
 intro avs H r H' h
 unfold Nam at h
 split at h
 ·refine Awp.cast ?_ ?_ ?_ (Nvp _ _ _ h)<;>kernel_rfl
 ·simp[Ans.no,Ans.run] at h
def Ndg:Ann:=(.seq (.leaf [1]) (.seq (.leaf [2]) (.leaf [2])))
noncomputable def Nd2:Ctx:=⟨tlook tys,olook [(56,Nam)],ioF,0,false,[]⟩
theorem Nzh (a b c:Int):Link Nd2 LL (bodyOf Tryz.f32) Ndg ⟨mkE 35 0 [(0,.agg [dI a,dI b,dI c])],[]⟩ (Nac a b c) (fun(t:Bool)=>(Exit.ret,⟨mkE 35 0 [(2,dB t)],[]⟩)):= .of fun K h=>by
 simp only[Nac,wpW] at h
 exact .of (by kernel_rfl) h
theorem N15s (a b c:Int) {r:AV} {H':Heap} (h:(Ans.mk _ (N4t a b c) (fun(t:Bool)=>(dB t,[])) [] none).run=some (r,H')):Awp Nd2 LL (bodyOf Tryz.f32) Ndg ⟨mkE 35 0 [(0,.agg [dI a,dI b,dI c])],[]⟩ (Ret (tlook tys) Tryz.f32.results.toList r H'):=
 ret_of' (Nzh a b c) (by unfold N4t;kernel_rfl) (by
 intro t
 exact ret_mk [dB t] (by kernel_rfl) (by kernel_rfl) (by kernel_rfl) (by kernel_rfl)) h
def Nf4:Fun:=fun avs H=>
 match avs,H with
 |[.agg [.dat (.int .i64) a,.dat (.int .i64) b,.dat (.int .i64) c]],[]=>⟨_,N4t a b c,fun(t:Bool)=>(dB t,[]),[],none⟩
 |_,_=>Ans.no
theorem Nxv:Sound Tryz.prog 32 Nf4:=by
 refine fn_sound' (C:=Nd2) (c:=bodyOf Tryz.f32) (cok_of tys_ok (allc Nlp alln) (allc Tryz.call56 alln) (by kernel_rfl)) Tryz.func32 (by kernel_rfl) LL Ndg ?_
 intro avs H r H' h
 unfold Nf4 at h
 split at h
 ·refine Awp.cast ?_ ?_ ?_ (N15s _ _ _ h)<;>kernel_rfl
 ·simp[Ans.no,Ans.run] at h
def ren_itoaS:Go.Shelf.Ren:=⟨fun|129=>179|171=>34|243=>59|246=>96|283=>137|284=>138|285=>139|286=>140|317=>178|318=>180|319=>181|320=>175|337=>221|338=>222|n=>n,fun|0=>0|2=>2|3=>3|4=>4|5=>5|9=>9|20=>20|37=>22|46=>115|51=>139|53=>133|171=>132|173=>136|212=>195|213=>196|232=>237|233=>238|n=>n,fun|17=>4|18=>7|19=>8|n=>n⟩
theorem lay_itoaS:Lays.n171 Tryz.prog ren_itoaS:={
 mixed:=by kernel_rfl
 f129:=Tryz.func179.trans (congrArg some (by kernel_rfl))
 f171:=Tryz.func34.trans (congrArg some (by kernel_rfl))
 f243:=Tryz.func59.trans (congrArg some (by kernel_rfl))
 f246:=Tryz.func96.trans (congrArg some (by kernel_rfl))
 f283:=Tryz.func137.trans (congrArg some (by kernel_rfl))
 f284:=Tryz.func138.trans (congrArg some (by kernel_rfl))
 f285:=Tryz.func139.trans (congrArg some (by kernel_rfl))
 f286:=Tryz.func140.trans (congrArg some (by kernel_rfl))
 f317:=Tryz.func178.trans (congrArg some (by kernel_rfl))
 f318:=Tryz.func180.trans (congrArg some (by kernel_rfl))
 f319:=Tryz.func181.trans (congrArg some (by kernel_rfl))
 f320:=Tryz.func175.trans (congrArg some (by kernel_rfl))
 f337:=Tryz.func221.trans (congrArg some (by kernel_rfl))
 f338:=Tryz.func222.trans (congrArg some (by kernel_rfl))
 t0:=Tryz.underlying0
 a0:=Tryz.isAgg0
 z0:=Tryz.sizeOf0
 v0:=Tryz.zeroValue0
 t2:=Tryz.underlying2
 a2:=Tryz.isAgg2
 z2:=Tryz.sizeOf2
 v2:=Tryz.zeroValue2
 t3:=Tryz.underlying3
 a3:=Tryz.isAgg3
 z3:=Tryz.sizeOf3
 v3:=Tryz.zeroValue3
 t4:=Tryz.underlying4
 a4:=Tryz.isAgg4
 z4:=Tryz.sizeOf4
 v4:=Tryz.zeroValue4
 t5:=Tryz.underlying5
 a5:=Tryz.isAgg5
 z5:=Tryz.sizeOf5
 v5:=Tryz.zeroValue5
 t9:=Tryz.underlying9
 a9:=Tryz.isAgg9
 z9:=Tryz.sizeOf9
 v9:=Tryz.zeroValue9
 t20:=Tryz.underlying20
 a20:=Tryz.isAgg20
 z20:=Tryz.sizeOf20
 v20:=Tryz.zeroValue20
 t37:=Tryz.underlying22
 a37:=Tryz.isAgg22
 z37:=Tryz.sizeOf22
 v37:=Tryz.zeroValue22
 t46:=Tryz.underlying115
 a46:=Tryz.isAgg115
 z46:=Tryz.sizeOf115
 v46:=Tryz.zeroValue115
 t51:=Tryz.underlying139
 a51:=Tryz.isAgg139
 z51:=Tryz.sizeOf139
 v51:=Tryz.zeroValue139
 t53:=Tryz.underlying133
 a53:=Tryz.isAgg133
 z53:=Tryz.sizeOf133
 v53:=Tryz.zeroValue133
 t171:=Tryz.underlying132
 a171:=Tryz.isAgg132
 z171:=Tryz.sizeOf132
 a:=Tryz.zeroValue132
 t173:=Tryz.underlying136
 a173:=Tryz.isAgg136
 z173:=Tryz.sizeOf136
 b:=Tryz.zeroValue136
 t212:=Tryz.underlying195
 a212:=Tryz.isAgg195
 z212:=Tryz.sizeOf195
 c:=Tryz.zeroValue195
 t213:=Tryz.underlying196
 a213:=Tryz.isAgg196
 z213:=Tryz.sizeOf196
 t232:=Tryz.underlying237
 a232:=Tryz.isAgg237
 z232:=Tryz.sizeOf237
 d:=Tryz.zeroValue237
 t233:=Tryz.underlying238
 a233:=Tryz.isAgg238
 z233:=Tryz.sizeOf238
 g:=Tryz.zeroValue238
 g17:=by kernel_rfl
 g18:=by kernel_rfl
 g19:=by kernel_rfl}
def Nne:Fun:=F_itoaS
theorem Nzk:Sound Tryz.prog 34 Nne:=itoaS_sound lay_itoaS
def Ns:Ann:=(.seq (.leaf [1]) (.seq (.seq (.leaf [1,8]) (.cond (.seq (.leaf [2]) (.leaf [2])) (.leaf [1]))) (.seq (.leaf [1,3]) (.seq (.seq (.draw [7,4] [0,1,2,3,4,5,6,10,7,8,9] [] [3,21,22,23]) (.block (.loop (.seq (.leaf [3,21,22,23,24]) (.seq (.cond (.leaf [3,21,22,23]) (.leaf [3])) (.seq (.block (.seq (.leaf [3,5,21,22,23]) (.leaf [3,21,22,23]))) (.leaf [3,21,22,23]))))))) (.seq (.leaf [2]) (.leaf [2]))))))
noncomputable def N4x:Ctx:=⟨tlook tys,olook [(32,Nf4),(33,N83),(34,Nne)],ioF,0,false,[]⟩
theorem N10f (a b c:Int):Link N4x LL (Code.seq (cq [0] (bodyOf Tryz.f11)) (Code.seq (cq [0,1] (bodyOf Tryz.f11)) (cq [0,1,1] (bodyOf Tryz.f11)))) (Ann.seq (aq [0] Ns) (Ann.seq (aq [0,1] Ns) (aq [0,1,1] Ns))) ⟨mkE 34 0 [(0,.agg [dI a,dI b,dI c])],[]⟩ (N8v a b c) (Sum.elim (fun(t:ByteArray)=>(Exit.normal,⟨mkE 34 0 [(1,.ptr 0 0),(3,dS t)],[some (.box [dI a,dI b,dI c])]⟩)) (fun(t:ByteArray)=>(Exit.ret,⟨mkE 34 0 [(2,dS t)],[]⟩))):= .of fun K h=>by
 simp only[N8v,wpW] at h
 exact .of (by kernel_rfl) h
theorem Nsf (a:ByteArray) (b c d:Int):Link N4x LL (cq [0,0,1,1,1] (bodyOf Tryz.f11)) (aq [0,0,1,1,1] Ns) ⟨mkE 34 0 [(1,.ptr 0 0),(3,dS a)],[some (.box [dI b,dI c,dI d])]⟩ (N4p b c d) (fun(t:(List Int)×Int)=>(Exit.normal,⟨mkE 34 0 [(3,dS a),(21,dL t.1),(22,dI t.2),(23,dI 0)],[]⟩)):= .of fun K h=>by
 simp only[N4p,wpW] at h
 exact .of (by kernel_rfl) h
theorem Nyq (a:ByteArray) (b:List Int) (c d:Int):Link N4x LL (cq [0,0,1,0,1,1,1] (bodyOf Tryz.f11)) (aq [0,0,1,0,1,1,1] Ns) ⟨mkE 34 0 [(3,dS a),(21,dL b),(22,dI c),(23,dI d)],[]⟩ (N65 a b c d) (Sum.elim (fun(t:ByteArray×Int)=>(Exit.normal,⟨mkE 34 0 [(3,dS t.1),(21,dL b),(22,dI c),(23,dI t.2)],[]⟩)) (fun(t:ByteArray)=>((Exit.exit 0),⟨mkE 34 0 [(3,dS t)],[]⟩))):= .of fun K h=>by
 simp only[N65,wpW] at h
 exact .of (by kernel_rfl) h
theorem Nyv (a:ByteArray):Link N4x LL (cq [1,1,1,1] (bodyOf Tryz.f11)) (aq [1,1,1,1] Ns) ⟨mkE 34 0 [(3,dS a)],[]⟩ (N50 a) (fun(t:ByteArray)=>(Exit.ret,⟨mkE 34 0 [(2,dS t)],[]⟩)):= .of fun K h=>by
 simp only[N50,wpW] at h
 exact .of (by kernel_rfl) h
theorem N11p (b d g:Int) {r:AV} {H':Heap} (h:(Ans.mk _ (N3 b d g) (fun(t:ByteArray)=>(dS t,[])) [] none).run=some (r,H')):Awp N4x LL (bodyOf Tryz.f11) Ns ⟨mkE 34 0 [(0,.agg [dI b,dI d,dI g])],[]⟩ (Ret (tlook tys) Tryz.f11.results.toList r H'):=
 ret_of' (Link.cast (by kernel_rfl) (by kernel_rfl) (link_group (c:=(cq [0,1,1] (bodyOf Tryz.f11))) (a:=(aq [0,1,1] Ns)) [(cq [0] (bodyOf Tryz.f11)),(cq [0,1] (bodyOf Tryz.f11))] [(aq [0] Ns),(aq [0,1] Ns)] rfl (link_seq2 (N10f b d g) (fun(t:ByteArray)=>(link_seq (link_seq (Nsf t b d g) (fun(t48:(List Int)×Int)=>(link_block (fin2:=(fun(t27:ByteArray)=>(Exit.normal,⟨mkE 34 0 [(3,dS t27)],[]⟩))) (id:=0) (link_loop (mk:=fun(s:ByteArray×Int)=>⟨mkE 34 0 [(3,dS s.1),(21,dL t48.1),(22,dI t48.2),(23,dI s.2)],[]⟩) (fin:=(fun(t27:ByteArray)=>((Exit.exit 0),⟨mkE 34 0 [(3,dS t27)],[]⟩))) (by
 rintro t27 f K h
 ·exact h) (fun s=>link_map (Nyq s.1 t48.1 t48.2 s.2) (Sum.elim (fun(t27:ByteArray×Int)=>Sum.inl (t27.1,t27.2)) (fun(t27:ByteArray)=>Sum.inr t27)) (by
 rintro(t27|t27)
 ·kernel_rfl
 ·kernel_rfl)) (t,0)) (fun(t27:ByteArray)=>t27) (by
 rintro t27 K h
 ·exact Eq.mp (by kernel_rfl) h)))) (fun(t48:ByteArray)=>(Nyv t48)))) (fun(t:ByteArray)=>t) (by
 rintro t
 ·kernel_rfl) (by
 rintro t f K h
 ·exact h)))) (by unfold N3;kernel_rfl) (by
 intro t
 exact ret_mk [dS t] (by kernel_rfl) (by kernel_rfl) (by kernel_rfl) (by kernel_rfl)) h
def N92:Fun:=fun avs H=>
 match avs,H with
 |[.agg [.dat (.int .i64) a,.dat (.int .i64) b,.dat (.int .i64) c]],[]=>⟨_,N3 a b c,fun(t:ByteArray)=>(dS t,[]),[],none⟩
 |_,_=>Ans.no
theorem Nd8:Sound Tryz.prog 11 N92:=by
 refine fn_sound' (C:=N4x) (c:=bodyOf Tryz.f11) (cok_of tys_ok (allc Nxv (allc Nol (allc Nzk alln))) (allc Tryz.call32 (allc Tryz.call33 (allc Tryz.call34 alln))) (by kernel_rfl)) Tryz.func11 (by kernel_rfl) LL Ns ?_
 intro avs H r H' h
 unfold N92 at h
 split at h
 ·refine Awp.cast ?_ ?_ ?_ (N11p _ _ _ h)<;>kernel_rfl
 ·simp[Ans.no,Ans.run] at h
def Ngn:Ann:=(.seq (.leaf [0,2]) (.seq (.leaf [0,2,4]) (.seq (.leaf [0,2,4,5]) (.seq (.seq (.leaf [0,2,4,5,15]) (.cond (.leaf [0,2,4,5]) (.leaf [0,2,4,5]))) (.seq (.seq (.leaf [0,2,4,5,26]) (.cond (.leaf [0,2,5]) (.leaf [0,2,5]))) (.seq (.seq (.leaf [2,5,42]) (.cond (.seq (.leaf [2,3]) (.leaf [2,3])) (.leaf [2,5]))) (.seq (.leaf [2,3]) (.leaf [2,3]))))))))
noncomputable def Ndq:Ctx:=⟨tlook tys,olook [(43,Nh3),(44,Ngk),(45,Nk9),(11,N92)],ioF,0,false,[]⟩
theorem N10l (a:ByteArray):Link Ndq LL (bodyOf Tryz.f22) Ngn ⟨mkE 45 0 [(0,dS a)],[]⟩ (N70 a) (fun(t:Bool×Int×Int×Int)=>(Exit.ret,⟨mkE 45 0 [(2,.ptr 0 0),(3,dB t.1)],[some (.box [dI t.2.1,dI t.2.2.1,dI t.2.2.2])]⟩)):= .of fun K h=>by
 simp only[N70,wpW] at h
 exact .of (by kernel_rfl) h
theorem N16t (a:ByteArray) {r:AV} {H':Heap} (h:(Ans.mk _ (N2a a) (fun(t:Bool×Int×Int×Int)=>(.tup [.agg [dI t.2.1,dI t.2.2.1,dI t.2.2.2],dB t.1],[some (.box [dI t.2.1,dI t.2.2.1,dI t.2.2.2])])) [] none).run=some (r,H')):Awp Ndq LL (bodyOf Tryz.f22) Ngn ⟨mkE 45 0 [(0,dS a)],[]⟩ (Ret (tlook tys) Tryz.f22.results.toList r H'):=
 ret_of' (N10l a) (by unfold N2a;kernel_rfl) (by
 intro t
 exact ret_mk [.agg [dI t.2.1,dI t.2.2.1,dI t.2.2.2],dB t.1] (by kernel_rfl) (by kernel_rfl) (by kernel_rfl) (by kernel_rfl)) h
def Nax:Fun:=fun avs H=>
 match avs,H with
 |[.dat .str a],[]=>⟨_,N2a a,fun(t:Bool×Int×Int×Int)=>(.tup [.agg [dI t.2.1,dI t.2.2.1,dI t.2.2.2],dB t.1],[some (.box [dI t.2.1,dI t.2.2.1,dI t.2.2.2])]),[],none⟩
 |_,_=>Ans.no
theorem No4:Sound Tryz.prog 22 Nax:=by
 refine fn_sound' (C:=Ndq) (c:=bodyOf Tryz.f22) (cok_of tys_ok (allc N18h (allc Nq5 (allc Nqi (allc Nd8 alln)))) (allc Tryz.call43 (allc Tryz.call44 (allc Tryz.call45 (allc Tryz.call11 alln)))) (by kernel_rfl)) Tryz.func22 (by kernel_rfl) LL Ngn ?_
 intro avs H r H' h
 unfold Nax at h
 split at h
 ·refine Awp.cast ?_ ?_ ?_ (N16t _ h)<;>kernel_rfl
 ·simp[Ans.no,Ans.run] at h
def N1p:Ann:=(.seq (.leaf [0]) (.seq (.leaf [0,4]) (.seq (.leaf [0,4,5]) (.block (.loop (.block (.seq (.leaf [0,4,5,6,8]) (.seq (.leaf [0,4,5,6,8,9,10]) (.seq (.seq (.leaf [0,4,5,6,9,29]) (.cond (.seq (.leaf [2,3]) (.leaf [2,3])) (.leaf [0,4,5,6,9]))) (.seq (.leaf [0,4,5,6]) (.leaf [0,4,5])))))))))))
noncomputable def Nbd:Ctx:=⟨tlook tys,olook [(21,Nh4),(22,Nax)],ioF,0,false,[]⟩
theorem Nu1 (a:ByteArray):Link Nbd LL (Code.seq (cq [0] (bodyOf Tryz.f5)) (Code.seq (cq [0,1] (bodyOf Tryz.f5)) (cq [0,1,1] (bodyOf Tryz.f5)))) (Ann.seq (aq [0] N1p) (Ann.seq (aq [0,1] N1p) (aq [0,1,1] N1p))) ⟨mkE 41 0 [(0,dS a)],[]⟩ (Nbl) (fun(t:Unit)=>(Exit.normal,⟨mkE 41 0 [(0,dS a),(4,.slc 0),(5,dI 0)],[some (.seq (.pair (.int .i64) (.pair (.int .i64) (.pair (.int .i64) .unit))) ([]:List (Int×Int×Int×Unit)))]⟩)):= .of fun K h=>by
 simp only[Nbl,wpW] at h
 exact .of (by kernel_rfl) h
theorem Nuv (a:ByteArray) (b:Int) (c:List (Int×Int×Int×Unit)):Link Nbd LL (cq [0,0,1,1,1] (bodyOf Tryz.f5)) (aq [0,0,1,1,1] N1p) ⟨mkE 41 0 [(0,dS a),(4,.slc 0),(5,dI b)],[some (.seq (.pair (.int .i64) (.pair (.int .i64) (.pair (.int .i64) .unit))) c)]⟩ (N3m a b c) (Sum.elim (fun(t:Int×(List (Int×Int×Int×Unit)))=>(Exit.normal,⟨mkE 41 0 [(0,dS a),(4,.slc 0),(5,dI t.1)],[some (.seq (.pair (.int .i64) (.pair (.int .i64) (.pair (.int .i64) .unit))) t.2)]⟩)) (fun(t:Int×(List (Int×Int×Int×Unit)))=>(Exit.ret,⟨mkE 41 0 [(2,.slc 0),(3,dI t.1)],[some (.seq (.pair (.int .i64) (.pair (.int .i64) (.pair (.int .i64) .unit))) t.2)]⟩))):= .of fun K h=>by
 simp only[N3m,wpW] at h
 exact .of (by kernel_rfl) h
theorem Nrn (b:ByteArray) {r:AV} {H':Heap} (h:(Ans.mk _ (N1l b) (fun(t:Int×(List (Int×Int×Int×Unit)))=>(.tup [.slc 0,dI t.1],[some (.seq (.pair (.int .i64) (.pair (.int .i64) (.pair (.int .i64) .unit))) t.2)])) [] none).run=some (r,H')):Awp Nbd LL (bodyOf Tryz.f5) N1p ⟨mkE 41 0 [(0,dS b)],[]⟩ (Ret (tlook tys) Tryz.f5.results.toList r H'):=
 ret_of' (Link.cast (by kernel_rfl) (by kernel_rfl) (link_group (c:=(cq [0,1,1] (bodyOf Tryz.f5))) (a:=(aq [0,1,1] N1p)) [(cq [0] (bodyOf Tryz.f5)),(cq [0,1] (bodyOf Tryz.f5))] [(aq [0] N1p),(aq [0,1] N1p)] rfl (link_seq (Nu1 b) (fun(t:Unit)=>(link_block (fin2:=(fun(t:Int×(List (Int×Int×Int×Unit)))=>(Exit.ret,⟨mkE 41 0 [(2,.slc 0),(3,dI t.1)],[some (.seq (.pair (.int .i64) (.pair (.int .i64) (.pair (.int .i64) .unit))) t.2)]⟩))) (id:=0) (link_loop (mk:=fun(s:Int×(List (Int×Int×Int×Unit)))=>⟨mkE 41 0 [(0,dS b),(4,.slc 0),(5,dI s.1)],[some (.seq (.pair (.int .i64) (.pair (.int .i64) (.pair (.int .i64) .unit))) s.2)]⟩) (fin:=(fun(t:Int×(List (Int×Int×Int×Unit)))=>(Exit.ret,⟨mkE 41 0 [(2,.slc 0),(3,dI t.1)],[some (.seq (.pair (.int .i64) (.pair (.int .i64) (.pair (.int .i64) .unit))) t.2)]⟩))) (by
 rintro t f K h
 ·exact h) (fun s=>link_map (Nuv b s.1 s.2) (Sum.elim (fun(t:Int×(List (Int×Int×Int×Unit)))=>Sum.inl (t.1,t.2)) (fun(t:Int×(List (Int×Int×Int×Unit)))=>Sum.inr t)) (by
 rintro(t|t)
 ·kernel_rfl
 ·kernel_rfl)) (0,([]:List (Int×Int×Int×Unit)))) (fun(t:Int×(List (Int×Int×Int×Unit)))=>t) (by
 rintro t K h
 ·exact Eq.mp (by kernel_rfl) h)))))) (by unfold N1l;kernel_rfl) (by
 intro t
 exact ret_mk [.slc 0,dI t.1] (by kernel_rfl) (by kernel_rfl) (by kernel_rfl) (by kernel_rfl)) h
def Nhi:Fun:=fun avs H=>
 match avs,H with
 |[.dat .str a],[]=>⟨_,N1l a,fun(t:Int×(List (Int×Int×Int×Unit)))=>(.tup [.slc 0,dI t.1],[some (.seq (.pair (.int .i64) (.pair (.int .i64) (.pair (.int .i64) .unit))) t.2)]),[],none⟩
 |_,_=>Ans.no
theorem N14c:Sound Tryz.prog 5 Nhi:=by
 refine fn_sound' (C:=Nbd) (c:=bodyOf Tryz.f5) (cok_of tys_ok (allc N13w (allc No4 alln)) (allc Tryz.call21 (allc Tryz.call22 alln)) (by kernel_rfl)) Tryz.func5 (by kernel_rfl) LL N1p ?_
 intro avs H r H' h
 unfold Nhi at h
 split at h
 ·refine Awp.cast ?_ ?_ ?_ (Nrn _ h)<;>kernel_rfl
 ·simp[Ans.no,Ans.run] at h
def Ny:Ann:=(.seq (.leaf [0,1]) (.seq (.leaf [0,1,5]) (.seq (.leaf [0,1,5,6]) (.seq (.seq (.leaf [0,1,5,6,7]) (.block (.loop (.seq (.seq (.leaf [0,1,5,6,7,12]) (.cond (.leaf [0,1,5,6,7]) (.leaf [0,5,6]))) (.seq (.block (.seq (.leaf [0,1,5,6,7,19]) (.cond (.seq (.leaf [0,1,5,7]) (.leaf [0,1,5,6,7])) (.leaf [0,1,5,6,7])))) (.leaf [0,1,5,6,7])))))) (.seq (.leaf [4]) (.leaf [4]))))))
noncomputable def N5a:Ctx:=⟨tlook tys,olook [],ioF,0,false,[]⟩
theorem Nsb (a:ByteArray) (b:Int):Link N5a LL (Code.seq (cq [0] (bodyOf Tryz.f46)) (Code.seq (cq [0,1] (bodyOf Tryz.f46)) (cq [0,1,1] (bodyOf Tryz.f46)))) (Ann.seq (aq [0] Ny) (Ann.seq (aq [0,1] Ny) (aq [0,1,1] Ny))) ⟨mkE 35 0 [(0,dS a),(1,dU b)],[]⟩ (N9y) (fun(t:Unit)=>(Exit.normal,⟨mkE 35 0 [(0,dS a),(1,dU b),(5,.slc 0),(6,dI 0)],[some (.seq .str ([]:List ByteArray))]⟩)):= .of fun K h=>by
 simp only[N9y,wpW] at h
 exact .of (by kernel_rfl) h
theorem Nwm (a:ByteArray) (b:Int):Link N5a LL (cq [0,0,1,1,1] (bodyOf Tryz.f46)) (aq [0,0,1,1,1] Ny) ⟨mkE 35 0 [(0,dS a),(1,dU b),(5,.slc 0),(6,dI 0)],[some (.seq .str ([]:List ByteArray))]⟩ (N87) (fun(t:Unit)=>(Exit.normal,⟨mkE 35 0 [(0,dS a),(1,dU b),(5,.slc 0),(6,dI 0),(7,dI 0)],[some (.seq .str ([]:List ByteArray))]⟩)):= .of fun K h=>by
 simp only[N87,wpW] at h
 exact .of (by kernel_rfl) h
theorem Nwv (a:ByteArray) (b c d:Int) (g:List ByteArray):Link N5a LL (cq [0,0,1,0,1,1,1] (bodyOf Tryz.f46)) (aq [0,0,1,0,1,1,1] Ny) ⟨mkE 35 0 [(0,dS a),(1,dU b),(5,.slc 0),(6,dI c),(7,dI d)],[some (.seq .str g)]⟩ (N41 a b c d g) (Sum.elim (fun(t:Int×Int×(List ByteArray))=>(Exit.normal,⟨mkE 35 0 [(0,dS a),(1,dU b),(5,.slc 0),(6,dI t.1),(7,dI t.2.1)],[some (.seq .str t.2.2)]⟩)) (fun(t:Int×(List ByteArray))=>((Exit.exit 0),⟨mkE 35 0 [(0,dS a),(5,.slc 0),(6,dI t.1)],[some (.seq .str t.2)]⟩))):= .of fun K h=>by
 simp only[N41,wpW] at h
 exact .of (by kernel_rfl) h
theorem Nt7 (a:ByteArray) (b:Int) (c:List ByteArray):Link N5a LL (cq [1,1,1,1] (bodyOf Tryz.f46)) (aq [1,1,1,1] Ny) ⟨mkE 35 0 [(0,dS a),(5,.slc 0),(6,dI b)],[some (.seq .str c)]⟩ (Nc3 a b c) (fun(t:(List ByteArray))=>(Exit.ret,⟨mkE 35 0 [(4,.slc 0)],[some (.seq .str t)]⟩)):= .of fun K h=>by
 simp only[Nc3,wpW] at h
 exact .of (by kernel_rfl) h
theorem N14i (b:ByteArray) (d:Int) {r:AV} {H':Heap} (h:(Ans.mk _ (N3w b d) (fun(t:(List ByteArray))=>(.slc 0,[some (.seq .str t)])) [] none).run=some (r,H')):Awp N5a LL (bodyOf Tryz.f46) Ny ⟨mkE 35 0 [(0,dS b),(1,dU d)],[]⟩ (Ret (tlook tys) Tryz.f46.results.toList r H'):=
 ret_of' (Link.cast (by kernel_rfl) (by kernel_rfl) (link_group (c:=(cq [0,1,1] (bodyOf Tryz.f46))) (a:=(aq [0,1,1] Ny)) [(cq [0] (bodyOf Tryz.f46)),(cq [0,1] (bodyOf Tryz.f46))] [(aq [0] Ny),(aq [0,1] Ny)] rfl (link_seq (Nsb b d) (fun(t:Unit)=>(link_seq (link_seq (Nwm b d) (fun(t:Unit)=>(link_block (fin2:=(fun(t:Int×(List ByteArray))=>(Exit.normal,⟨mkE 35 0 [(0,dS b),(5,.slc 0),(6,dI t.1)],[some (.seq .str t.2)]⟩))) (id:=0) (link_loop (mk:=fun(s:Int×Int×(List ByteArray))=>⟨mkE 35 0 [(0,dS b),(1,dU d),(5,.slc 0),(6,dI s.1),(7,dI s.2.1)],[some (.seq .str s.2.2)]⟩) (fin:=(fun(t:Int×(List ByteArray))=>((Exit.exit 0),⟨mkE 35 0 [(0,dS b),(5,.slc 0),(6,dI t.1)],[some (.seq .str t.2)]⟩))) (by
 rintro t f K h
 ·exact h) (fun s=>link_map (Nwv b d s.1 s.2.1 s.2.2) (Sum.elim (fun(t:Int×Int×(List ByteArray))=>Sum.inl (t.1,t.2.1,t.2.2)) (fun(t:Int×(List ByteArray))=>Sum.inr t)) (by
 rintro(t|t)
 ·kernel_rfl
 ·kernel_rfl)) (0,0,([]:List ByteArray))) (fun(t:Int×(List ByteArray))=>(t.1,t.2)) (by
 rintro t K h
 ·exact Eq.mp (by kernel_rfl) h)))) (fun(t:Int×(List ByteArray))=>(Nt7 b t.1 t.2))))))) (by unfold N3w;kernel_rfl) (by
 intro t
 exact ret_mk [.slc 0] (by kernel_rfl) (by kernel_rfl) (by kernel_rfl) (by kernel_rfl)) h
def Nen:Fun:=fun avs H=>
 match avs,H with
 |[.dat .str a,.dat (.int .u8) b],[]=>⟨_,N3w a b,fun(t:(List ByteArray))=>(.slc 0,[some (.seq .str t)]),[],none⟩
 |_,_=>Ans.no
theorem N13x:Sound Tryz.prog 46 Nen:=by
 refine fn_sound' (C:=N5a) (c:=bodyOf Tryz.f46) (cok_of tys_ok (alln) (alln) (by kernel_rfl)) Tryz.func46 (by kernel_rfl) LL Ny ?_
 intro avs H r H' h
 unfold Nen at h
 split at h
 ·refine Awp.cast ?_ ?_ ?_ (N14i _ _ h)<;>kernel_rfl
 ·simp[Ans.no,Ans.run] at h
def Nr:Ann:=(.seq (.leaf [0]) (.seq (.seq (.leaf [0,18]) (.cond (.seq (.leaf [2]) (.leaf [2])) (.leaf [0]))) (.seq (.leaf [0,3]) (.seq (.seq (.leaf [0,3,4]) (.block (.loop (.seq (.seq (.leaf [0,3,4,22]) (.cond (.leaf [0,3,4]) (.leaf [3]))) (.seq (.block (.seq (.seq (.leaf [0,3,4,34]) (.cond (.seq (.leaf [2]) (.leaf [2])) (.leaf [0,3,4]))) (.leaf [0,3,4]))) (.leaf [0,3,4])))))) (.seq (.leaf [2]) (.leaf [2]))))))
noncomputable def N4f:Ctx:=⟨tlook tys,olook [(51,N3p)],ioF,0,false,[]⟩
theorem N14f (a:ByteArray):Link N4f LL (Code.seq (cq [0] (bodyOf Tryz.f47)) (Code.seq (cq [0,1] (bodyOf Tryz.f47)) (cq [0,1,1] (bodyOf Tryz.f47)))) (Ann.seq (aq [0] Nr) (Ann.seq (aq [0,1] Nr) (aq [0,1,1] Nr))) ⟨mkE 44 0 [(0,dS a)],[]⟩ (Nbg a) (Sum.elim (fun(t:Unit)=>(Exit.normal,⟨mkE 44 0 [(0,dS a),(3,dI 0)],[]⟩)) (fun(t:Int)=>(Exit.ret,⟨mkE 44 0 [(2,dI t)],[]⟩))):= .of fun K h=>by
 simp only[Nbg,wpW] at h
 exact .of (by kernel_rfl) h
theorem N17e (a:ByteArray):Link N4f LL (cq [0,0,1,1,1] (bodyOf Tryz.f47)) (aq [0,0,1,1,1] Nr) ⟨mkE 44 0 [(0,dS a),(3,dI 0)],[]⟩ (Nbu) (fun(t:Unit)=>(Exit.normal,⟨mkE 44 0 [(0,dS a),(3,dI 0),(4,dI 0)],[]⟩)):= .of fun K h=>by
 simp only[Nbu,wpW] at h
 exact .of (by kernel_rfl) h
theorem N12f (a:ByteArray) (b c:Int):Link N4f LL (cq [0,0,1,0,1,1,1] (bodyOf Tryz.f47)) (aq [0,0,1,0,1,1,1] Nr) ⟨mkE 44 0 [(0,dS a),(3,dI b),(4,dI c)],[]⟩ (N5k a b c) (Sum.elim (fun(t:Int×Int)=>(Exit.normal,⟨mkE 44 0 [(0,dS a),(3,dI t.1),(4,dI t.2)],[]⟩)) (Sum.elim (fun(t:Int)=>(Exit.ret,⟨mkE 44 0 [(2,dI t)],[]⟩)) (fun(t:Int)=>((Exit.exit 0),⟨mkE 44 0 [(3,dI t)],[]⟩)))):= .of fun K h=>by
 simp only[N5k,wpW] at h
 exact .of (by kernel_rfl) h
theorem N11i (a:Int):Link N4f LL (cq [1,1,1,1] (bodyOf Tryz.f47)) (aq [1,1,1,1] Nr) ⟨mkE 44 0 [(3,dI a)],[]⟩ (Nck a) (fun(t:Int)=>(Exit.ret,⟨mkE 44 0 [(2,dI t)],[]⟩)):= .of fun K h=>by
 simp only[Nck,wpW] at h
 exact .of (by kernel_rfl) h
theorem Nx0 (b:ByteArray) {r:AV} {H':Heap} (h:(Ans.mk _ (N11 b) (fun(t:Int)=>(dI t,[])) [] none).run=some (r,H')):Awp N4f LL (bodyOf Tryz.f47) Nr ⟨mkE 44 0 [(0,dS b)],[]⟩ (Ret (tlook tys) Tryz.f47.results.toList r H'):=
 ret_of' (Link.cast (by kernel_rfl) (by kernel_rfl) (link_group (c:=(cq [0,1,1] (bodyOf Tryz.f47))) (a:=(aq [0,1,1] Nr)) [(cq [0] (bodyOf Tryz.f47)),(cq [0,1] (bodyOf Tryz.f47))] [(aq [0] Nr),(aq [0,1] Nr)] rfl (link_seq2 (N14f b) (fun(t:Unit)=>(link_seq2 (link_seq (N17e b) (fun(t:Unit)=>(link_block (fin2:=(Sum.elim (fun(t:Int)=>(Exit.normal,⟨mkE 44 0 [(3,dI t)],[]⟩)) (fun(t:Int)=>(Exit.ret,⟨mkE 44 0 [(2,dI t)],[]⟩)))) (id:=0) (link_loop (mk:=fun(s:Int×Int)=>⟨mkE 44 0 [(0,dS b),(3,dI s.1),(4,dI s.2)],[]⟩) (fin:=(Sum.elim (fun(t:Int)=>(Exit.ret,⟨mkE 44 0 [(2,dI t)],[]⟩)) (fun(t:Int)=>((Exit.exit 0),⟨mkE 44 0 [(3,dI t)],[]⟩)))) (by
 rintro(t|t) f K h
 ·exact h
 ·exact h) (fun s=>link_map (N12f b s.1 s.2) (Sum.elim (fun(t:Int×Int)=>Sum.inl (t.1,t.2)) (Sum.elim (fun(t:Int)=>Sum.inr (Sum.inl t)) (fun(t:Int)=>Sum.inr (Sum.inr t)))) (by
 rintro(t|t|t)
 ·kernel_rfl
 ·kernel_rfl
 ·kernel_rfl)) (0,0)) (Sum.elim (fun(t:Int)=>(Sum.inr t)) (fun(t:Int)=>(Sum.inl t))) (by
 rintro(t|t) K h
 ·exact Eq.mp (by kernel_rfl) h
 ·exact Eq.mp (by kernel_rfl) h)))) (fun(t:Int)=>(N11i t)) (fun(t:Int)=>t) (by
 rintro t
 ·kernel_rfl) (by
 rintro t f K h
 ·exact h))) (fun(t:Int)=>t) (by
 rintro t
 ·kernel_rfl) (by
 rintro t f K h
 ·exact h)))) (by unfold N11;kernel_rfl) (by
 intro t
 exact ret_mk [dI t] (by kernel_rfl) (by kernel_rfl) (by kernel_rfl) (by kernel_rfl)) h
def Neu:Fun:=fun avs H=>
 match avs,H with
 |[.dat .str a],[]=>⟨_,N11 a,fun(t:Int)=>(dI t,[]),[],none⟩
 |_,_=>Ans.no
theorem N183:Sound Tryz.prog 47 Neu:=by
 refine fn_sound' (C:=N4f) (c:=bodyOf Tryz.f47) (cok_of tys_ok (allc N7m alln) (allc Tryz.call51 alln) (by kernel_rfl)) Tryz.func47 (by kernel_rfl) LL Nr ?_
 intro avs H r H' h
 unfold Neu at h
 split at h
 ·refine Awp.cast ?_ ?_ ?_ (Nx0 _ h)<;>kernel_rfl
 ·simp[Ans.no,Ans.run] at h
def N9:Ann:=(.seq (.leaf [0,2]) (.seq (.leaf [0,2,4]) (.seq (.leaf [0,2,4,5]) (.seq (.seq (.leaf [0,2,4,5,16]) (.cond (.draw [4,8] [0,1,2,3,5,6,7,4,8,9,10,11,12] [] [0,2,4,5]) (.leaf [0,2,4,5]))) (.seq (.seq (.leaf [0,2,4,5,31]) (.cond (.leaf [0,2,5]) (.leaf [0,2,5]))) (.seq (.seq (.leaf [0,2,5,6]) (.block (.loop (.seq (.seq (.leaf [0,2,5,6,43]) (.cond (.leaf [0,2,5,6]) (.leaf [2]))) (.seq (.block (.seq (.leaf [0,2,5,6,56]) (.cond (.seq (.leaf [2,3]) (.leaf [2,3])) (.leaf [0,2,5,6])))) (.leaf [0,2,5,6])))))) (.seq (.leaf [2,3]) (.leaf [2,3]))))))))
noncomputable def N18:Ctx:=⟨tlook tys,olook [(46,Nen),(47,Neu),(40,N7n)],ioF,0,false,[]⟩
theorem Nwh (a:ByteArray):Link N18 LL (Code.seq (cq [0] (bodyOf Tryz.f23)) (Code.seq (cq [0,1] (bodyOf Tryz.f23)) (cq [0,1,1] (bodyOf Tryz.f23)))) (Ann.seq (aq [0] N9) (Ann.seq (aq [0,1] N9) (aq [0,1,1] N9))) ⟨mkE 62 0 [(0,dS a)],[]⟩ (Nb0 a) (fun(t:(List ByteArray)×(List (Int×Int×Int×Unit)))=>(Exit.normal,⟨mkE 62 0 [(0,dS a),(2,.ptr 0 0),(4,.slc 1),(5,.slc 2)],[some (.box [dI 0,dI 0,dI 0]),some (.seq .str t.1),some (.seq (.pair (.int .i64) (.pair (.int .i64) (.pair (.int .i64) .unit))) t.2)]⟩)):= .of fun K h=>by
 simp only[Nb0,wpW] at h
 exact .of (by kernel_rfl) h
theorem Nvv (a:ByteArray) (b:List ByteArray) (c:List (Int×Int×Int×Unit)):Link N18 LL (cq [0,0,1,1,1] (bodyOf Tryz.f23)) (aq [0,0,1,1,1] N9) ⟨mkE 62 0 [(0,dS a),(2,.ptr 0 0),(4,.slc 1),(5,.slc 2)],[some (.box [dI 0,dI 0,dI 0]),some (.seq .str b),some (.seq (.pair (.int .i64) (.pair (.int .i64) (.pair (.int .i64) .unit))) c)]⟩ (Ncm b) (fun(t:Bool)=>(Exit.normal,⟨mkE 62 0 [(0,dS a),(2,.ptr 0 0),(4,.slc 1),(5,.slc 2),(16,dB t)],[some (.box [dI 0,dI 0,dI 0]),some (.seq .str b),some (.seq (.pair (.int .i64) (.pair (.int .i64) (.pair (.int .i64) .unit))) c)]⟩)):= .of fun K h=>by
 simp only[Ncm,wpW] at h
 exact .of (by kernel_rfl) h
theorem Nu5 (a:ByteArray) (b:Bool) (c:List ByteArray) (d:List (Int×Int×Int×Unit)):Link N18 LL (cq [0,1,0,1,1,1] (bodyOf Tryz.f23)) (aq [0,1,0,1,1,1] N9) ⟨mkE 62 0 [(0,dS a),(2,.ptr 0 0),(4,.slc 1),(5,.slc 2),(16,dB b)],[some (.box [dI 0,dI 0,dI 0]),some (.seq .str c),some (.seq (.pair (.int .i64) (.pair (.int .i64) (.pair (.int .i64) .unit))) d)]⟩ (Na6 c d) (fun(t:(List (Int×Int×Int×Unit)))=>(Exit.normal,⟨mkE 62 0 [(0,dS a),(2,.ptr 0 0),(4,.slc 1),(5,.slc 2)],[some (.box [dI 0,dI 0,dI 0]),some (.seq .str c),some (.seq (.pair (.int .i64) (.pair (.int .i64) (.pair (.int .i64) .unit))) t)]⟩)):= .of fun K h=>by
 simp only[Na6,wpW] at h
 exact .of (by kernel_rfl) h
theorem Nyl (a:ByteArray) (b:Bool) (c:List ByteArray) (d:List (Int×Int×Int×Unit)):Link N18 LL (cq [1,1,0,1,1,1] (bodyOf Tryz.f23)) (aq [1,1,0,1,1,1] N9) ⟨mkE 62 0 [(0,dS a),(2,.ptr 0 0),(4,.slc 1),(5,.slc 2),(16,dB b)],[some (.box [dI 0,dI 0,dI 0]),some (.seq .str c),some (.seq (.pair (.int .i64) (.pair (.int .i64) (.pair (.int .i64) .unit))) d)]⟩ (N80) (fun(t:Unit)=>(Exit.normal,⟨mkE 62 0 [(0,dS a),(2,.ptr 0 0),(4,.slc 1),(5,.slc 2)],[some (.box [dI 0,dI 0,dI 0]),some (.seq .str c),some (.seq (.pair (.int .i64) (.pair (.int .i64) (.pair (.int .i64) .unit))) d)]⟩)):= .of fun K h=>by
 simp only[N80,wpW] at h
 exact .of (by kernel_rfl) h
theorem Nxc (a:ByteArray) (b:List ByteArray) (c:List (Int×Int×Int×Unit)):Link N18 LL (cq [0,1,1,1,1] (bodyOf Tryz.f23)) (aq [0,1,1,1,1] N9) ⟨mkE 62 0 [(0,dS a),(2,.ptr 0 0),(4,.slc 1),(5,.slc 2)],[some (.box [dI 0,dI 0,dI 0]),some (.seq .str b),some (.seq (.pair (.int .i64) (.pair (.int .i64) (.pair (.int .i64) .unit))) c)]⟩ (N75 b c) (fun(t:(List (Int×Int×Int×Unit)))=>(Exit.normal,⟨mkE 62 0 [(0,dS a),(2,.ptr 0 0),(5,.slc 1)],[some (.box [dI 0,dI 0,dI 0]),some (.seq (.pair (.int .i64) (.pair (.int .i64) (.pair (.int .i64) .unit))) t)]⟩)):= .of fun K h=>by
 simp only[N75,wpW] at h
 exact .of (by kernel_rfl) h
theorem Nt0 (a:ByteArray) (b:List (Int×Int×Int×Unit)):Link N18 LL (cq [0,0,1,1,1,1,1] (bodyOf Tryz.f23)) (aq [0,0,1,1,1,1,1] N9) ⟨mkE 62 0 [(0,dS a),(2,.ptr 0 0),(5,.slc 1)],[some (.box [dI 0,dI 0,dI 0]),some (.seq (.pair (.int .i64) (.pair (.int .i64) (.pair (.int .i64) .unit))) b)]⟩ (N8n) (fun(t:Unit)=>(Exit.normal,⟨mkE 62 0 [(0,dS a),(2,.ptr 0 0),(5,.slc 1),(6,dI 0)],[some (.box [dI 0,dI 0,dI 0]),some (.seq (.pair (.int .i64) (.pair (.int .i64) (.pair (.int .i64) .unit))) b)]⟩)):= .of fun K h=>by
 simp only[N8n,wpW] at h
 exact .of (by kernel_rfl) h
theorem Ntv (a:ByteArray) (b:Int) (c:List (Int×Int×Int×Unit)):Link N18 LL (cq [0,0,1,0,1,1,1,1,1] (bodyOf Tryz.f23)) (aq [0,0,1,0,1,1,1,1,1] N9) ⟨mkE 62 0 [(0,dS a),(2,.ptr 0 0),(5,.slc 1),(6,dI b)],[some (.box [dI 0,dI 0,dI 0]),some (.seq (.pair (.int .i64) (.pair (.int .i64) (.pair (.int .i64) .unit))) c)]⟩ (N58 a b c) (Sum.elim (fun(t:Int)=>(Exit.normal,⟨mkE 62 0 [(0,dS a),(2,.ptr 0 0),(5,.slc 1),(6,dI t)],[some (.box [dI 0,dI 0,dI 0]),some (.seq (.pair (.int .i64) (.pair (.int .i64) (.pair (.int .i64) .unit))) c)]⟩)) (Sum.elim (fun(t:Bool×Int×Int×Int)=>(Exit.ret,⟨mkE 62 0 [(2,.ptr 0 0),(3,dB t.1)],[some (.box [dI t.2.1,dI t.2.2.1,dI t.2.2.2])]⟩)) (fun(t:Unit)=>((Exit.exit 0),⟨mkE 62 0 [(2,.ptr 0 0)],[some (.box [dI 0,dI 0,dI 0])]⟩)))):= .of fun K h=>by
 simp only[N58,wpW] at h
 exact .of (by kernel_rfl) h
theorem N134:Link N18 LL (cq [1,1,1,1,1,1] (bodyOf Tryz.f23)) (aq [1,1,1,1,1,1] N9) ⟨mkE 62 0 [(2,.ptr 0 0)],[some (.box [dI 0,dI 0,dI 0])]⟩ (Nce) (fun(t:Bool×Int×Int×Int)=>(Exit.ret,⟨mkE 62 0 [(2,.ptr 0 0),(3,dB t.1)],[some (.box [dI t.2.1,dI t.2.2.1,dI t.2.2.2])]⟩)):= .of fun K h=>by
 simp only[Nce,wpW] at h
 exact .of (by kernel_rfl) h
theorem N11z (b:ByteArray) {r:AV} {H':Heap} (h:(Ans.mk _ (N2u b) (fun(t:Bool×Int×Int×Int)=>(.tup [.agg [dI t.2.1,dI t.2.2.1,dI t.2.2.2],dB t.1],[some (.box [dI t.2.1,dI t.2.2.1,dI t.2.2.2])])) [] none).run=some (r,H')):Awp N18 LL (bodyOf Tryz.f23) N9 ⟨mkE 62 0 [(0,dS b)],[]⟩ (Ret (tlook tys) Tryz.f23.results.toList r H'):=
 ret_of' (Link.cast (by kernel_rfl) (by kernel_rfl) (link_group (c:=(cq [0,1,1] (bodyOf Tryz.f23))) (a:=(aq [0,1,1] N9)) [(cq [0] (bodyOf Tryz.f23)),(cq [0,1] (bodyOf Tryz.f23))] [(aq [0] N9),(aq [0,1] N9)] rfl (link_seq (Nwh b) (fun(t:(List ByteArray)×(List (Int×Int×Int×Unit)))=>(link_seq (link_seq (Nvv b t.1 t.2) (fun(t56:Bool)=>(link_cond (c:= .tmp 16) (g:=t56) (by kernel_rfl) ((link_map (fin2:=(fun(t6:(List (Int×Int×Int×Unit)))=>(Exit.normal,⟨mkE 62 0 [(0,dS b),(2,.ptr 0 0),(4,.slc 1),(5,.slc 2)],[some (.box [dI 0,dI 0,dI 0]),some (.seq .str t.1),some (.seq (.pair (.int .i64) (.pair (.int .i64) (.pair (.int .i64) .unit))) t6)]⟩))) (Nu5 b t56 t.1 t.2) (fun(t6:(List (Int×Int×Int×Unit)))=>t6) (by
 rintro t6
 ·kernel_rfl))) ((link_map (fin2:=(fun(t6:(List (Int×Int×Int×Unit)))=>(Exit.normal,⟨mkE 62 0 [(0,dS b),(2,.ptr 0 0),(4,.slc 1),(5,.slc 2)],[some (.box [dI 0,dI 0,dI 0]),some (.seq .str t.1),some (.seq (.pair (.int .i64) (.pair (.int .i64) (.pair (.int .i64) .unit))) t6)]⟩))) (Nyl b t56 t.1 t.2) (fun(t6:Unit)=>t.2) (by
 rintro t6
 ·kernel_rfl)))))) (fun(t56:(List (Int×Int×Int×Unit)))=>(link_seq (Nxc b t.1 t56) (fun(t7:(List (Int×Int×Int×Unit)))=>(link_seq2 (link_seq (Nt0 b t7) (fun(t56:Unit)=>(link_block (fin2:=(Sum.elim (fun(t56:Unit)=>(Exit.normal,⟨mkE 62 0 [(2,.ptr 0 0)],[some (.box [dI 0,dI 0,dI 0])]⟩)) (fun(t56:Bool×Int×Int×Int)=>(Exit.ret,⟨mkE 62 0 [(2,.ptr 0 0),(3,dB t56.1)],[some (.box [dI t56.2.1,dI t56.2.2.1,dI t56.2.2.2])]⟩)))) (id:=0) (link_loop (mk:=fun(s:Int)=>⟨mkE 62 0 [(0,dS b),(2,.ptr 0 0),(5,.slc 1),(6,dI s)],[some (.box [dI 0,dI 0,dI 0]),some (.seq (.pair (.int .i64) (.pair (.int .i64) (.pair (.int .i64) .unit))) t7)]⟩) (fin:=(Sum.elim (fun(t56:Bool×Int×Int×Int)=>(Exit.ret,⟨mkE 62 0 [(2,.ptr 0 0),(3,dB t56.1)],[some (.box [dI t56.2.1,dI t56.2.2.1,dI t56.2.2.2])]⟩)) (fun(t56:Unit)=>((Exit.exit 0),⟨mkE 62 0 [(2,.ptr 0 0)],[some (.box [dI 0,dI 0,dI 0])]⟩)))) (by
 rintro(t56|t56) f K h
 ·exact h
 ·exact h) (fun s=>link_map (Ntv b s t7) (Sum.elim (fun(t56:Int)=>Sum.inl t56) (Sum.elim (fun(t56:Bool×Int×Int×Int)=>Sum.inr (Sum.inl t56)) (fun(t56:Unit)=>Sum.inr (Sum.inr t56)))) (by
 rintro(t56|t56|t56)
 ·kernel_rfl
 ·kernel_rfl
 ·kernel_rfl)) 0) (Sum.elim (fun(t56:Bool×Int×Int×Int)=>(Sum.inr t56)) (fun(t56:Unit)=>(Sum.inl ()))) (by
 rintro(t56|t56) K h
 ·exact Eq.mp (by kernel_rfl) h
 ·exact Eq.mp (by kernel_rfl) h)))) (fun(t56:Unit)=>(N134)) (fun(t56:Bool×Int×Int×Int)=>t56) (by
 rintro t56
 ·kernel_rfl) (by
 rintro t56 f K h
 ·exact h)))))))))) (by unfold N2u;kernel_rfl) (by
 intro t
 exact ret_mk [.agg [dI t.2.1,dI t.2.2.1,dI t.2.2.2],dB t.1] (by kernel_rfl) (by kernel_rfl) (by kernel_rfl) (by kernel_rfl)) h
def Nd6:Fun:=fun avs H=>
 match avs,H with
 |[.dat .str a],[]=>⟨_,N2u a,fun(t:Bool×Int×Int×Int)=>(.tup [.agg [dI t.2.1,dI t.2.2.1,dI t.2.2.2],dB t.1],[some (.box [dI t.2.1,dI t.2.2.1,dI t.2.2.2])]),[],none⟩
 |_,_=>Ans.no
theorem Nxu:Sound Tryz.prog 23 Nd6:=by
 refine fn_sound' (C:=N18) (c:=bodyOf Tryz.f23) (cok_of tys_ok (allc N13x (allc N183 (allc Niy alln))) (allc Tryz.call46 (allc Tryz.call47 (allc Tryz.call40 alln))) (by kernel_rfl)) Tryz.func23 (by kernel_rfl) LL N9 ?_
 intro avs H r H' h
 unfold Nd6 at h
 split at h
 ·refine Awp.cast ?_ ?_ ?_ (N11z _ h)<;>kernel_rfl
 ·simp[Ans.no,Ans.run] at h
def N10:Ann:=(.seq (.leaf [0]) (.seq (.leaf [0,4]) (.seq (.leaf [0,4,5]) (.seq (.seq (.leaf [0,4,5,6]) (.block (.loop (.seq (.seq (.leaf [0,4,5,6,13]) (.cond (.leaf [0,4,5,6]) (.leaf [4,5]))) (.seq (.block (.seq (.leaf [0,4,5,6,19]) (.cond (.seq (.leaf [0,4,5,6,7,8]) (.seq (.seq (.leaf [0,4,5,6,7,29]) (.cond (.seq (.leaf [2,3]) (.leaf [2,3])) (.leaf [0,4,6,7]))) (.seq (.leaf [0,4,6]) (.leaf [0,4,5,6])))) (.leaf [0,4,5,6])))) (.leaf [0,4,5,6])))))) (.seq (.leaf [2,3]) (.leaf [2,3]))))))
noncomputable def N4r:Ctx:=⟨tlook tys,olook [(23,Nd6)],ioF,0,false,[]⟩
theorem Npr (a:ByteArray):Link N4r LL (Code.seq (cq [0] (bodyOf Tryz.f6)) (Code.seq (cq [0,1] (bodyOf Tryz.f6)) (cq [0,1,1] (bodyOf Tryz.f6)))) (Ann.seq (aq [0] N10) (Ann.seq (aq [0,1] N10) (aq [0,1,1] N10))) ⟨mkE 40 0 [(0,dS a)],[]⟩ (N9d) (fun(t:Unit)=>(Exit.normal,⟨mkE 40 0 [(0,dS a),(4,.slc 0),(5,dI 0)],[some (.seq (.pair (.int .i64) (.pair (.int .i64) (.pair (.int .i64) .unit))) ([]:List (Int×Int×Int×Unit)))]⟩)):= .of fun K h=>by
 simp only[N9d,wpW] at h
 exact .of (by kernel_rfl) h
theorem Nys (a:ByteArray):Link N4r LL (cq [0,0,1,1,1] (bodyOf Tryz.f6)) (aq [0,0,1,1,1] N10) ⟨mkE 40 0 [(0,dS a),(4,.slc 0),(5,dI 0)],[some (.seq (.pair (.int .i64) (.pair (.int .i64) (.pair (.int .i64) .unit))) ([]:List (Int×Int×Int×Unit)))]⟩ (N9k) (fun(t:Unit)=>(Exit.normal,⟨mkE 40 0 [(0,dS a),(4,.slc 0),(5,dI 0),(6,dI 0)],[some (.seq (.pair (.int .i64) (.pair (.int .i64) (.pair (.int .i64) .unit))) ([]:List (Int×Int×Int×Unit)))]⟩)):= .of fun K h=>by
 simp only[N9k,wpW] at h
 exact .of (by kernel_rfl) h
theorem N12h (a:ByteArray) (b c:Int) (d:List (Int×Int×Int×Unit)):Link N4r LL (cq [0,0,1,0,1,1,1] (bodyOf Tryz.f6)) (aq [0,0,1,0,1,1,1] N10) ⟨mkE 40 0 [(0,dS a),(4,.slc 0),(5,dI b),(6,dI c)],[some (.seq (.pair (.int .i64) (.pair (.int .i64) (.pair (.int .i64) .unit))) d)]⟩ (N2k a b c d) (Sum.elim (fun(t:Int×Int×(List (Int×Int×Int×Unit)))=>(Exit.normal,⟨mkE 40 0 [(0,dS a),(4,.slc 0),(5,dI t.1),(6,dI t.2.1)],[some (.seq (.pair (.int .i64) (.pair (.int .i64) (.pair (.int .i64) .unit))) t.2.2)]⟩)) (Sum.elim (fun(t:Int×(List (Int×Int×Int×Unit)))=>(Exit.ret,⟨mkE 40 0 [(2,.slc 0),(3,dI t.1)],[some (.seq (.pair (.int .i64) (.pair (.int .i64) (.pair (.int .i64) .unit))) t.2)]⟩)) (fun(t:Int×(List (Int×Int×Int×Unit)))=>((Exit.exit 0),⟨mkE 40 0 [(4,.slc 0),(5,dI t.1)],[some (.seq (.pair (.int .i64) (.pair (.int .i64) (.pair (.int .i64) .unit))) t.2)]⟩)))):= .of fun K h=>by
 simp only[N2k,wpW] at h
 exact .of (by kernel_rfl) h
theorem Nqu (a:Int) (b:List (Int×Int×Int×Unit)):Link N4r LL (cq [1,1,1,1] (bodyOf Tryz.f6)) (aq [1,1,1,1] N10) ⟨mkE 40 0 [(4,.slc 0),(5,dI a)],[some (.seq (.pair (.int .i64) (.pair (.int .i64) (.pair (.int .i64) .unit))) b)]⟩ (N8t a b) (fun(t:Int×(List (Int×Int×Int×Unit)))=>(Exit.ret,⟨mkE 40 0 [(2,.slc 0),(3,dI t.1)],[some (.seq (.pair (.int .i64) (.pair (.int .i64) (.pair (.int .i64) .unit))) t.2)]⟩)):= .of fun K h=>by
 simp only[N8t,wpW] at h
 exact .of (by kernel_rfl) h
theorem Nua (b:ByteArray) {r:AV} {H':Heap} (h:(Ans.mk _ (N37 b) (fun(t:Int×(List (Int×Int×Int×Unit)))=>(.tup [.slc 0,dI t.1],[some (.seq (.pair (.int .i64) (.pair (.int .i64) (.pair (.int .i64) .unit))) t.2)])) [] none).run=some (r,H')):Awp N4r LL (bodyOf Tryz.f6) N10 ⟨mkE 40 0 [(0,dS b)],[]⟩ (Ret (tlook tys) Tryz.f6.results.toList r H'):=
 ret_of' (Link.cast (by kernel_rfl) (by kernel_rfl) (link_group (c:=(cq [0,1,1] (bodyOf Tryz.f6))) (a:=(aq [0,1,1] N10)) [(cq [0] (bodyOf Tryz.f6)),(cq [0,1] (bodyOf Tryz.f6))] [(aq [0] N10),(aq [0,1] N10)] rfl (link_seq (Npr b) (fun(t:Unit)=>(link_seq2 (link_seq (Nys b) (fun(t:Unit)=>(link_block (fin2:=(Sum.elim (fun(t:Int×(List (Int×Int×Int×Unit)))=>(Exit.normal,⟨mkE 40 0 [(4,.slc 0),(5,dI t.1)],[some (.seq (.pair (.int .i64) (.pair (.int .i64) (.pair (.int .i64) .unit))) t.2)]⟩)) (fun(t:Int×(List (Int×Int×Int×Unit)))=>(Exit.ret,⟨mkE 40 0 [(2,.slc 0),(3,dI t.1)],[some (.seq (.pair (.int .i64) (.pair (.int .i64) (.pair (.int .i64) .unit))) t.2)]⟩)))) (id:=0) (link_loop (mk:=fun(s:Int×Int×(List (Int×Int×Int×Unit)))=>⟨mkE 40 0 [(0,dS b),(4,.slc 0),(5,dI s.1),(6,dI s.2.1)],[some (.seq (.pair (.int .i64) (.pair (.int .i64) (.pair (.int .i64) .unit))) s.2.2)]⟩) (fin:=(Sum.elim (fun(t:Int×(List (Int×Int×Int×Unit)))=>(Exit.ret,⟨mkE 40 0 [(2,.slc 0),(3,dI t.1)],[some (.seq (.pair (.int .i64) (.pair (.int .i64) (.pair (.int .i64) .unit))) t.2)]⟩)) (fun(t:Int×(List (Int×Int×Int×Unit)))=>((Exit.exit 0),⟨mkE 40 0 [(4,.slc 0),(5,dI t.1)],[some (.seq (.pair (.int .i64) (.pair (.int .i64) (.pair (.int .i64) .unit))) t.2)]⟩)))) (by
 rintro(t|t) f K h
 ·exact h
 ·exact h) (fun s=>link_map (N12h b s.1 s.2.1 s.2.2) (Sum.elim (fun(t:Int×Int×(List (Int×Int×Int×Unit)))=>Sum.inl (t.1,t.2.1,t.2.2)) (Sum.elim (fun(t:Int×(List (Int×Int×Int×Unit)))=>Sum.inr (Sum.inl t)) (fun(t:Int×(List (Int×Int×Int×Unit)))=>Sum.inr (Sum.inr t)))) (by
 rintro(t|t|t)
 ·kernel_rfl
 ·kernel_rfl
 ·kernel_rfl)) (0,0,([]:List (Int×Int×Int×Unit)))) (Sum.elim (fun(t:Int×(List (Int×Int×Int×Unit)))=>(Sum.inr t)) (fun(t:Int×(List (Int×Int×Int×Unit)))=>(Sum.inl (t.1,t.2)))) (by
 rintro(t|t) K h
 ·exact Eq.mp (by kernel_rfl) h
 ·exact Eq.mp (by kernel_rfl) h)))) (fun(t:Int×(List (Int×Int×Int×Unit)))=>(Nqu t.1 t.2)) (fun(t:Int×(List (Int×Int×Int×Unit)))=>t) (by
 rintro t
 ·kernel_rfl) (by
 rintro t f K h
 ·exact h)))))) (by unfold N37;kernel_rfl) (by
 intro t
 exact ret_mk [.slc 0,dI t.1] (by kernel_rfl) (by kernel_rfl) (by kernel_rfl) (by kernel_rfl)) h
def Niz:Fun:=fun avs H=>
 match avs,H with
 |[.dat .str a],[]=>⟨_,N37 a,fun(t:Int×(List (Int×Int×Int×Unit)))=>(.tup [.slc 0,dI t.1],[some (.seq (.pair (.int .i64) (.pair (.int .i64) (.pair (.int .i64) .unit))) t.2)]),[],none⟩
 |_,_=>Ans.no
theorem Nzl:Sound Tryz.prog 6 Niz:=by
 refine fn_sound' (C:=N4r) (c:=bodyOf Tryz.f6) (cok_of tys_ok (allc Nxu alln) (allc Tryz.call23 alln) (by kernel_rfl)) Tryz.func6 (by kernel_rfl) LL N10 ?_
 intro avs H r H' h
 unfold Niz at h
 split at h
 ·refine Awp.cast ?_ ?_ ?_ (Nua _ h)<;>kernel_rfl
 ·simp[Ans.no,Ans.run] at h
def N1z:Ann:=(.seq (.leaf [0,1]) (.seq (.seq (.leaf [0,1,10]) (.cond (.seq (.leaf [4]) (.leaf [4])) (.leaf [0,1]))) (.seq (.seq (.leaf [0,1,5]) (.block (.loop (.seq (.seq (.leaf [0,1,5,14]) (.cond (.leaf [0,1,5]) (.leaf []))) (.seq (.block (.seq (.draw [100008] [0,1,2,3,4,5,6,7,8] [] [0,1,5,25]) (.cond (.seq (.leaf [4]) (.leaf [4])) (.leaf [0,1,5])))) (.leaf [0,1,5])))))) (.seq (.leaf [4]) (.leaf [4])))))
noncomputable def N5q:Ctx:=⟨tlook tys,olook [],ioF,0,false,[]⟩
theorem N174 (a b:List (Int×Int×Int×Unit)):Link N5q LL (Code.seq (cq [0] (bodyOf Tryz.f7)) (cq [0,1] (bodyOf Tryz.f7))) (Ann.seq (aq [0] N1z) (aq [0,1] N1z)) ⟨mkE 26 0 [(0,.dat (.list (.pair (.int .i64) (.pair (.int .i64) (.pair (.int .i64) .unit)))) a),(1,.dat (.list (.pair (.int .i64) (.pair (.int .i64) (.pair (.int .i64) .unit)))) b)],[]⟩ (Ncr a b) (Sum.elim (fun(t:Unit)=>(Exit.normal,⟨mkE 26 0 [(0,.dat (.list (.pair (.int .i64) (.pair (.int .i64) (.pair (.int .i64) .unit)))) a),(1,.dat (.list (.pair (.int .i64) (.pair (.int .i64) (.pair (.int .i64) .unit)))) b)],[]⟩)) (fun(t:Bool)=>(Exit.ret,⟨mkE 26 0 [(4,dB t)],[]⟩))):= .of fun K h=>by
 simp only[Ncr,wpW] at h
 exact .of (by kernel_rfl) h
theorem N10y (a b:List (Int×Int×Int×Unit)):Link N5q LL (cq [0,0,1,1] (bodyOf Tryz.f7)) (aq [0,0,1,1] N1z) ⟨mkE 26 0 [(0,.dat (.list (.pair (.int .i64) (.pair (.int .i64) (.pair (.int .i64) .unit)))) a),(1,.dat (.list (.pair (.int .i64) (.pair (.int .i64) (.pair (.int .i64) .unit)))) b)],[]⟩ (N9b) (fun(t:Unit)=>(Exit.normal,⟨mkE 26 0 [(0,.dat (.list (.pair (.int .i64) (.pair (.int .i64) (.pair (.int .i64) .unit)))) a),(1,.dat (.list (.pair (.int .i64) (.pair (.int .i64) (.pair (.int .i64) .unit)))) b),(5,dI 0)],[]⟩)):= .of fun K h=>by
 simp only[N9b,wpW] at h
 exact .of (by kernel_rfl) h
theorem Nxw (a b:List (Int×Int×Int×Unit)) (c:Int):Link N5q LL (cq [0,0,1,0,1,1] (bodyOf Tryz.f7)) (aq [0,0,1,0,1,1] N1z) ⟨mkE 26 0 [(0,.dat (.list (.pair (.int .i64) (.pair (.int .i64) (.pair (.int .i64) .unit)))) a),(1,.dat (.list (.pair (.int .i64) (.pair (.int .i64) (.pair (.int .i64) .unit)))) b),(5,dI c)],[]⟩ (N5e a b c) (Sum.elim (fun(t:Int)=>(Exit.normal,⟨mkE 26 0 [(0,.dat (.list (.pair (.int .i64) (.pair (.int .i64) (.pair (.int .i64) .unit)))) a),(1,.dat (.list (.pair (.int .i64) (.pair (.int .i64) (.pair (.int .i64) .unit)))) b),(5,dI t)],[]⟩)) (Sum.elim (fun(t:Bool)=>(Exit.ret,⟨mkE 26 0 [(4,dB t)],[]⟩)) (fun(t:Unit)=>((Exit.exit 0),⟨mkE 26 0 [],[]⟩)))):= .of fun K h=>by
 simp only[N5e,wpW] at h
 exact .of (by kernel_rfl) h
theorem Nvy:Link N5q LL (cq [1,1,1] (bodyOf Tryz.f7)) (aq [1,1,1] N1z) ⟨mkE 26 0 [],[]⟩ (N90) (fun(t:Bool)=>(Exit.ret,⟨mkE 26 0 [(4,dB t)],[]⟩)):= .of fun K h=>by
 simp only[N90,wpW] at h
 exact .of (by kernel_rfl) h
theorem Nq9 (b d:List (Int×Int×Int×Unit)) {r:AV} {H':Heap} (h:(Ans.mk _ (N2j b d) (fun(t:Bool)=>(dB t,[])) [] none).run=some (r,H')):Awp N5q LL (bodyOf Tryz.f7) N1z ⟨mkE 26 0 [(0,.dat (.list (.pair (.int .i64) (.pair (.int .i64) (.pair (.int .i64) .unit)))) b),(1,.dat (.list (.pair (.int .i64) (.pair (.int .i64) (.pair (.int .i64) .unit)))) d)],[]⟩ (Ret (tlook tys) Tryz.f7.results.toList r H'):=
 ret_of' (Link.cast (by kernel_rfl) (by kernel_rfl) (link_group (c:=(cq [0,1] (bodyOf Tryz.f7))) (a:=(aq [0,1] N1z)) [(cq [0] (bodyOf Tryz.f7))] [(aq [0] N1z)] rfl (link_seq2 (N174 b d) (fun(t:Unit)=>(link_seq2 (link_seq (N10y b d) (fun(t:Unit)=>(link_block (fin2:=(Sum.elim (fun(t:Unit)=>(Exit.normal,⟨mkE 26 0 [],[]⟩)) (fun(t:Bool)=>(Exit.ret,⟨mkE 26 0 [(4,dB t)],[]⟩)))) (id:=0) (link_loop (mk:=fun(s:Int)=>⟨mkE 26 0 [(0,.dat (.list (.pair (.int .i64) (.pair (.int .i64) (.pair (.int .i64) .unit)))) b),(1,.dat (.list (.pair (.int .i64) (.pair (.int .i64) (.pair (.int .i64) .unit)))) d),(5,dI s)],[]⟩) (fin:=(Sum.elim (fun(t:Bool)=>(Exit.ret,⟨mkE 26 0 [(4,dB t)],[]⟩)) (fun(t:Unit)=>((Exit.exit 0),⟨mkE 26 0 [],[]⟩)))) (by
 rintro(t|t) f K h
 ·exact h
 ·exact h) (fun s=>link_map (Nxw b d s) (Sum.elim (fun(t:Int)=>Sum.inl t) (Sum.elim (fun(t:Bool)=>Sum.inr (Sum.inl t)) (fun(t:Unit)=>Sum.inr (Sum.inr t)))) (by
 rintro(t|t|t)
 ·kernel_rfl
 ·kernel_rfl
 ·kernel_rfl)) 0) (Sum.elim (fun(t:Bool)=>(Sum.inr t)) (fun(t:Unit)=>(Sum.inl ()))) (by
 rintro(t|t) K h
 ·exact Eq.mp (by kernel_rfl) h
 ·exact Eq.mp (by kernel_rfl) h)))) (fun(t:Unit)=>(Nvy)) (fun(t:Bool)=>t) (by
 rintro t
 ·kernel_rfl) (by
 rintro t f K h
 ·exact h))) (fun(t:Bool)=>t) (by
 rintro t
 ·kernel_rfl) (by
 rintro t f K h
 ·exact h)))) (by unfold N2j;kernel_rfl) (by
 intro t
 exact ret_mk [dB t] (by kernel_rfl) (by kernel_rfl) (by kernel_rfl) (by kernel_rfl)) h
def Nff:Fun:=fun avs H=>
 match avs,H with
 |[.dat (.list (.pair (.int .i64) (.pair (.int .i64) (.pair (.int .i64) .unit)))) a,.dat (.list (.pair (.int .i64) (.pair (.int .i64) (.pair (.int .i64) .unit)))) b],[]=>⟨_,N2j a b,fun(t:Bool)=>(dB t,[]),[],none⟩
 |_,_=>Ans.no
theorem Ny5:Sound Tryz.prog 7 Nff:=by
 refine fn_sound' (C:=N5q) (c:=bodyOf Tryz.f7) (cok_of tys_ok (alln) (alln) (by kernel_rfl)) Tryz.func7 (by kernel_rfl) LL N1z ?_
 intro avs H r H' h
 unfold Nff at h
 split at h
 ·refine Awp.cast ?_ ?_ ?_ (Nq9 _ _ h)<;>kernel_rfl
 ·simp[Ans.no,Ans.run] at h
def Ngx:Ann:=(.seq (.leaf [0,2]) (.seq (.seq (.leaf [0,2,6]) (.cond (.seq (.leaf [2,3]) (.leafF [⟨0,2,false,some 0,some (.int .i64)⟩] [2,3])) (.leaf [0,2]))) (.seq (.leaf [2,3]) (.leaf [2,3]))))
noncomputable def Nfv:Ctx:=⟨tlook tys,olook [(27,N1b)],ioF,0,false,[]⟩
theorem N17r (a:List Int):Link Nfv LL (bodyOf Tryz.f48) Ngx ⟨mkE 12 0 [(0,dL a)],[]⟩ (N7j a) (fun(t:Bool×(List Int))=>(Exit.ret,⟨mkE 12 0 [(2,.ptr 0 0),(3,dB t.1)],[some (.box [.slc 1,.nils]),some (sI t.2)]⟩)):= .of fun K h=>by
 simp only[N7j,wpW] at h
 exact .of (by kernel_rfl) h
theorem Nr7 (a:List Int) {r:AV} {H':Heap} (h:(Ans.mk _ (N38 a) (fun(t:Bool×(List Int))=>(.tup [.agg [.slc 1,.nils],dB t.1],[some (.box [.slc 1,.nils]),some (sI t.2)])) [] none).run=some (r,H')):Awp Nfv LL (bodyOf Tryz.f48) Ngx ⟨mkE 12 0 [(0,dL a)],[]⟩ (Ret (tlook tys) Tryz.f48.results.toList r H'):=
 ret_of' (N17r a) (by unfold N38;kernel_rfl) (by
 intro t
 exact ret_mk [.agg [.slc 1,.nils],dB t.1] (by kernel_rfl) (by kernel_rfl) (by kernel_rfl) (by kernel_rfl)) h
def Nif:Fun:=fun avs H=>
 match avs,H with
 |[.dat (.list (.int .i64)) a],[]=>⟨_,N38 a,fun(t:Bool×(List Int))=>(.tup [.agg [.slc 1,.nils],dB t.1],[some (.box [.slc 1,.nils]),some (sI t.2)]),[],none⟩
 |_,_=>Ans.no
theorem Nph:Sound Tryz.prog 48 Nif:=by
 refine fn_sound' (C:=Nfv) (c:=bodyOf Tryz.f48) (cok_of tys_ok (allc N2q alln) (allc Tryz.call27 alln) (by kernel_rfl)) Tryz.func48 (by kernel_rfl) LL Ngx ?_
 intro avs H r H' h
 unfold Nif at h
 split at h
 ·refine Awp.cast ?_ ?_ ?_ (Nr7 _ h)<;>kernel_rfl
 ·simp[Ans.no,Ans.run] at h
def N61:Ann:=(.seq (.leaf [1]) (.seq (.seq (.leaf [1,3]) (.block (.loop (.seq (.seq (.leaf [1,3,8]) (.cond (.leaf [1,3]) (.leaf [1]))) (.seq (.block (.seq (.leaf [1,3,17]) (.cond (.seq (.leaf [2]) (.leaf [2])) (.leaf [1,3])))) (.leaf [1,3])))))) (.seq (.leaf [2]) (.leaf [2]))))
noncomputable def N5r:Ctx:=⟨tlook tys,olook [(27,N1b)],ioF,0,false,[]⟩
theorem Nzj (a:List Int) (b:List (List Int)):Link N5r LL (cq [0] (bodyOf Tryz.f9)) (aq [0] N61) ⟨mkE 27 0 [(0,.agg [dL a,.dat (.list (.list (.int .i64))) b])],[]⟩ (N9z) (fun(t:Unit)=>(Exit.normal,⟨mkE 27 0 [(1,.ptr 0 0)],[some (.box [dL a,.dat (.list (.list (.int .i64))) b])]⟩)):= .of fun K h=>by
 simp only[N9z,wpW] at h
 exact .of (by kernel_rfl) h
theorem Nud (a:List Int) (b:List (List Int)):Link N5r LL (cq [0,0,1] (bodyOf Tryz.f9)) (aq [0,0,1] N61) ⟨mkE 27 0 [(1,.ptr 0 0)],[some (.box [dL a,.dat (.list (.list (.int .i64))) b])]⟩ (N9h) (fun(t:Unit)=>(Exit.normal,⟨mkE 27 0 [(1,.ptr 0 0),(3,dI 0)],[some (.box [dL a,.dat (.list (.list (.int .i64))) b])]⟩)):= .of fun K h=>by
 simp only[N9h,wpW] at h
 exact .of (by kernel_rfl) h
theorem N162 (a:Int) (b:List Int) (c:List (List Int)):Link N5r LL (cq [0,0,1,0,1] (bodyOf Tryz.f9)) (aq [0,0,1,0,1] N61) ⟨mkE 27 0 [(1,.ptr 0 0),(3,dI a)],[some (.box [dL b,.dat (.list (.list (.int .i64))) c])]⟩ (N40 a c) (Sum.elim (fun(t:Int)=>(Exit.normal,⟨mkE 27 0 [(1,.ptr 0 0),(3,dI t)],[some (.box [dL b,.dat (.list (.list (.int .i64))) c])]⟩)) (Sum.elim (fun(t:Bool)=>(Exit.ret,⟨mkE 27 0 [(2,dB t)],[]⟩)) (fun(t:Unit)=>((Exit.exit 0),⟨mkE 27 0 [(1,.ptr 0 0)],[some (.box [dL b,.dat (.list (.list (.int .i64))) c])]⟩)))):= .of fun K h=>by
 simp only[N40,wpW] at h
 exact .of (by kernel_rfl) h
theorem Nvn (a:List Int) (b:List (List Int)):Link N5r LL (cq [1,1] (bodyOf Tryz.f9)) (aq [1,1] N61) ⟨mkE 27 0 [(1,.ptr 0 0)],[some (.box [dL a,.dat (.list (.list (.int .i64))) b])]⟩ (Nag a b) (fun(t:Bool)=>(Exit.ret,⟨mkE 27 0 [(2,dB t)],[]⟩)):= .of fun K h=>by
 simp only[Nag,wpW] at h
 exact .of (by kernel_rfl) h
theorem Nw8 (a:List Int) (b:List (List Int)) {r:AV} {H':Heap} (h:(Ans.mk _ (N14 a b) (fun(t:Bool)=>(dB t,[])) [] none).run=some (r,H')):Awp N5r LL (bodyOf Tryz.f9) N61 ⟨mkE 27 0 [(0,.agg [dL a,.dat (.list (.list (.int .i64))) b])],[]⟩ (Ret (tlook tys) Tryz.f9.results.toList r H'):=
 ret_of' (Link.cast (by kernel_rfl) (by kernel_rfl) (link_seq (Nzj a b) (fun(t:Unit)=>(link_seq2 (link_seq (Nud a b) (fun(t:Unit)=>(link_block (fin2:=(Sum.elim (fun(t:Unit)=>(Exit.normal,⟨mkE 27 0 [(1,.ptr 0 0)],[some (.box [dL a,.dat (.list (.list (.int .i64))) b])]⟩)) (fun(t:Bool)=>(Exit.ret,⟨mkE 27 0 [(2,dB t)],[]⟩)))) (id:=0) (link_loop (mk:=fun(s:Int)=>⟨mkE 27 0 [(1,.ptr 0 0),(3,dI s)],[some (.box [dL a,.dat (.list (.list (.int .i64))) b])]⟩) (fin:=(Sum.elim (fun(t:Bool)=>(Exit.ret,⟨mkE 27 0 [(2,dB t)],[]⟩)) (fun(t:Unit)=>((Exit.exit 0),⟨mkE 27 0 [(1,.ptr 0 0)],[some (.box [dL a,.dat (.list (.list (.int .i64))) b])]⟩)))) (by
 rintro(t|t) f K h
 ·exact h
 ·exact h) (fun s=>link_map (N162 s a b) (Sum.elim (fun(t:Int)=>Sum.inl t) (Sum.elim (fun(t:Bool)=>Sum.inr (Sum.inl t)) (fun(t:Unit)=>Sum.inr (Sum.inr t)))) (by
 rintro(t|t|t)
 ·kernel_rfl
 ·kernel_rfl
 ·kernel_rfl)) 0) (Sum.elim (fun(t:Bool)=>(Sum.inr t)) (fun(t:Unit)=>(Sum.inl ()))) (by
 rintro(t|t) K h
 ·exact Eq.mp (by kernel_rfl) h
 ·exact Eq.mp (by kernel_rfl) h)))) (fun(t:Unit)=>(Nvn a b)) (fun(t:Bool)=>t) (by
 rintro t
 ·kernel_rfl) (by
 rintro t f K h
 ·exact h))))) (by unfold N14;kernel_rfl) (by
 intro t
 exact ret_mk [dB t] (by kernel_rfl) (by kernel_rfl) (by kernel_rfl) (by kernel_rfl)) h
def Ncn:Fun:=fun avs H=>
 match avs,H with
 |[.agg [.dat (.list (.int .i64)) a,.dat (.list (.list (.int .i64))) b]],[]=>⟨_,N14 a b,fun(t:Bool)=>(dB t,[]),[],none⟩
 |_,_=>Ans.no
theorem Nke:Sound Tryz.prog 9 Ncn:=by
 refine fn_sound' (C:=N5r) (c:=bodyOf Tryz.f9) (cok_of tys_ok (allc N2q alln) (allc Tryz.call27 alln) (by kernel_rfl)) Tryz.func9 (by kernel_rfl) LL N61 ?_
 intro avs H r H' h
 unfold Ncn at h
 split at h
 ·refine Awp.cast ?_ ?_ ?_ (Nw8 _ _ h)<;>kernel_rfl
 ·simp[Ans.no,Ans.run] at h
def N1m:Ann:=(.seq (.leaf [1,2]) (.seq (.leaf [1,2,3]) (.seq (.seq (.leafF [⟨1,3,true,some 1,some (.int .i64)⟩] [1,2,3,4]) (.block (.loop (.seq (.seq (.leaf [1,2,3,4,14]) (.cond (.leaf [1,2,3,4]) (.leaf [2,3]))) (.seq (.block (.draw [8,2,100010] [0,1,2,3,4,5,6,7,8,9,10,11,12] [] [1,2,3,4])) (.leaf [1,2,3,4])))))) (.seq (.leaf [2]) (.leaf [2])))))
noncomputable def N64:Ctx:=⟨tlook tys,olook [],ioF,0,true,[]⟩
theorem N14s (a:List Int) (b:List (List Int)):Link N64 LL (Code.seq (cq [0] (bodyOf Tryz.f72)) (cq [0,1] (bodyOf Tryz.f72))) (Ann.seq (aq [0] N1m) (aq [0,1] N1m)) ⟨mkE 30 0 [(0,.agg [dL a,.dat (.list (.list (.int .i64))) b])],[]⟩ (N9i a) (fun(t:(List Int))=>(Exit.normal,⟨mkE 30 0 [(1,.ptr 0 0),(2,.ptr 1 0),(3,.ptr 2 0)],[some (.box [dL a,.dat (.list (.list (.int .i64))) b]),some (.box [.nils,.nils]),some (.box [.slc 3,.nils]),some (sI t)]⟩)):= .of fun K h=>by
 simp only[N9i,wpW] at h
 exact .of (by kernel_rfl) h
theorem Nvq (a:List Int) (b:List (List Int)) (c:List Int):Link N64 LL (cq [0,0,1,1] (bodyOf Tryz.f72)) (aq [0,0,1,1] N1m) ⟨mkE 30 0 [(1,.ptr 0 0),(2,.ptr 1 0),(3,.ptr 2 0)],[some (.box [dL a,.dat (.list (.list (.int .i64))) b]),some (.box [.nils,.nils]),some (.box [.slc 3,.nils]),some (sI c)]⟩ (N9o) (fun(t:Unit)=>(Exit.normal,⟨mkE 30 0 [(1,.ptr 0 0),(2,.ptr 1 0),(3,.ptr 2 0),(4,dI 0)],[some (.box [dL a,.dat (.list (.list (.int .i64))) b]),some (.box [.nils,.nils]),some (.box [.slc 3,.slc 4]),some (sI c),some (.nest (.int .i64) ([]:List (List Int)) 0 [])]⟩)):= .of fun K h=>by
 simp only[N9o,wpW] at h
 exact .of (by kernel_rfl) h
theorem Nwf (a:Int) (b:List Int) (c:List (List Int)) (d:List Int) (g:List (List Int)):Link N64 LL (cq [0,0,1,0,1,1] (bodyOf Tryz.f72)) (aq [0,0,1,0,1,1] N1m) ⟨mkE 30 0 [(1,.ptr 0 0),(2,.ptr 1 0),(3,.ptr 2 0),(4,dI a)],[some (.box [dL b,.dat (.list (.list (.int .i64))) c]),some (.box [.nils,.nils]),some (.box [.slc 3,.slc 4]),some (sI d),some (.nest (.int .i64) g 0 [])]⟩ (N5o a c g) (Sum.elim (fun(t:Int×(List (List Int)))=>(Exit.normal,⟨mkE 30 0 [(1,.ptr 0 0),(2,.ptr 1 0),(3,.ptr 2 0),(4,dI t.1)],[some (.box [dL b,.dat (.list (.list (.int .i64))) c]),some (.box [.nils,.nils]),some (.box [.slc 3,.slc 4]),some (sI d),some (.nest (.int .i64) t.2 0 [])]⟩)) (fun(t:(List (List Int)))=>((Exit.exit 0),⟨mkE 30 0 [(2,.ptr 0 0),(3,.ptr 1 0)],[some (.box [.nils,.nils]),some (.box [.slc 2,.slc 3]),some (sI d),some (.nest (.int .i64) t 0 [])]⟩))):= .of fun K h=>by
 simp only[N5o,wpW] at h
 exact .of (by kernel_rfl) h
theorem Nqr (a:List Int) (b:List (List Int)):Link N64 LL (cq [1,1,1] (bodyOf Tryz.f72)) (aq [1,1,1] N1m) ⟨mkE 30 0 [(2,.ptr 0 0),(3,.ptr 1 0)],[some (.box [.nils,.nils]),some (.box [.slc 2,.slc 3]),some (sI a),some (.nest (.int .i64) b 0 [])]⟩ (Nc0 a b) (fun(t:(List Int)×(List (List Int)))=>(Exit.ret,⟨mkE 30 0 [(2,.ptr 0 0)],[some (.box [.slc 1,.slc 2]),some (sI t.1),some (.nest (.int .i64) t.2 0 [])]⟩)):= .of fun K h=>by
 simp only[Nc0,wpW] at h
 exact .of (by kernel_rfl) h
theorem N18a (b:List Int) (d:List (List Int)) {r:AV} {H':Heap} (h:(Ans.mk _ (N42 b d) (fun(t:(List Int)×(List (List Int)))=>(.agg [.slc 1,.slc 2],[some (.box [.slc 1,.slc 2]),some (sI t.1),some (.nest (.int .i64) t.2 0 [])])) [] none).run=some (r,H')):Awp N64 LL (bodyOf Tryz.f72) N1m ⟨mkE 30 0 [(0,.agg [dL b,.dat (.list (.list (.int .i64))) d])],[]⟩ (Ret (tlook tys) Tryz.f72.results.toList r H'):=
 ret_of' (Link.cast (by kernel_rfl) (by kernel_rfl) (link_group (c:=(cq [0,1] (bodyOf Tryz.f72))) (a:=(aq [0,1] N1m)) [(cq [0] (bodyOf Tryz.f72))] [(aq [0] N1m)] rfl (link_seq (N14s b d) (fun(t:(List Int))=>(link_seq (link_seq (Nvq b d t) (fun(t49:Unit)=>(link_block (fin2:=(fun(t49:(List (List Int)))=>(Exit.normal,⟨mkE 30 0 [(2,.ptr 0 0),(3,.ptr 1 0)],[some (.box [.nils,.nils]),some (.box [.slc 2,.slc 3]),some (sI t),some (.nest (.int .i64) t49 0 [])]⟩))) (id:=0) (link_loop (mk:=fun(s:Int×(List (List Int)))=>⟨mkE 30 0 [(1,.ptr 0 0),(2,.ptr 1 0),(3,.ptr 2 0),(4,dI s.1)],[some (.box [dL b,.dat (.list (.list (.int .i64))) d]),some (.box [.nils,.nils]),some (.box [.slc 3,.slc 4]),some (sI t),some (.nest (.int .i64) s.2 0 [])]⟩) (fin:=(fun(t49:(List (List Int)))=>((Exit.exit 0),⟨mkE 30 0 [(2,.ptr 0 0),(3,.ptr 1 0)],[some (.box [.nils,.nils]),some (.box [.slc 2,.slc 3]),some (sI t),some (.nest (.int .i64) t49 0 [])]⟩))) (by
 rintro t49 f K h
 ·exact h) (fun s=>link_map (Nwf s.1 b d t s.2) (Sum.elim (fun(t49:Int×(List (List Int)))=>Sum.inl (t49.1,t49.2)) (fun(t49:(List (List Int)))=>Sum.inr t49)) (by
 rintro(t49|t49)
 ·kernel_rfl
 ·kernel_rfl)) (0,([]:List (List Int)))) (fun(t49:(List (List Int)))=>t49) (by
 rintro t49 K h
 ·exact Eq.mp (by kernel_rfl) h)))) (fun(t49:(List (List Int)))=>(Nqr t t49))))))) (by unfold N42;kernel_rfl) (by
 intro t
 exact ret_mk [.agg [.slc 1,.slc 2]] (by kernel_rfl) (by kernel_rfl) (by kernel_rfl) (by kernel_rfl)) h
def Ng4:Fun:=fun avs H=>
 match avs,H with
 |[.agg [.dat (.list (.int .i64)) a,.dat (.list (.list (.int .i64))) b]],[]=>⟨_,N42 a b,fun(t:(List Int)×(List (List Int)))=>(.agg [.slc 1,.slc 2],[some (.box [.slc 1,.slc 2]),some (sI t.1),some (.nest (.int .i64) t.2 0 [])]),[],none⟩
 |_,_=>Ans.no
theorem Nzx:Sound Tryz.prog 72 Ng4:=by
 refine fn_sound' (C:=N64) (c:=bodyOf Tryz.f72) (cok_of tys_ok (alln) (alln) (by kernel_rfl)) Tryz.func72 (by kernel_rfl) LL N1m ?_
 intro avs H r H' h
 unfold Ng4 at h
 split at h
 ·refine Awp.cast ?_ ?_ ?_ (N18a _ _ h)<;>kernel_rfl
 ·simp[Ans.no,Ans.run] at h
def Nv:Ann:=(.seq (.leaf [0]) (.seq (.leaf [0,3]) (.seq (.leaf [0,3,4]) (.seq (.seq (.leaf [0,3,4,5]) (.block (.loop (.seq (.seq (.leaf [0,3,4,5,16]) (.cond (.leaf [0,3,4,5]) (.leaf [3]))) (.seq (.block (.seq (.leaf [0,3,4,5,23]) (.cond (.leaf [0,3,4,5]) (.leaf [0,3,4,5])))) (.leaf [0,3,4,5])))))) (.seq (.leaf [2]) (.leaf [2]))))))
noncomputable def N68:Ctx:=⟨tlook tys,olook [(27,N1b)],ioF,0,false,[]⟩
theorem N11j (a:List Int):Link N68 LL (Code.seq (cq [0] (bodyOf Tryz.f113)) (Code.seq (cq [0,1] (bodyOf Tryz.f113)) (cq [0,1,1] (bodyOf Tryz.f113)))) (Ann.seq (aq [0] Nv) (Ann.seq (aq [0,1] Nv) (aq [0,1,1] Nv))) ⟨mkE 38 0 [(0,dL a)],[]⟩ (Naf a) (fun(t:Int)=>(Exit.normal,⟨mkE 38 0 [(0,dL a),(3,.slc 0),(4,dI t)],[some (sI ([]:List Int))]⟩)):= .of fun K h=>by
 simp only[Naf,wpW] at h
 exact .of (by kernel_rfl) h
theorem Nqh (a:List Int) (b:Int):Link N68 LL (cq [0,0,1,1,1] (bodyOf Tryz.f113)) (aq [0,0,1,1,1] Nv) ⟨mkE 38 0 [(0,dL a),(3,.slc 0),(4,dI b)],[some (sI ([]:List Int))]⟩ (Nbr b) (fun(t:Int)=>(Exit.normal,⟨mkE 38 0 [(0,dL a),(3,.slc 0),(4,dI b),(5,dI t)],[some (sI ([]:List Int))]⟩)):= .of fun K h=>by
 simp only[Nbr,wpW] at h
 exact .of (by kernel_rfl) h
theorem Npl (a:List Int) (b c:Int) (d:List Int):Link N68 LL (cq [0,0,1,0,1,1,1] (bodyOf Tryz.f113)) (aq [0,0,1,0,1,1,1] Nv) ⟨mkE 38 0 [(0,dL a),(3,.slc 0),(4,dI b),(5,dI c)],[some (sI d)]⟩ (N2r a b c d) (Sum.elim (fun(t:Int×(List Int))=>(Exit.normal,⟨mkE 38 0 [(0,dL a),(3,.slc 0),(4,dI b),(5,dI t.1)],[some (sI t.2)]⟩)) (fun(t:(List Int))=>((Exit.exit 0),⟨mkE 38 0 [(3,.slc 0)],[some (sI t)]⟩))):= .of fun K h=>by
 simp only[N2r,wpW] at h
 exact .of (by kernel_rfl) h
theorem Nvr (a:List Int):Link N68 LL (cq [1,1,1,1] (bodyOf Tryz.f113)) (aq [1,1,1,1] Nv) ⟨mkE 38 0 [(3,.slc 0)],[some (sI a)]⟩ (Nad a) (fun(t:(List Int))=>(Exit.ret,⟨mkE 38 0 [(2,.slc 0)],[some (sI t)]⟩)):= .of fun K h=>by
 simp only[Nad,wpW] at h
 exact .of (by kernel_rfl) h
theorem Nr1 (b:List Int) {r:AV} {H':Heap} (h:(Ans.mk _ (N1i b) (fun(t:(List Int))=>(.slc 0,[some (sI t)])) [] none).run=some (r,H')):Awp N68 LL (bodyOf Tryz.f113) Nv ⟨mkE 38 0 [(0,dL b)],[]⟩ (Ret (tlook tys) Tryz.f113.results.toList r H'):=
 ret_of' (Link.cast (by kernel_rfl) (by kernel_rfl) (link_group (c:=(cq [0,1,1] (bodyOf Tryz.f113))) (a:=(aq [0,1,1] Nv)) [(cq [0] (bodyOf Tryz.f113)),(cq [0,1] (bodyOf Tryz.f113))] [(aq [0] Nv),(aq [0,1] Nv)] rfl (link_seq (N11j b) (fun(t:Int)=>(link_seq (link_seq (Nqh b t) (fun(t50:Int)=>(link_block (fin2:=(fun(t28:(List Int))=>(Exit.normal,⟨mkE 38 0 [(3,.slc 0)],[some (sI t28)]⟩))) (id:=0) (link_loop (mk:=fun(s:Int×(List Int))=>⟨mkE 38 0 [(0,dL b),(3,.slc 0),(4,dI t),(5,dI s.1)],[some (sI s.2)]⟩) (fin:=(fun(t28:(List Int))=>((Exit.exit 0),⟨mkE 38 0 [(3,.slc 0)],[some (sI t28)]⟩))) (by
 rintro t28 f K h
 ·exact h) (fun s=>link_map (Npl b t s.1 s.2) (Sum.elim (fun(t28:Int×(List Int))=>Sum.inl (t28.1,t28.2)) (fun(t28:(List Int))=>Sum.inr t28)) (by
 rintro(t28|t28)
 ·kernel_rfl
 ·kernel_rfl)) (t50,([]:List Int))) (fun(t28:(List Int))=>t28) (by
 rintro t28 K h
 ·exact Eq.mp (by kernel_rfl) h)))) (fun(t50:(List Int))=>(Nvr t50))))))) (by unfold N1i;kernel_rfl) (by
 intro t
 exact ret_mk [.slc 0] (by kernel_rfl) (by kernel_rfl) (by kernel_rfl) (by kernel_rfl)) h
def Nha:Fun:=fun avs H=>
 match avs,H with
 |[.dat (.list (.int .i64)) a],[]=>⟨_,N1i a,fun(t:(List Int))=>(.slc 0,[some (sI t)]),[],none⟩
 |_,_=>Ans.no
theorem N189:Sound Tryz.prog 113 Nha:=by
 refine fn_sound' (C:=N68) (c:=bodyOf Tryz.f113) (cok_of tys_ok (allc N2q alln) (allc Tryz.call27 alln) (by kernel_rfl)) Tryz.func113 (by kernel_rfl) LL Nv ?_
 intro avs H r H' h
 unfold Nha at h
 split at h
 ·refine Awp.cast ?_ ?_ ?_ (Nr1 _ h)<;>kernel_rfl
 ·simp[Ans.no,Ans.run] at h
def N4j:Ann:=(.seq (.leaf [0]) (.seq (.seq (.leaf [0,3]) (.block (.loop (.seq (.seq (.leaf [0,3,11]) (.cond (.leaf [0,3]) (.leaf []))) (.seq (.block (.seq (.leaf [0,3,18]) (.cond (.seq (.leaf [2]) (.leaf [2])) (.leaf [0,3])))) (.leaf [0,3])))))) (.seq (.leaf [2]) (.leaf [2]))))
noncomputable def N5z:Ctx:=⟨tlook tys,olook [(27,N1b)],ioF,0,false,[]⟩
theorem N13n (a:List Int):Link N5z LL (cq [0] (bodyOf Tryz.f186)) (aq [0] N4j) ⟨mkE 21 0 [(0,dL a)],[]⟩ (N9l) (fun(t:Unit)=>(Exit.normal,⟨mkE 21 0 [(0,dL a)],[]⟩)):= .of fun K h=>by
 simp only[N9l,wpW] at h
 exact .of (by kernel_rfl) h
theorem Nwn (a:List Int):Link N5z LL (cq [0,0,1] (bodyOf Tryz.f186)) (aq [0,0,1] N4j) ⟨mkE 21 0 [(0,dL a)],[]⟩ (Na1) (fun(t:Unit)=>(Exit.normal,⟨mkE 21 0 [(0,dL a),(3,dI 0)],[]⟩)):= .of fun K h=>by
 simp only[Na1,wpW] at h
 exact .of (by kernel_rfl) h
theorem Nyd (a:List Int) (b:Int):Link N5z LL (cq [0,0,1,0,1] (bodyOf Tryz.f186)) (aq [0,0,1,0,1] N4j) ⟨mkE 21 0 [(0,dL a),(3,dI b)],[]⟩ (N39 a b) (Sum.elim (fun(t:Int)=>(Exit.normal,⟨mkE 21 0 [(0,dL a),(3,dI t)],[]⟩)) (Sum.elim (fun(t:Int)=>(Exit.ret,⟨mkE 21 0 [(2,dI t)],[]⟩)) (fun(t:Unit)=>((Exit.exit 0),⟨mkE 21 0 [],[]⟩)))):= .of fun K h=>by
 simp only[N39,wpW] at h
 exact .of (by kernel_rfl) h
theorem N186:Link N5z LL (cq [1,1] (bodyOf Tryz.f186)) (aq [1,1] N4j) ⟨mkE 21 0 [],[]⟩ (Nbx) (fun(t:Int)=>(Exit.ret,⟨mkE 21 0 [(2,dI t)],[]⟩)):= .of fun K h=>by
 simp only[Nbx,wpW] at h
 exact .of (by kernel_rfl) h
theorem N17i (a:List Int) {r:AV} {H':Heap} (h:(Ans.mk _ (N4q a) (fun(t:Int)=>(dI t,[])) [] none).run=some (r,H')):Awp N5z LL (bodyOf Tryz.f186) N4j ⟨mkE 21 0 [(0,dL a)],[]⟩ (Ret (tlook tys) Tryz.f186.results.toList r H'):=
 ret_of' (Link.cast (by kernel_rfl) (by kernel_rfl) (link_seq (N13n a) (fun(t:Unit)=>(link_seq2 (link_seq (Nwn a) (fun(t:Unit)=>(link_block (fin2:=(Sum.elim (fun(t:Unit)=>(Exit.normal,⟨mkE 21 0 [],[]⟩)) (fun(t:Int)=>(Exit.ret,⟨mkE 21 0 [(2,dI t)],[]⟩)))) (id:=0) (link_loop (mk:=fun(s:Int)=>⟨mkE 21 0 [(0,dL a),(3,dI s)],[]⟩) (fin:=(Sum.elim (fun(t:Int)=>(Exit.ret,⟨mkE 21 0 [(2,dI t)],[]⟩)) (fun(t:Unit)=>((Exit.exit 0),⟨mkE 21 0 [],[]⟩)))) (by
 rintro(t|t) f K h
 ·exact h
 ·exact h) (fun s=>link_map (Nyd a s) (Sum.elim (fun(t:Int)=>Sum.inl t) (Sum.elim (fun(t:Int)=>Sum.inr (Sum.inl t)) (fun(t:Unit)=>Sum.inr (Sum.inr t)))) (by
 rintro(t|t|t)
 ·kernel_rfl
 ·kernel_rfl
 ·kernel_rfl)) 0) (Sum.elim (fun(t:Int)=>(Sum.inr t)) (fun(t:Unit)=>(Sum.inl ()))) (by
 rintro(t|t) K h
 ·exact Eq.mp (by kernel_rfl) h
 ·exact Eq.mp (by kernel_rfl) h)))) (fun(t:Unit)=>(N186)) (fun(t:Int)=>t) (by
 rintro t
 ·kernel_rfl) (by
 rintro t f K h
 ·exact h))))) (by unfold N4q;kernel_rfl) (by
 intro t
 exact ret_mk [dI t] (by kernel_rfl) (by kernel_rfl) (by kernel_rfl) (by kernel_rfl)) h
def Nh1:Fun:=fun avs H=>
 match avs,H with
 |[.dat (.list (.int .i64)) a],[]=>⟨_,N4q a,fun(t:Int)=>(dI t,[]),[],none⟩
 |_,_=>Ans.no
theorem N143:Sound Tryz.prog 186 Nh1:=by
 refine fn_sound' (C:=N5z) (c:=bodyOf Tryz.f186) (cok_of tys_ok (allc N2q alln) (allc Tryz.call27 alln) (by kernel_rfl)) Tryz.func186 (by kernel_rfl) LL N4j ?_
 intro avs H r H' h
 unfold Nh1 at h
 split at h
 ·refine Awp.cast ?_ ?_ ?_ (N17i _ h)<;>kernel_rfl
 ·simp[Ans.no,Ans.run] at h
def Nn:Ann:=(.seq (.leaf [0,1]) (.seq (.leaf [0,1,5]) (.seq (.seq (.leaf [0,1,5,6]) (.block (.loop (.seq (.seq (.leaf [0,1,5,6,11]) (.cond (.leaf [0,1,5,6]) (.leaf [0,1,5]))) (.seq (.block (.seq (.leaf [0,1,5,6,20]) (.cond (.leaf [0,1,5,6]) (.leaf [0,1,5,6])))) (.leaf [0,1,5,6])))))) (.seq (.leaf [0,1,5]) (.seq (.seq (.leaf [0,1,5,7]) (.block (.loop (.seq (.seq (.leaf [0,1,5,7,35]) (.cond (.leaf [0,1,5,7]) (.leaf [5]))) (.seq (.block (.seq (.leaf [0,1,5,7,44]) (.cond (.leaf [0,1,5,7]) (.leaf [0,1,5,7])))) (.leaf [0,1,5,7])))))) (.seq (.leaf [4]) (.leaf [4])))))))
def N2c (n:Nat):Fun:=fun avs H=>
 match avs,H with
 |[.dat (.list (.int .i64)) a,.dat (.int .i64) b],[]=>⟨_,Nc n a b,fun(t:(List Int))=>(.slc 0,[some (sI t)]),[],none⟩
 |_,_=>Ans.no
noncomputable def N1k (n:Nat):Ctx:=⟨tlook tys,olook [(185,N2c n)],ioF,0,false,[]⟩
theorem N13q (n:Nat) (a:List Int) (b:Int):Link (N1k n) LL (Code.seq (cq [0] (bodyOf Tryz.f185)) (cq [0,1] (bodyOf Tryz.f185))) (Ann.seq (aq [0] Nn) (aq [0,1] Nn)) ⟨mkE 51 0 [(0,dL a),(1,dI b)],[]⟩ (Nb9 (Nc n)) (fun(t:Unit)=>(Exit.normal,⟨mkE 51 0 [(0,dL a),(1,dI b),(5,.slc 0)],[some (sI ([]:List Int))]⟩)):= .of fun K h=>by
 simp only[Nb9,wpW] at h
 exact .of (by kernel_rfl) h
theorem Nqs (n:Nat) (a:List Int) (b:Int):Link (N1k n) LL (cq [0,0,1,1] (bodyOf Tryz.f185)) (aq [0,0,1,1] Nn) ⟨mkE 51 0 [(0,dL a),(1,dI b),(5,.slc 0)],[some (sI ([]:List Int))]⟩ (N82 (Nc n)) (fun(t:Unit)=>(Exit.normal,⟨mkE 51 0 [(0,dL a),(1,dI b),(5,.slc 0),(6,dI 1)],[some (sI ([]:List Int))]⟩)):= .of fun K h=>by
 simp only[N82,wpW] at h
 exact .of (by kernel_rfl) h
theorem N17k (n:Nat) (a:List Int) (b c:Int) (d:List Int):Link (N1k n) LL (cq [0,0,1,0,1,1] (bodyOf Tryz.f185)) (aq [0,0,1,0,1,1] Nn) ⟨mkE 51 0 [(0,dL a),(1,dI b),(5,.slc 0),(6,dI c)],[some (sI d)]⟩ (N5t (Nc n) a b c d) (Sum.elim (fun(t:Int×(List Int))=>(Exit.normal,⟨mkE 51 0 [(0,dL a),(1,dI b),(5,.slc 0),(6,dI t.1)],[some (sI t.2)]⟩)) (fun(t:(List Int))=>((Exit.exit 0),⟨mkE 51 0 [(0,dL a),(1,dI b),(5,.slc 0)],[some (sI t)]⟩))):= .of fun K h=>by
 simp only[N5t,wpW] at h
 exact .of (by kernel_rfl) h
theorem Ns8 (n:Nat) (a:List Int) (b:Int) (c:List Int):Link (N1k n) LL (cq [0,1,1,1] (bodyOf Tryz.f185)) (aq [0,1,1,1] Nn) ⟨mkE 51 0 [(0,dL a),(1,dI b),(5,.slc 0)],[some (sI c)]⟩ (Nbv (Nc n) b c) (fun(t:(List Int))=>(Exit.normal,⟨mkE 51 0 [(0,dL a),(1,dI b),(5,.slc 0)],[some (sI t)]⟩)):= .of fun K h=>by
 simp only[Nbv,wpW] at h
 exact .of (by kernel_rfl) h
theorem Nz1 (n:Nat) (a:List Int) (b:Int) (c:List Int):Link (N1k n) LL (cq [0,0,1,1,1,1] (bodyOf Tryz.f185)) (aq [0,0,1,1,1,1] Nn) ⟨mkE 51 0 [(0,dL a),(1,dI b),(5,.slc 0)],[some (sI c)]⟩ (Nci (Nc n) b) (fun(t:Int)=>(Exit.normal,⟨mkE 51 0 [(0,dL a),(1,dI b),(5,.slc 0),(7,dI t)],[some (sI c)]⟩)):= .of fun K h=>by
 simp only[Nci,wpW] at h
 exact .of (by kernel_rfl) h
theorem N130 (n:Nat) (a:List Int) (b c:Int) (d:List Int):Link (N1k n) LL (cq [0,0,1,0,1,1,1,1] (bodyOf Tryz.f185)) (aq [0,0,1,0,1,1,1,1] Nn) ⟨mkE 51 0 [(0,dL a),(1,dI b),(5,.slc 0),(7,dI c)],[some (sI d)]⟩ (N56 (Nc n) a b c d) (Sum.elim (fun(t:Int×(List Int))=>(Exit.normal,⟨mkE 51 0 [(0,dL a),(1,dI b),(5,.slc 0),(7,dI t.1)],[some (sI t.2)]⟩)) (fun(t:(List Int))=>((Exit.exit 2),⟨mkE 51 0 [(5,.slc 0)],[some (sI t)]⟩))):= .of fun K h=>by
 simp only[N56,wpW] at h
 exact .of (by kernel_rfl) h
theorem Nv6 (n:Nat) (a:List Int):Link (N1k n) LL (cq [1,1,1,1,1] (bodyOf Tryz.f185)) (aq [1,1,1,1,1] Nn) ⟨mkE 51 0 [(5,.slc 0)],[some (sI a)]⟩ (N9s (Nc n) a) (fun(t:(List Int))=>(Exit.ret,⟨mkE 51 0 [(4,.slc 0)],[some (sI t)]⟩)):= .of fun K h=>by
 simp only[N9s,wpW] at h
 exact .of (by kernel_rfl) h
theorem Nwg (n:Nat) (b:List Int) (d:Int) {r:AV} {H':Heap} (h:(Ans.mk _ (Nc (n+1) b d) (fun(t:(List Int))=>(.slc 0,[some (sI t)])) [] none).run=some (r,H')):Awp (N1k n) LL (bodyOf Tryz.f185) Nn ⟨mkE 51 0 [(0,dL b),(1,dI d)],[]⟩ (Ret (tlook tys) Tryz.f185.results.toList r H'):=
 ret_of' (Link.cast (by kernel_rfl) (by kernel_rfl) (link_group (c:=(cq [0,1] (bodyOf Tryz.f185))) (a:=(aq [0,1] Nn)) [(cq [0] (bodyOf Tryz.f185))] [(aq [0] Nn)] rfl (link_seq (N13q n b d) (fun(t:Unit)=>(link_seq (link_seq (Nqs n b d) (fun(t:Unit)=>(link_block (fin2:=(fun(t:(List Int))=>(Exit.normal,⟨mkE 51 0 [(0,dL b),(1,dI d),(5,.slc 0)],[some (sI t)]⟩))) (id:=0) (link_loop (mk:=fun(s:Int×(List Int))=>⟨mkE 51 0 [(0,dL b),(1,dI d),(5,.slc 0),(6,dI s.1)],[some (sI s.2)]⟩) (fin:=(fun(t:(List Int))=>((Exit.exit 0),⟨mkE 51 0 [(0,dL b),(1,dI d),(5,.slc 0)],[some (sI t)]⟩))) (by
 rintro t f K h
 ·exact h) (fun s=>link_map (N17k n b d s.1 s.2) (Sum.elim (fun(t:Int×(List Int))=>Sum.inl (t.1,t.2)) (fun(t:(List Int))=>Sum.inr t)) (by
 rintro(t|t)
 ·kernel_rfl
 ·kernel_rfl)) (1,([]:List Int))) (fun(t:(List Int))=>t) (by
 rintro t K h
 ·exact Eq.mp (by kernel_rfl) h)))) (fun(t:(List Int))=>(link_seq (Ns8 n b d t) (fun(t57:(List Int))=>(link_seq (link_seq (Nz1 n b d t57) (fun(t51:Int)=>(link_block (fin2:=(fun(t29:(List Int))=>(Exit.normal,⟨mkE 51 0 [(5,.slc 0)],[some (sI t29)]⟩))) (id:=2) (link_loop (mk:=fun(s:Int×(List Int))=>⟨mkE 51 0 [(0,dL b),(1,dI d),(5,.slc 0),(7,dI s.1)],[some (sI s.2)]⟩) (fin:=(fun(t29:(List Int))=>((Exit.exit 2),⟨mkE 51 0 [(5,.slc 0)],[some (sI t29)]⟩))) (by
 rintro t29 f K h
 ·exact h) (fun s=>link_map (N130 n b d s.1 s.2) (Sum.elim (fun(t29:Int×(List Int))=>Sum.inl (t29.1,t29.2)) (fun(t29:(List Int))=>Sum.inr t29)) (by
 rintro(t29|t29)
 ·kernel_rfl
 ·kernel_rfl)) (t51,t57)) (fun(t29:(List Int))=>t29) (by
 rintro t29 K h
 ·exact Eq.mp (by kernel_rfl) h)))) (fun(t51:(List Int))=>(Nv6 n t51))))))))))) (by(show _=_);kernel_rfl) (by
 intro t
 exact ret_mk [.slc 0] (by kernel_rfl) (by kernel_rfl) (by kernel_rfl) (by kernel_rfl)) h
theorem N15v (n:Nat) (h185:Sound Tryz.prog 185 (N2c n)):Sound Tryz.prog 185 (N2c (n+1)):=by
 refine fn_sound' (C:=N1k n) (c:=bodyOf Tryz.f185) (cok_of tys_ok (allc h185 alln) (allc Tryz.call185 alln) (by kernel_rfl)) Tryz.func185 (by kernel_rfl) LL Nn ?_
 intro avs H r H' h
 unfold N2c at h
 split at h
 ·refine Awp.cast ?_ ?_ ?_ (Nwg n _ _ h)<;>kernel_rfl
 ·simp[Ans.no,Ans.run] at h
theorem Nzv:Sound Tryz.prog 185 (N2c 0):=by
 intro avs H r H' h
 unfold N2c at h
 split at h
 ·simp[Nc,N43,Ans.run] at h
 ·simp[Ans.no,Ans.run] at h
theorem Nla: ∀n,Sound Tryz.prog 185 (N2c n)
 |0=>Nzv
 |n+1=>by
  have h185:=Nla n
  exact N15v n h185
def Nch:Fun:=fun avs H=>
 match avs,H with
 |[.dat (.list (.int .i64)) a,.dat (.int .i64) b],[]=>⟨_,N7b a b,fun(t:(List Int))=>(.slc 0,[some (sI t)]),[],none⟩
 |_,_=>Ans.no
theorem N102:Sound Tryz.prog 185 Nch:=by
 have e:Nch=N2c RR:=by
  funext avs H
  unfold Nch N2c
  split<;>first|rfl|(simp only[N7b])
 rw[e]
 exact(Nla RR)
def Nhq:Ann:=(.seq (.leaf [0]) (.seq (.seq (.leaf [0,5]) (.cond (.seq (.leaf [2]) (.leaf [2])) (.leaf [0]))) (.seq (.leaf [2]) (.leaf [2]))))
noncomputable def Nir:Ctx:=⟨tlook tys,olook [(27,N1b),(186,Nh1),(185,Nch)],ioF,0,false,[]⟩
theorem N17t (a:List Int):Link Nir LL (bodyOf Tryz.f149) Nhq ⟨mkE 11 0 [(0,dL a)],[]⟩ (Na9 a) (fun(t:(List Int))=>(Exit.ret,⟨mkE 11 0 [(2,.slc 0)],[some (sI t)]⟩)):= .of fun K h=>by
 simp only[Na9,wpW] at h
 exact .of (by kernel_rfl) h
theorem Nsm (a:List Int) {r:AV} {H':Heap} (h:(Ans.mk _ (N4i a) (fun(t:(List Int))=>(.slc 0,[some (sI t)])) [] none).run=some (r,H')):Awp Nir LL (bodyOf Tryz.f149) Nhq ⟨mkE 11 0 [(0,dL a)],[]⟩ (Ret (tlook tys) Tryz.f149.results.toList r H'):=
 ret_of' (N17t a) (by unfold N4i;kernel_rfl) (by
 intro t
 exact ret_mk [.slc 0] (by kernel_rfl) (by kernel_rfl) (by kernel_rfl) (by kernel_rfl)) h
def Ngp:Fun:=fun avs H=>
 match avs,H with
 |[.dat (.list (.int .i64)) a],[]=>⟨_,N4i a,fun(t:(List Int))=>(.slc 0,[some (sI t)]),[],none⟩
 |_,_=>Ans.no
theorem Nxr:Sound Tryz.prog 149 Ngp:=by
 refine fn_sound' (C:=Nir) (c:=bodyOf Tryz.f149) (cok_of tys_ok (allc N2q (allc N143 (allc N102 alln))) (allc Tryz.call27 (allc Tryz.call186 (allc Tryz.call185 alln))) (by kernel_rfl)) Tryz.func149 (by kernel_rfl) LL Nhq ?_
 intro avs H r H' h
 unfold Ngp at h
 split at h
 ·refine Awp.cast ?_ ?_ ?_ (Nsm _ h)<;>kernel_rfl
 ·simp[Ans.no,Ans.run] at h
def Nh6:Ann:=(.seq (.leaf [0]) (.seq (.leaf [3]) (.seq (.leaf [2]) (.leaf [2]))))
noncomputable def Nep:Ctx:=⟨tlook tys,olook [(149,Ngp),(65,N9u)],ioF,0,false,[]⟩
theorem Nrm (a:List Int):Link Nep LL (bodyOf Tryz.f114) Nh6 ⟨mkE 13 0 [(0,dL a)],[]⟩ (N8p a) (fun(t:(List Int))=>(Exit.ret,⟨mkE 13 0 [(2,.slc 0)],[some (sI t)]⟩)):= .of fun K h=>by
 simp only[N8p,wpW] at h
 exact .of (by kernel_rfl) h
theorem Nxe (a:List Int) {r:AV} {H':Heap} (h:(Ans.mk _ (N2s a) (fun(t:(List Int))=>(.slc 0,[some (sI t)])) [] none).run=some (r,H')):Awp Nep LL (bodyOf Tryz.f114) Nh6 ⟨mkE 13 0 [(0,dL a)],[]⟩ (Ret (tlook tys) Tryz.f114.results.toList r H'):=
 ret_of' (Nrm a) (by unfold N2s;kernel_rfl) (by
 intro t
 exact ret_mk [.slc 0] (by kernel_rfl) (by kernel_rfl) (by kernel_rfl) (by kernel_rfl)) h
def Nfe:Fun:=fun avs H=>
 match avs,H with
 |[.dat (.list (.int .i64)) a],[]=>⟨_,N2s a,fun(t:(List Int))=>(.slc 0,[some (sI t)]),[],none⟩
 |_,_=>Ans.no
theorem Nqq:Sound Tryz.prog 114 Nfe:=by
 refine fn_sound' (C:=Nep) (c:=bodyOf Tryz.f114) (cok_of tys_ok (allc Nxr (allc Nlu alln)) (allc Tryz.call149 (allc Tryz.call65 alln)) (by kernel_rfl)) Tryz.func114 (by kernel_rfl) LL Nh6 ?_
 intro avs H r H' h
 unfold Nfe at h
 split at h
 ·refine Awp.cast ?_ ?_ ?_ (Nxe _ h)<;>kernel_rfl
 ·simp[Ans.no,Ans.run] at h
end Go.Rv
