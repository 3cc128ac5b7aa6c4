/-
  The checked code answers as the plain functions do; written by program. Conditions: none.
-/
import Derived.Test.YtihgceegapfngadGreatDoorGFnReadJournal
import Derived.Test.YtihgceegapfngadGreatDoorFB
import Derived.Test.YtihgceegapfngadGreatDoorFB
import Derived.Test.YtihgceegapfngadGreatDoorFB
import Derived.Test.YtihgceegapfngadGreatDoorProg
set_option linter.unusedVariables false
set_option linter.unusedSimpArgs false
set_option linter.defProp false
set_option maxRecDepth 100000
namespace Go.Rv
open Go.Proofs
theorem ty3:TIOk Tryz.prog 3 ⟨.int .i64,1,8,some (.int .i64),[.int .i64 0],false⟩:=⟨⟨infoOf (Tryz.prog.info? 3),by kernel_rfl,by kernel_rfl,by kernel_rfl,.int .i64 0,by kernel_rfl,by kernel_rfl⟩,(by kernel_rfl:Tryz.prog.underlying 3=some (.int .i64)),no_eq⟩
theorem ty4:TIOk Tryz.prog 4 ⟨.bool,1,1,some .bool,[.bool false],false⟩:=⟨⟨infoOf (Tryz.prog.info? 4),by kernel_rfl,by kernel_rfl,by kernel_rfl,.bool false,by kernel_rfl,by kernel_rfl⟩,(by kernel_rfl:Tryz.prog.underlying 4=some .bool),no_eq⟩
theorem ty5:TIOk Tryz.prog 5 ⟨.int .u8,1,1,some (.int .u8),[.int .u8 0],false⟩:=⟨⟨infoOf (Tryz.prog.info? 5),by kernel_rfl,by kernel_rfl,by kernel_rfl,.int .u8 0,by kernel_rfl,by kernel_rfl⟩,(by kernel_rfl:Tryz.prog.underlying 5=some (.int .u8)),no_eq⟩
theorem ty9:TIOk Tryz.prog 9 ⟨.str,1,16,some .str,[.string ByteArray.empty],false⟩:=⟨⟨infoOf (Tryz.prog.info? 9),by kernel_rfl,by kernel_rfl,by kernel_rfl,.string ByteArray.empty,by kernel_rfl,by kernel_rfl⟩,(by kernel_rfl:Tryz.prog.underlying 9=some .string),no_eq⟩
theorem ty22:TIOk Tryz.prog 22 ⟨.slice 5,1,24,some (.list (.int .u8)),[.slice none 0 0],false⟩:=⟨⟨infoOf (Tryz.prog.info? 22),by kernel_rfl,by kernel_rfl,by kernel_rfl,.slice none 0 0,by kernel_rfl,by kernel_rfl⟩,(by kernel_rfl:Tryz.prog.underlying 22=some (.slice 5)),no_eq⟩
theorem ty24:TIOk Tryz.prog 24 ⟨.slice 39,1,24,some (.list (.pair (.int .i64) (.pair (.int .i64) (.pair (.int .i64) .unit)))),[.slice none 0 0],false⟩:=⟨⟨infoOf (Tryz.prog.info? 24),by kernel_rfl,by kernel_rfl,by kernel_rfl,.slice none 0 0,by kernel_rfl,by kernel_rfl⟩,(by kernel_rfl:Tryz.prog.underlying 24=some (.slice 39)),no_eq⟩
theorem ty28:TIOk Tryz.prog 28 ⟨.slice 3,1,24,some (.list (.int .i64)),[.slice none 0 0],false⟩:=⟨⟨infoOf (Tryz.prog.info? 28),by kernel_rfl,by kernel_rfl,by kernel_rfl,.slice none 0 0,by kernel_rfl,by kernel_rfl⟩,(by kernel_rfl:Tryz.prog.underlying 28=some (.slice 3)),no_eq⟩
theorem ty29:TIOk Tryz.prog 29 ⟨.slice 28,1,24,some (.list (.list (.int .i64))),[.slice none 0 0],false⟩:=⟨⟨infoOf (Tryz.prog.info? 29),by kernel_rfl,by kernel_rfl,by kernel_rfl,.slice none 0 0,by kernel_rfl,by kernel_rfl⟩,(by kernel_rfl:Tryz.prog.underlying 29=some (.slice 28)),no_eq⟩
theorem ty31:TIOk Tryz.prog 31 ⟨.strct [(0,28),(1,29)],2,48,some (.pair (.list (.int .i64)) (.pair (.list (.list (.int .i64))) .unit)),[.slice none 0 0,.slice none 0 0],false⟩:=⟨⟨infoOf (Tryz.prog.info? 31),by kernel_rfl,by kernel_rfl,by kernel_rfl,.agg #[.slice none 0 0,.slice none 0 0],by kernel_rfl,by kernel_rfl⟩,⟨fieldsOf (Tryz.prog.underlying 31),by kernel_rfl,by kernel_rfl⟩,no_eq⟩
theorem ty39:TIOk Tryz.prog 39 ⟨.strct [(0,3),(1,3),(2,3)],3,24,some (.pair (.int .i64) (.pair (.int .i64) (.pair (.int .i64) .unit))),[.int .i64 0,.int .i64 0,.int .i64 0],true⟩:=⟨⟨infoOf (Tryz.prog.info? 39),by kernel_rfl,by kernel_rfl,by kernel_rfl,.agg #[.int .i64 0,.int .i64 0,.int .i64 0],by kernel_rfl,by kernel_rfl⟩,⟨fieldsOf (Tryz.prog.underlying 39),by kernel_rfl,by kernel_rfl⟩,fun _=>by kernel_rfl⟩
theorem ty63:TIOk Tryz.prog 63 ⟨.arr 6 9,6,96,none,[.string ByteArray.empty,.string ByteArray.empty,.string ByteArray.empty,.string ByteArray.empty,.string ByteArray.empty,.string ByteArray.empty],false⟩:=⟨⟨infoOf (Tryz.prog.info? 63),by kernel_rfl,by kernel_rfl,by kernel_rfl,.agg #[.string ByteArray.empty,.string ByteArray.empty,.string ByteArray.empty,.string ByteArray.empty,.string ByteArray.empty,.string ByteArray.empty],by kernel_rfl,by kernel_rfl⟩,(by kernel_rfl:Tryz.prog.underlying 63=some (.array 6 9)),no_eq⟩
theorem ty76:TIOk Tryz.prog 76 ⟨.strct [(0,22),(1,3)],2,32,some (.pair (.list (.int .u8)) (.pair (.int .i64) .unit)),[.slice none 0 0,.int .i64 0],false⟩:=⟨⟨infoOf (Tryz.prog.info? 76),by kernel_rfl,by kernel_rfl,by kernel_rfl,.agg #[.slice none 0 0,.int .i64 0],by kernel_rfl,by kernel_rfl⟩,⟨fieldsOf (Tryz.prog.underlying 76),by kernel_rfl,by kernel_rfl⟩,no_eq⟩
theorem ty78:TIOk Tryz.prog 78 ⟨.slice 9,1,24,some (.list .str),[.slice none 0 0],false⟩:=⟨⟨infoOf (Tryz.prog.info? 78),by kernel_rfl,by kernel_rfl,by kernel_rfl,.slice none 0 0,by kernel_rfl,by kernel_rfl⟩,(by kernel_rfl:Tryz.prog.underlying 78=some (.slice 9)),no_eq⟩
theorem ty111:TIOk Tryz.prog 111 ⟨.strct [(0,28),(1,3),(2,3)],3,40,some (.pair (.list (.int .i64)) (.pair (.int .i64) (.pair (.int .i64) .unit))),[.slice none 0 0,.int .i64 0,.int .i64 0],false⟩:=⟨⟨infoOf (Tryz.prog.info? 111),by kernel_rfl,by kernel_rfl,by kernel_rfl,.agg #[.slice none 0 0,.int .i64 0,.int .i64 0],by kernel_rfl,by kernel_rfl⟩,⟨fieldsOf (Tryz.prog.underlying 111),by kernel_rfl,by kernel_rfl⟩,no_eq⟩
theorem ty128:TIOk Tryz.prog 128 ⟨.int .u64,1,8,some (.int .u64),[.int .u64 0],false⟩:=⟨⟨infoOf (Tryz.prog.info? 128),by kernel_rfl,by kernel_rfl,by kernel_rfl,.int .u64 0,by kernel_rfl,by kernel_rfl⟩,(by kernel_rfl:Tryz.prog.underlying 128=some (.int .u64)),no_eq⟩
theorem ty133:TIOk Tryz.prog 133 ⟨.int .u64,1,8,some (.int .u64),[.int .u64 0],false⟩:=⟨⟨infoOf (Tryz.prog.info? 133),by kernel_rfl,by kernel_rfl,by kernel_rfl,.int .u64 0,by kernel_rfl,by kernel_rfl⟩,(by kernel_rfl:Tryz.prog.underlying 133=some (.int .u64)),no_eq⟩
theorem ty229:TIOk Tryz.prog 229 ⟨.arr 9 4,9,9,none,[.bool false,.bool false,.bool false,.bool false,.bool false,.bool false,.bool false,.bool false,.bool false],false⟩:=⟨⟨infoOf (Tryz.prog.info? 229),by kernel_rfl,by kernel_rfl,by kernel_rfl,.agg #[.bool false,.bool false,.bool false,.bool false,.bool false,.bool false,.bool false,.bool false,.bool false],by kernel_rfl,by kernel_rfl⟩,(by kernel_rfl:Tryz.prog.underlying 229=some (.array 9 4)),no_eq⟩
theorem ty238:TIOk Tryz.prog 238 ⟨.arr 64 5,64,64,none,[.int .u8 0,.int .u8 0,.int .u8 0,.int .u8 0,.int .u8 0,.int .u8 0,.int .u8 0,.int .u8 0,.int .u8 0,.int .u8 0,.int .u8 0,.int .u8 0,.int .u8 0,.int .u8 0,.int .u8 0,.int .u8 0,.int .u8 0,.int .u8 0,.int .u8 0,.int .u8 0,.int .u8 0,.int .u8 0,.int .u8 0,.int .u8 0,.int .u8 0,.int .u8 0,.int .u8 0,.int .u8 0,.int .u8 0,.int .u8 0,.int .u8 0,.int .u8 0,.int .u8 0,.int .u8 0,.int .u8 0,.int .u8 0,.int .u8 0,.int .u8 0,.int .u8 0,.int .u8 0,.int .u8 0,.int .u8 0,.int .u8 0,.int .u8 0,.int .u8 0,.int .u8 0,.int .u8 0,.int .u8 0,.int .u8 0,.int .u8 0,.int .u8 0,.int .u8 0,.int .u8 0,.int .u8 0,.int .u8 0,.int .u8 0,.int .u8 0,.int .u8 0,.int .u8 0,.int .u8 0,.int .u8 0,.int .u8 0,.int .u8 0,.int .u8 0],false⟩:=⟨⟨infoOf (Tryz.prog.info? 238),by kernel_rfl,by kernel_rfl,by kernel_rfl,.agg #[.int .u8 0,.int .u8 0,.int .u8 0,.int .u8 0,.int .u8 0,.int .u8 0,.int .u8 0,.int .u8 0,.int .u8 0,.int .u8 0,.int .u8 0,.int .u8 0,.int .u8 0,.int .u8 0,.int .u8 0,.int .u8 0,.int .u8 0,.int .u8 0,.int .u8 0,.int .u8 0,.int .u8 0,.int .u8 0,.int .u8 0,.int .u8 0,.int .u8 0,.int .u8 0,.int .u8 0,.int .u8 0,.int .u8 0,.int .u8 0,.int .u8 0,.int .u8 0,.int .u8 0,.int .u8 0,.int .u8 0,.int .u8 0,.int .u8 0,.int .u8 0,.int .u8 0,.int .u8 0,.int .u8 0,.int .u8 0,.int .u8 0,.int .u8 0,.int .u8 0,.int .u8 0,.int .u8 0,.int .u8 0,.int .u8 0,.int .u8 0,.int .u8 0,.int .u8 0,.int .u8 0,.int .u8 0,.int .u8 0,.int .u8 0,.int .u8 0,.int .u8 0,.int .u8 0,.int .u8 0,.int .u8 0,.int .u8 0,.int .u8 0,.int .u8 0],by kernel_rfl,by kernel_rfl⟩,(by kernel_rfl:Tryz.prog.underlying 238=some (.array 64 5)),no_eq⟩
def tys:List (TypeId×TI):=[(3,⟨.int .i64,1,8,some (.int .i64),[.int .i64 0],false⟩),(4,⟨.bool,1,1,some .bool,[.bool false],false⟩),(5,⟨.int .u8,1,1,some (.int .u8),[.int .u8 0],false⟩),(9,⟨.str,1,16,some .str,[.string ByteArray.empty],false⟩),(22,⟨.slice 5,1,24,some (.list (.int .u8)),[.slice none 0 0],false⟩),(24,⟨.slice 39,1,24,some (.list (.pair (.int .i64) (.pair (.int .i64) (.pair (.int .i64) .unit)))),[.slice none 0 0],false⟩),(28,⟨.slice 3,1,24,some (.list (.int .i64)),[.slice none 0 0],false⟩),(29,⟨.slice 28,1,24,some (.list (.list (.int .i64))),[.slice none 0 0],false⟩),(31,⟨.strct [(0,28),(1,29)],2,48,some (.pair (.list (.int .i64)) (.pair (.list (.list (.int .i64))) .unit)),[.slice none 0 0,.slice none 0 0],false⟩),(39,⟨.strct [(0,3),(1,3),(2,3)],3,24,some (.pair (.int .i64) (.pair (.int .i64) (.pair (.int .i64) .unit))),[.int .i64 0,.int .i64 0,.int .i64 0],true⟩),(63,⟨.arr 6 9,6,96,none,[.string ByteArray.empty,.string ByteArray.empty,.string ByteArray.empty,.string ByteArray.empty,.string ByteArray.empty,.string ByteArray.empty],false⟩),(76,⟨.strct [(0,22),(1,3)],2,32,some (.pair (.list (.int .u8)) (.pair (.int .i64) .unit)),[.slice none 0 0,.int .i64 0],false⟩),(78,⟨.slice 9,1,24,some (.list .str),[.slice none 0 0],false⟩),(111,⟨.strct [(0,28),(1,3),(2,3)],3,40,some (.pair (.list (.int .i64)) (.pair (.int .i64) (.pair (.int .i64) .unit))),[.slice none 0 0,.int .i64 0,.int .i64 0],false⟩),(128,⟨.int .u64,1,8,some (.int .u64),[.int .u64 0],false⟩),(133,⟨.int .u64,1,8,some (.int .u64),[.int .u64 0],false⟩),(229,⟨.arr 9 4,9,9,none,[.bool false,.bool false,.bool false,.bool false,.bool false,.bool false,.bool false,.bool false,.bool false],false⟩),(238,⟨.arr 64 5,64,64,none,[.int .u8 0,.int .u8 0,.int .u8 0,.int .u8 0,.int .u8 0,.int .u8 0,.int .u8 0,.int .u8 0,.int .u8 0,.int .u8 0,.int .u8 0,.int .u8 0,.int .u8 0,.int .u8 0,.int .u8 0,.int .u8 0,.int .u8 0,.int .u8 0,.int .u8 0,.int .u8 0,.int .u8 0,.int .u8 0,.int .u8 0,.int .u8 0,.int .u8 0,.int .u8 0,.int .u8 0,.int .u8 0,.int .u8 0,.int .u8 0,.int .u8 0,.int .u8 0,.int .u8 0,.int .u8 0,.int .u8 0,.int .u8 0,.int .u8 0,.int .u8 0,.int .u8 0,.int .u8 0,.int .u8 0,.int .u8 0,.int .u8 0,.int .u8 0,.int .u8 0,.int .u8 0,.int .u8 0,.int .u8 0,.int .u8 0,.int .u8 0,.int .u8 0,.int .u8 0,.int .u8 0,.int .u8 0,.int .u8 0,.int .u8 0,.int .u8 0,.int .u8 0,.int .u8 0,.int .u8 0,.int .u8 0,.int .u8 0,.int .u8 0,.int .u8 0],false⟩)]
theorem tys_ok:TOk Tryz.prog (tlook tys):=tok_of (allc ty3 (allc ty4 (allc ty5 (allc ty9 (allc ty22 (allc ty24 (allc ty28 (allc ty29 (allc ty31 (allc ty39 (allc ty63 (allc ty76 (allc ty78 (allc ty111 (allc ty128 (allc ty133 (allc ty229 (allc ty238 alln))))))))))))))))))
def ioF (f:FuncId) (i:Nat):Bool:=[(100,1),(150,0),(173,0),(188,0),(30,1000),(105,1000),(106,1000)].any fun(p:Nat×Nat)=>Nat.beq p.1 f&&Nat.beq p.2 i
def Ncw:Ann:=(.seq (.leaf [0]) (.seq (.seq (.leaf [0,5]) (.cond (.leaf [0]) (.leaf [0]))) (.seq (.leaf [2]) (.leaf [2]))))
noncomputable def Nio:Ctx:=⟨tlook tys,olook [],ioF,0,false,[]⟩
theorem Nts (a:List Int):Link Nio LL (bodyOf Tryz.f16) Ncw ⟨mkE 11 0 [(0,dV a)],[]⟩ (Naq a) (fun(t:(List Int))=>(Exit.ret,⟨mkE 11 0 [(2,.ptr 0 0)],[some (.box [dV t,dI 0])]⟩)):= .of fun K h=>by
 simp only[Naq,wpW] at h
 exact .of (by kernel_rfl) h
theorem N18j (a:List Int) {r:AV} {H':Heap} (h:(Ans.mk _ (N3x a) (fun(t:(List Int))=>(.ptr 0 0,[some (.box [dV t,dI 0])])) [] none).run=some (r,H')):Awp Nio LL (bodyOf Tryz.f16) Ncw ⟨mkE 11 0 [(0,dV a)],[]⟩ (Ret (tlook tys) Tryz.f16.results.toList r H'):=
 ret_of' (Nts a) (by unfold N3x;kernel_rfl) (by
 intro t
 exact ret_mk [.ptr 0 0] (by kernel_rfl) (by kernel_rfl) (by kernel_rfl) (by kernel_rfl)) h
def Nb6:Fun:=fun avs H=>
 match avs,H with
 |[.dat (.list (.int .u8)) a],[]=>⟨_,N3x a,fun(t:(List Int))=>(.ptr 0 0,[some (.box [dV t,dI 0])]),[],none⟩
 |_,_=>Ans.no
theorem Noh:Sound Tryz.prog 16 Nb6:=by
 refine fn_sound' (C:=Nio) (c:=bodyOf Tryz.f16) (cok_of tys_ok (alln) (alln) (by kernel_rfl)) Tryz.func16 (by kernel_rfl) LL Ncw ?_
 intro avs H r H' h
 unfold Nb6 at h
 split at h
 ·refine Awp.cast ?_ ?_ ?_ (N18j _ h)<;>kernel_rfl
 ·simp[Ans.no,Ans.run] at h
def Nel:Ann:=(.seq (.leaf [0,1]) (.seq (.leaf [0,1]) (.seq (.seq (.leaf [0,1,24]) (.cond (.seq (.leaf [4]) (.leaf [4])) (.leaf [0,1]))) (.seq (.leaf [0,1,5]) (.seq (.seq (.leaf [0,1,5,36]) (.cond (.seq (.leaf [4]) (.leaf [4])) (.leaf [0,1,5]))) (.seq (.draw [] [0,1,2,3,4,5,6,7,8,9,10,11,12,13,14,15,16,17,18,19,20,21,22,23,24,25,26,27,28,29,30,31,32,33,34,35,36,37,38,39,40,41,42,43,44,45] [] [1,6]) (.seq (.leaf [1,6]) (.seq (.leaf [4]) (.leaf [4])))))))))
noncomputable def Nd9:Ctx:=⟨tlook tys,olook [],ioF,1,false,[]⟩
theorem N12r (a:Int) (b:List Int) (c:Int):Link Nd9 LL (bodyOf Tryz.f19) Nel ⟨mkE 99 0 [(0,.ptr 0 0),(1,dI a)],[some (.box [dV b,dI c])]⟩ (N95 a b c) (fun(t:Int×Int)=>(Exit.ret,⟨mkE 99 0 [(4,dI t.1)],[some (.box [dV b,dI t.2])]⟩)):= .of fun K h=>by
 simp only[N95,wpW] at h
 exact .of (by kernel_rfl) h
theorem Nt4 (a:Int) (b:List Int) (c:Int) {r:AV} {H':Heap} (h:(Ans.mk _ (N0 a b c) (fun(t:Int×Int)=>(dI t.1,[some (.box [dV b,dI t.2])])) [] none).run=some (r,H')):Awp Nd9 LL (bodyOf Tryz.f19) Nel ⟨mkE 99 0 [(0,.ptr 0 0),(1,dI a)],[some (.box [dV b,dI c])]⟩ (Ret (tlook tys) Tryz.f19.results.toList r H'):=
 ret_of' (N12r a b c) (by unfold N0;kernel_rfl) (by
 intro t
 exact ret_mk [dI t.1] (by kernel_rfl) (by kernel_rfl) (by kernel_rfl) (by kernel_rfl)) h
def Nk:Fun:=fun avs H=>
 match avs,H with
 |[.ptr 0 0,.dat (.int .i64) a],[some (.box [.dat (.list (.int .u8)) b,.dat (.int .i64) c])]=>⟨_,N0 a b c,fun(t:Int×Int)=>(dI t.1,[some (.box [dV b,dI t.2])]),[],none⟩
 |_,_=>Ans.no
theorem Nt:Sound Tryz.prog 19 Nk:=by
 refine fn_sound' (C:=Nd9) (c:=bodyOf Tryz.f19) (cok_of tys_ok (alln) (alln) (by kernel_rfl)) Tryz.func19 (by kernel_rfl) LL Nel ?_
 intro avs H r H' h
 unfold Nk at h
 split at h
 ·refine Awp.cast ?_ ?_ ?_ (Nt4 _ _ _ h)<;>kernel_rfl
 ·simp[Ans.no,Ans.run] at h
def N11:Ann:=(.seq (.leaf [0,1]) (.seq (.leaf [0,1,5]) (.seq (.leaf [0,1,5,6]) (.seq (.seq (.leaf [0,1,5,6,7]) (.block (.loop (.seq (.seq (.leaf [0,1,5,6,7,15]) (.cond (.leaf [0,1,5,6,7]) (.leaf [5]))) (.seq (.block (.seq (.leaf [0,1,5,6,7,8]) (.seq (.seq (.leaf [0,1,5,6,7,8,26]) (.cond (.leaf [0,1,5,6,7,8]) (.leaf [0,1,5,6,7,8]))) (.seq (.leaf [0,1,5,6,7,8,9]) (.seq (.leaf [0,1,5,6,7,8,9]) (.leaf [0,1,5,6,7])))))) (.leaf [0,1,5,6,7])))))) (.seq (.leaf [4]) (.leaf [4]))))))
noncomputable def N4b:Ctx:=⟨tlook tys,olook [(19,Nk)],ioF,1,false,[]⟩
theorem Nzp (a:Int) (b:List Int) (c:Int):Link N4b LL (Code.seq (cq [0] (bodyOf Tryz.f66)) (Code.seq (cq [0,1] (bodyOf Tryz.f66)) (cq [0,1,1] (bodyOf Tryz.f66)))) (Ann.seq (aq [0] N11) (Ann.seq (aq [0,1] N11) (aq [0,1,1] N11))) ⟨mkE 45 0 [(0,.ptr 0 0),(1,dI a)],[some (.box [dV b,dI c])]⟩ (N9i b c) (fun(t:Int×Int)=>(Exit.normal,⟨mkE 45 0 [(0,.ptr 0 0),(1,dI a),(5,.slc 1),(6,dI t.1)],[some (.box [dV b,dI t.2]),some (sI ([]:List Int))]⟩)):= .of fun K h=>by
 simp only[N9i,wpW] at h
 exact .of (by kernel_rfl) h
theorem N17y (a b:Int) (c:List Int) (d:Int):Link N4b LL (cq [0,0,1,1,1] (bodyOf Tryz.f66)) (aq [0,0,1,1,1] N11) ⟨mkE 45 0 [(0,.ptr 0 0),(1,dI a),(5,.slc 1),(6,dI b)],[some (.box [dV c,dI d]),some (sI ([]:List Int))]⟩ (Nbv) (fun(t:Unit)=>(Exit.normal,⟨mkE 45 0 [(0,.ptr 0 0),(1,dI a),(5,.slc 1),(6,dI b),(7,dI 1)],[some (.box [dV c,dI d]),some (sI ([]:List Int))]⟩)):= .of fun K h=>by
 simp only[Nbv,wpW] at h
 exact .of (by kernel_rfl) h
theorem N17v (a b c:Int) (d:List Int) (g:Int) (i:List Int):Link N4b LL (cq [0,0,1,0,1,1,1] (bodyOf Tryz.f66)) (aq [0,0,1,0,1,1,1] N11) ⟨mkE 45 0 [(0,.ptr 0 0),(1,dI a),(5,.slc 1),(6,dI b),(7,dI c)],[some (.box [dV d,dI g]),some (sI i)]⟩ (N6t a b c d g i) (Sum.elim (fun(t:Int×Int×(List Int))=>(Exit.normal,⟨mkE 45 0 [(0,.ptr 0 0),(1,dI a),(5,.slc 1),(6,dI b),(7,dI t.1)],[some (.box [dV d,dI t.2.1]),some (sI t.2.2)]⟩)) (fun(t:Int×(List Int))=>((Exit.exit 0),⟨mkE 45 0 [(5,.slc 1)],[some (.box [dV d,dI t.1]),some (sI t.2)]⟩))):= .of fun K h=>by
 simp only[N6t,wpW] at h
 exact .of (by kernel_rfl) h
theorem Nu9 (a:List Int) (b:Int) (c:List Int):Link N4b LL (cq [1,1,1,1] (bodyOf Tryz.f66)) (aq [1,1,1,1] N11) ⟨mkE 45 0 [(5,.slc 1)],[some (.box [dV a,dI b]),some (sI c)]⟩ (Ndo b c) (fun(t:Int×(List Int))=>(Exit.ret,⟨mkE 45 0 [(4,.slc 1)],[some (.box [dV a,dI t.1]),some (sI t.2)]⟩)):= .of fun K h=>by
 simp only[Ndo,wpW] at h
 exact .of (by kernel_rfl) h
theorem Ntl (b:Int) (d:List Int) (g:Int) {r:AV} {H':Heap} (h:(Ans.mk _ (N3h b d g) (fun(t:Int×(List Int))=>(.slc 1,[some (.box [dV d,dI t.1]),some (sI t.2)])) [] none).run=some (r,H')):Awp N4b LL (bodyOf Tryz.f66) N11 ⟨mkE 45 0 [(0,.ptr 0 0),(1,dI b)],[some (.box [dV d,dI g])]⟩ (Ret (tlook tys) Tryz.f66.results.toList r H'):=
 ret_of' (Link.cast (by kernel_rfl) (by kernel_rfl) (link_group (c:=(cq [0,1,1] (bodyOf Tryz.f66))) (a:=(aq [0,1,1] N11)) [(cq [0] (bodyOf Tryz.f66)),(cq [0,1] (bodyOf Tryz.f66))] [(aq [0] N11),(aq [0,1] N11)] rfl (link_seq (Nzp b d g) (fun(t:Int×Int)=>(link_seq (link_seq (N17y b t.1 d t.2) (fun(t40:Unit)=>(link_block (fin2:=(fun(t40:Int×(List Int))=>(Exit.normal,⟨mkE 45 0 [(5,.slc 1)],[some (.box [dV d,dI t40.1]),some (sI t40.2)]⟩))) (id:=0) (link_loop (mk:=fun(s:Int×Int×(List Int))=>⟨mkE 45 0 [(0,.ptr 0 0),(1,dI b),(5,.slc 1),(6,dI t.1),(7,dI s.1)],[some (.box [dV d,dI s.2.1]),some (sI s.2.2)]⟩) (fin:=(fun(t40:Int×(List Int))=>((Exit.exit 0),⟨mkE 45 0 [(5,.slc 1)],[some (.box [dV d,dI t40.1]),some (sI t40.2)]⟩))) (by
 rintro t40 f K h
 ·exact h) (fun s=>link_map (N17v b t.1 s.1 d s.2.1 s.2.2) (Sum.elim (fun(t40:Int×Int×(List Int))=>Sum.inl (t40.1,t40.2.1,t40.2.2)) (fun(t40:Int×(List Int))=>Sum.inr t40)) (by
 rintro(t40|t40)
 ·kernel_rfl
 ·kernel_rfl)) (1,t.2,([]:List Int))) (fun(t40:Int×(List Int))=>(t40.1,t40.2)) (by
 rintro t40 K h
 ·exact Eq.mp (by kernel_rfl) h)))) (fun(t40:Int×(List Int))=>(Nu9 d t40.1 t40.2))))))) (by unfold N3h;kernel_rfl) (by
 intro t
 exact ret_mk [.slc 1] (by kernel_rfl) (by kernel_rfl) (by kernel_rfl) (by kernel_rfl)) h
def Nas:Fun:=fun avs H=>
 match avs,H with
 |[.ptr 0 0,.dat (.int .i64) a],[some (.box [.dat (.list (.int .u8)) b,.dat (.int .i64) c])]=>⟨_,N3h a b c,fun(t:Int×(List Int))=>(.slc 1,[some (.box [dV b,dI t.1]),some (sI t.2)]),[],none⟩
 |_,_=>Ans.no
theorem Nko:Sound Tryz.prog 66 Nas:=by
 refine fn_sound' (C:=N4b) (c:=bodyOf Tryz.f66) (cok_of tys_ok (allc Nt alln) (allc Tryz.call19 alln) (by kernel_rfl)) Tryz.func66 (by kernel_rfl) LL N11 ?_
 intro avs H r H' h
 unfold Nas at h
 split at h
 ·refine Awp.cast ?_ ?_ ?_ (Ntl _ _ _ h)<;>kernel_rfl
 ·simp[Ans.no,Ans.run] at h
def Nil:Ann:=(.seq (.leaf [0,1]) (.seq (.leaf [4]) (.leaf [4])))
noncomputable def Nfa:Ctx:=⟨tlook tys,olook [(19,Nk)],ioF,1,false,[]⟩
theorem Nrq (a:Int) (b:List Int) (c:Int):Link Nfa LL (bodyOf Tryz.f25) Nil ⟨mkE 15 0 [(0,.ptr 0 0),(1,dI a)],[some (.box [dV b,dI c])]⟩ (N7w a b c) (fun(t:Bool×Int)=>(Exit.ret,⟨mkE 15 0 [(4,dB t.1)],[some (.box [dV b,dI t.2])]⟩)):= .of fun K h=>by
 simp only[N7w,wpW] at h
 exact .of (by kernel_rfl) h
theorem Ntk (a:Int) (b:List Int) (c:Int) {r:AV} {H':Heap} (h:(Ans.mk _ (Np a b c) (fun(t:Bool×Int)=>(dB t.1,[some (.box [dV b,dI t.2])])) [] none).run=some (r,H')):Awp Nfa LL (bodyOf Tryz.f25) Nil ⟨mkE 15 0 [(0,.ptr 0 0),(1,dI a)],[some (.box [dV b,dI c])]⟩ (Ret (tlook tys) Tryz.f25.results.toList r H'):=
 ret_of' (Nrq a b c) (by unfold Np;kernel_rfl) (by
 intro t
 exact ret_mk [dB t.1] (by kernel_rfl) (by kernel_rfl) (by kernel_rfl) (by kernel_rfl)) h
def N60:Fun:=fun avs H=>
 match avs,H with
 |[.ptr 0 0,.dat (.int .i64) a],[some (.box [.dat (.list (.int .u8)) b,.dat (.int .i64) c])]=>⟨_,Np a b c,fun(t:Bool×Int)=>(dB t.1,[some (.box [dV b,dI t.2])]),[],none⟩
 |_,_=>Ans.no
theorem N8e:Sound Tryz.prog 25 N60:=by
 refine fn_sound' (C:=Nfa) (c:=bodyOf Tryz.f25) (cok_of tys_ok (allc Nt alln) (allc Tryz.call19 alln) (by kernel_rfl)) Tryz.func25 (by kernel_rfl) LL Nil ?_
 intro avs H r H' h
 unfold N60 at h
 split at h
 ·refine Awp.cast ?_ ?_ ?_ (Ntk _ _ _ h)<;>kernel_rfl
 ·simp[Ans.no,Ans.run] at h
def Na:Ann:=(.seq (.leaf [0,1]) (.seq (.leaf [0,1,5]) (.seq (.leaf [0,1,5,6]) (.seq (.leaf [0,1,5,6,7]) (.seq (.leaf [0,1,5,6,7,8]) (.seq (.seq (.leaf [0,1,5,6,7,8,9]) (.block (.loop (.seq (.seq (.leaf [0,1,5,6,7,8,9,23]) (.cond (.leaf [0,1,5,6,7,8,9]) (.leaf [0,1,5,7]))) (.seq (.block (.seq (.leaf [0,1,5,6,7,8,9,10]) (.seq (.seq (.leaf [0,1,5,6,7,8,9,10,35]) (.cond (.leaf [0,1,5,6,7,8,9,10]) (.leaf [0,1,5,6,7,8,9,10]))) (.draw [] [0,1,2,3,4,5,6,7,8,9,10,11] [] [0,1,5,6,7,8,9])))) (.leaf [0,1,5,6,7,8,9])))))) (.seq (.seq (.leaf [0,5,7,51]) (.cond (.seq (.leaf [0,5,7,53]) (.block (.seq (.leaf [0,5,7,53,63]) (.cond (.seq (.leaf [4]) (.leaf [4])) (.seq (.leaf [0,5,7,53,66]) (.cond (.seq (.leaf [4]) (.leaf [4])) (.seq (.leaf [0,5,7,69]) (.cond (.seq (.leaf [7]) (.seq (.leaf [4]) (.leaf [4]))) (.leaf [7]))))))))) (.leaf [7]))) (.seq (.leaf [4]) (.leaf [4])))))))))
noncomputable def N67:Ctx:=⟨tlook tys,olook [(19,Nk),(66,Nas),(25,N60)],ioF,1,false,[]⟩
theorem N107 (a:Int) (b:List Int) (c:Int):Link N67 LL (Code.seq (cq [0] (bodyOf Tryz.f64)) (Code.seq (cq [0,1] (bodyOf Tryz.f64)) (Code.seq (cq [0,1,1] (bodyOf Tryz.f64)) (Code.seq (cq [0,1,1,1] (bodyOf Tryz.f64)) (cq [0,1,1,1,1] (bodyOf Tryz.f64)))))) (Ann.seq (aq [0] Na) (Ann.seq (aq [0,1] Na) (Ann.seq (aq [0,1,1] Na) (Ann.seq (aq [0,1,1,1] Na) (aq [0,1,1,1,1] Na))))) ⟨mkE 80 0 [(0,.ptr 0 0),(1,dI a)],[some (.box [dV b,dI c])]⟩ (Nc1 b c) (fun(t:Int×Int×Int×(List Int)×(List Int))=>(Exit.normal,⟨mkE 80 0 [(0,.ptr 0 0),(1,dI a),(5,dI t.1),(6,.slc 1),(7,.slc 2),(8,dI t.2.1)],[some (.box [dV b,dI t.2.2.1]),some (sI t.2.2.2.1),some (sI t.2.2.2.2)]⟩)):= .of fun K h=>by
 simp only[Nc1,wpW] at h
 exact .of (by kernel_rfl) h
theorem N17w (a b c:Int) (d:List Int) (g:Int) (i j:List Int):Link N67 LL (cq [0,0,1,1,1,1,1] (bodyOf Tryz.f64)) (aq [0,0,1,1,1,1,1] Na) ⟨mkE 80 0 [(0,.ptr 0 0),(1,dI a),(5,dI b),(6,.slc 1),(7,.slc 2),(8,dI c)],[some (.box [dV d,dI g]),some (sI i),some (sI j)]⟩ (N82) (fun(t:Unit)=>(Exit.normal,⟨mkE 80 0 [(0,.ptr 0 0),(1,dI a),(5,dI b),(6,.slc 1),(7,.slc 2),(8,dI c),(9,dI 1)],[some (.box [dV d,dI g]),some (sI i),some (sI j)]⟩)):= .of fun K h=>by
 simp only[N82,wpW] at h
 exact .of (by kernel_rfl) h
theorem Nvb (a b c d:Int) (g:List Int) (i:Int) (j k:List Int):Link N67 LL (cq [0,0,1,0,1,1,1,1,1] (bodyOf Tryz.f64)) (aq [0,0,1,0,1,1,1,1,1] Na) ⟨mkE 80 0 [(0,.ptr 0 0),(1,dI a),(5,dI b),(6,.slc 1),(7,.slc 2),(8,dI c),(9,dI d)],[some (.box [dV g,dI i]),some (sI j),some (sI k)]⟩ (N6z b c d g i j k) (Sum.elim (fun(t:Int×Int×(List Int))=>(Exit.normal,⟨mkE 80 0 [(0,.ptr 0 0),(1,dI a),(5,dI b),(6,.slc 1),(7,.slc 2),(8,dI c),(9,dI t.1)],[some (.box [dV g,dI t.2.1]),some (sI j),some (sI t.2.2)]⟩)) (fun(t:Int×(List Int))=>((Exit.exit 0),⟨mkE 80 0 [(0,.ptr 0 0),(1,dI a),(5,dI b),(7,.slc 1)],[some (.box [dV g,dI t.1]),some (sI t.2)]⟩))):= .of fun K h=>by
 simp only[N6z,wpW] at h
 exact .of (by kernel_rfl) h
theorem Nsk (a b:Int) (c:List Int) (d:Int) (g:List Int):Link N67 LL (cq [1,1,1,1,1,1] (bodyOf Tryz.f64)) (aq [1,1,1,1,1,1] Na) ⟨mkE 80 0 [(0,.ptr 0 0),(1,dI a),(5,dI b),(7,.slc 1)],[some (.box [dV c,dI d]),some (sI g)]⟩ (Ncq a b c d g) (fun(t:Int×(List Int))=>(Exit.ret,⟨mkE 80 0 [(4,.slc 1)],[some (.box [dV c,dI t.1]),some (sI t.2)]⟩)):= .of fun K h=>by
 simp only[Ncq,wpW] at h
 exact .of (by kernel_rfl) h
theorem Nve (b:Int) (d:List Int) (g:Int) {r:AV} {H':Heap} (h:(Ans.mk _ (N3k b d g) (fun(t:Int×(List Int))=>(.slc 1,[some (.box [dV d,dI t.1]),some (sI t.2)])) [] none).run=some (r,H')):Awp N67 LL (bodyOf Tryz.f64) Na ⟨mkE 80 0 [(0,.ptr 0 0),(1,dI b)],[some (.box [dV d,dI g])]⟩ (Ret (tlook tys) Tryz.f64.results.toList r H'):=
 ret_of' (Link.cast (by kernel_rfl) (by kernel_rfl) (link_group (c:=(cq [0,1,1,1,1] (bodyOf Tryz.f64))) (a:=(aq [0,1,1,1,1] Na)) [(cq [0] (bodyOf Tryz.f64)),(cq [0,1] (bodyOf Tryz.f64)),(cq [0,1,1] (bodyOf Tryz.f64)),(cq [0,1,1,1] (bodyOf Tryz.f64))] [(aq [0] Na),(aq [0,1] Na),(aq [0,1,1] Na),(aq [0,1,1,1] Na)] rfl (link_seq (N107 b d g) (fun(t:Int×Int×Int×(List Int)×(List Int))=>(link_seq (link_seq (N17w b t.1 t.2.1 d t.2.2.1 t.2.2.2.1 t.2.2.2.2) (fun(t41:Unit)=>(link_block (fin2:=(fun(t41:Int×(List Int))=>(Exit.normal,⟨mkE 80 0 [(0,.ptr 0 0),(1,dI b),(5,dI t.1),(7,.slc 1)],[some (.box [dV d,dI t41.1]),some (sI t41.2)]⟩))) (id:=0) (link_loop (mk:=fun(s:Int×Int×(List Int))=>⟨mkE 80 0 [(0,.ptr 0 0),(1,dI b),(5,dI t.1),(6,.slc 1),(7,.slc 2),(8,dI t.2.1),(9,dI s.1)],[some (.box [dV d,dI s.2.1]),some (sI t.2.2.2.1),some (sI s.2.2)]⟩) (fin:=(fun(t41:Int×(List Int))=>((Exit.exit 0),⟨mkE 80 0 [(0,.ptr 0 0),(1,dI b),(5,dI t.1),(7,.slc 1)],[some (.box [dV d,dI t41.1]),some (sI t41.2)]⟩))) (by
 rintro t41 f K h
 ·exact h) (fun s=>link_map (Nvb b t.1 t.2.1 s.1 d s.2.1 t.2.2.2.1 s.2.2) (Sum.elim (fun(t41:Int×Int×(List Int))=>Sum.inl (t41.1,t41.2.1,t41.2.2)) (fun(t41:Int×(List Int))=>Sum.inr t41)) (by
 rintro(t41|t41)
 ·kernel_rfl
 ·kernel_rfl)) (1,t.2.2.1,t.2.2.2.2)) (fun(t41:Int×(List Int))=>(t41.1,t41.2)) (by
 rintro t41 K h
 ·exact Eq.mp (by kernel_rfl) h)))) (fun(t41:Int×(List Int))=>(Nsk b t.1 d t41.1 t41.2))))))) (by unfold N3k;kernel_rfl) (by
 intro t
 exact ret_mk [.slc 1] (by kernel_rfl) (by kernel_rfl) (by kernel_rfl) (by kernel_rfl)) h
def Nbj:Fun:=fun avs H=>
 match avs,H with
 |[.ptr 0 0,.dat (.int .i64) a],[some (.box [.dat (.list (.int .u8)) b,.dat (.int .i64) c])]=>⟨_,N3k a b c,fun(t:Int×(List Int))=>(.slc 1,[some (.box [dV b,dI t.1]),some (sI t.2)]),[],none⟩
 |_,_=>Ans.no
theorem Njt:Sound Tryz.prog 64 Nbj:=by
 refine fn_sound' (C:=N67) (c:=bodyOf Tryz.f64) (cok_of tys_ok (allc Nt (allc Nko (allc N8e alln))) (allc Tryz.call19 (allc Tryz.call66 (allc Tryz.call25 alln))) (by kernel_rfl)) Tryz.func64 (by kernel_rfl) LL Na ?_
 intro avs H r H' h
 unfold Nbj at h
 split at h
 ·refine Awp.cast ?_ ?_ ?_ (Nve _ _ _ h)<;>kernel_rfl
 ·simp[Ans.no,Ans.run] at h
def Nh5:Ann:=(.seq (.leaf [0,1,2]) (.seq (.leaf [6]) (.leaf [6])))
noncomputable def Nfo:Ctx:=⟨tlook tys,olook [],ioF,0,false,[]⟩
theorem Nqn (a b c:Int):Link Nfo LL (bodyOf Tryz.f51) Nh5 ⟨mkE 15 0 [(0,dI a),(1,dI b),(2,dI c)],[]⟩ (N7q a b c) (fun(t:Bool)=>(Exit.ret,⟨mkE 15 0 [(6,dB t)],[]⟩)):= .of fun K h=>by
 simp only[N7q,wpW] at h
 exact .of (by kernel_rfl) h
theorem Nws (a b c:Int) {r:AV} {H':Heap} (h:(Ans.mk _ (N9 a b c) (fun(t:Bool)=>(dB t,[])) [] none).run=some (r,H')):Awp Nfo LL (bodyOf Tryz.f51) Nh5 ⟨mkE 15 0 [(0,dI a),(1,dI b),(2,dI c)],[]⟩ (Ret (tlook tys) Tryz.f51.results.toList r H'):=
 ret_of' (Nqn a b c) (by unfold N9;kernel_rfl) (by
 intro t
 exact ret_mk [dB t] (by kernel_rfl) (by kernel_rfl) (by kernel_rfl) (by kernel_rfl)) h
def N36:Fun:=fun avs H=>
 match avs,H with
 |[.dat (.int .i64) a,.dat (.int .i64) b,.dat (.int .i64) c],[]=>⟨_,N9 a b c,fun(t:Bool)=>(dB t,[]),[],none⟩
 |_,_=>Ans.no
theorem N78:Sound Tryz.prog 51 N36:=by
 refine fn_sound' (C:=Nfo) (c:=bodyOf Tryz.f51) (cok_of tys_ok (alln) (alln) (by kernel_rfl)) Tryz.func51 (by kernel_rfl) LL Nh5 ?_
 intro avs H r H' h
 unfold N36 at h
 split at h
 ·refine Awp.cast ?_ ?_ ?_ (Nws _ _ _ h)<;>kernel_rfl
 ·simp[Ans.no,Ans.run] at h
def N1:Ann:=(.seq (.leaf [0]) (.seq (.leaf [0,3]) (.seq (.seq (.leaf [0,3,12]) (.cond (.seq (.leaf [2]) (.leaf [2])) (.leaf [0,3]))) (.seq (.leaf [0,3,4]) (.seq (.seq (.leaf [0,3,4,5]) (.block (.loop (.seq (.seq (.leaf [0,3,4,5,15]) (.cond (.leaf [0,3,4,5]) (.leaf [4]))) (.seq (.block (.seq (.seq (.leaf [0,3,4,5,33]) (.cond (.seq (.leaf [2]) (.leaf [2])) (.leaf [0,3,4,5]))) (.seq (.seq (.leaf [0,3,4,5,38]) (.cond (.leaf [0,3,4,5]) (.leaf [0,3,4,5]))) (.seq (.leaf [0,3,4,5,6]) (.seq (.seq (.leaf [0,3,4,5,6,7]) (.block (.loop (.seq (.seq (.leaf [0,3,4,5,6,7,49]) (.cond (.leaf [0,3,4,5,6,7]) (.leaf [0,3,4,5,6]))) (.seq (.block (.seq (.leaf [0,3,4,5,6,7]) (.seq (.leaf [0,3,4,5,6,7,60]) (.cond (.seq (.leaf [2]) (.leaf [2])) (.leaf [0,3,4,5,6,7]))))) (.leaf [0,3,4,5,6,7])))))) (.seq (.leaf [0,3,4,5,62]) (.cond (.seq (.leaf [2]) (.leaf [2])) (.leaf [0,3,4,5])))))))) (.leaf [0,3,4,5])))))) (.seq (.leaf [2]) (.leaf [2])))))))
noncomputable def Ny:Ctx:=⟨tlook tys,olook [(51,N36)],ioF,0,false,[]⟩
theorem Nyf (a:List Int):Link Ny LL (Code.seq (cq [0] (bodyOf Tryz.f27)) (Code.seq (cq [0,1] (bodyOf Tryz.f27)) (Code.seq (cq [0,1,1] (bodyOf Tryz.f27)) (cq [0,1,1,1] (bodyOf Tryz.f27))))) (Ann.seq (aq [0] N1) (Ann.seq (aq [0,1] N1) (Ann.seq (aq [0,1,1] N1) (aq [0,1,1,1] N1)))) ⟨mkE 65 0 [(0,dL a)],[]⟩ (Nan a) (Sum.elim (fun(t:Int)=>(Exit.normal,⟨mkE 65 0 [(0,dL a),(3,dI t),(4,dI 0)],[]⟩)) (fun(t:Bool)=>(Exit.ret,⟨mkE 65 0 [(2,dB t)],[]⟩))):= .of fun K h=>by
 simp only[Nan,wpW] at h
 exact .of (by kernel_rfl) h
theorem Nx9 (a:List Int) (b:Int):Link Ny LL (cq [0,0,1,1,1,1] (bodyOf Tryz.f27)) (aq [0,0,1,1,1,1] N1) ⟨mkE 65 0 [(0,dL a),(3,dI b),(4,dI 0)],[]⟩ (N9z) (fun(t:Unit)=>(Exit.normal,⟨mkE 65 0 [(0,dL a),(3,dI b),(4,dI 0),(5,dI 0)],[]⟩)):= .of fun K h=>by
 simp only[N9z,wpW] at h
 exact .of (by kernel_rfl) h
theorem Nsm (a:List Int) (b c d:Int):Link Ny LL (cq [0,0,0,1,0,1,1,1,1] (bodyOf Tryz.f27)) (aq [0,0,0,1,0,1,1,1,1] N1) ⟨mkE 65 0 [(0,dL a),(3,dI b),(4,dI c),(5,dI d)],[]⟩ (N7j b c d) (Sum.elim (fun(t:Unit)=>(Exit.normal,⟨mkE 65 0 [(0,dL a),(3,dI b),(4,dI c),(5,dI d)],[]⟩)) (fun(t:Int)=>((Exit.exit 0),⟨mkE 65 0 [(4,dI t)],[]⟩))):= .of fun K h=>by
 simp only[N7j,wpW] at h
 exact .of (by kernel_rfl) h
theorem Nwy (a:List Int) (b c d:Int):Link Ny LL (Code.seq (cq [0,0,0,1,0,0,1,0,1,1,1,1] (bodyOf Tryz.f27)) (Code.seq (cq [0,1,0,0,1,0,0,1,0,1,1,1,1] (bodyOf Tryz.f27)) (cq [0,1,1,0,0,1,0,0,1,0,1,1,1,1] (bodyOf Tryz.f27)))) (Ann.seq (aq [0,0,0,1,0,0,1,0,1,1,1,1] N1) (Ann.seq (aq [0,1,0,0,1,0,0,1,0,1,1,1,1] N1) (aq [0,1,1,0,0,1,0,0,1,0,1,1,1,1] N1))) ⟨mkE 65 0 [(0,dL a),(3,dI b),(4,dI c),(5,dI d)],[]⟩ (N8n a b c d) (Sum.elim (fun(t:Int×Int)=>(Exit.normal,⟨mkE 65 0 [(0,dL a),(3,dI b),(4,dI t.1),(5,dI d),(6,dI t.2)],[]⟩)) (fun(t:Bool)=>(Exit.ret,⟨mkE 65 0 [(2,dB t)],[]⟩))):= .of fun K h=>by
 simp only[N8n,wpW] at h
 exact .of (by kernel_rfl) h
theorem N169 (a:List Int) (b c d g:Int):Link Ny LL (cq [0,0,1,1,1,0,0,1,0,0,1,0,1,1,1,1] (bodyOf Tryz.f27)) (aq [0,0,1,1,1,0,0,1,0,0,1,0,1,1,1,1] N1) ⟨mkE 65 0 [(0,dL a),(3,dI b),(4,dI c),(5,dI d),(6,dI g)],[]⟩ (Nbo) (fun(t:Unit)=>(Exit.normal,⟨mkE 65 0 [(0,dL a),(3,dI b),(4,dI c),(5,dI d),(6,dI g),(7,dI 0)],[]⟩)):= .of fun K h=>by
 simp only[Nbo,wpW] at h
 exact .of (by kernel_rfl) h
theorem N100 (a:List Int) (b c d g i:Int):Link Ny LL (cq [0,0,1,0,1,1,1,0,0,1,0,0,1,0,1,1,1,1] (bodyOf Tryz.f27)) (aq [0,0,1,0,1,1,1,0,0,1,0,0,1,0,1,1,1,1] N1) ⟨mkE 65 0 [(0,dL a),(3,dI b),(4,dI c),(5,dI d),(6,dI g),(7,dI i)],[]⟩ (N7e a b g i) (Sum.elim (fun(t:Int×Int)=>(Exit.normal,⟨mkE 65 0 [(0,dL a),(3,dI b),(4,dI c),(5,dI d),(6,dI t.1),(7,dI t.2)],[]⟩)) (Sum.elim (fun(t:Bool)=>(Exit.ret,⟨mkE 65 0 [(2,dB t)],[]⟩)) (fun(t:Int)=>((Exit.exit 2),⟨mkE 65 0 [(0,dL a),(3,dI b),(4,dI c),(5,dI d),(6,dI t)],[]⟩)))):= .of fun K h=>by
 simp only[N7e,wpW] at h
 exact .of (by kernel_rfl) h
theorem Nzt (a:List Int) (b c d g:Int):Link Ny LL (cq [1,1,1,1,0,0,1,0,0,1,0,1,1,1,1] (bodyOf Tryz.f27)) (aq [1,1,1,1,0,0,1,0,0,1,0,1,1,1,1] N1) ⟨mkE 65 0 [(0,dL a),(3,dI b),(4,dI c),(5,dI d),(6,dI g)],[]⟩ (N81 g) (Sum.elim (fun(t:Unit)=>(Exit.normal,⟨mkE 65 0 [(0,dL a),(3,dI b),(4,dI c),(5,dI d)],[]⟩)) (fun(t:Bool)=>(Exit.ret,⟨mkE 65 0 [(2,dB t)],[]⟩))):= .of fun K h=>by
 simp only[N81,wpW] at h
 exact .of (by kernel_rfl) h
theorem Ntr (a:List Int) (b c d:Int):Link Ny LL (cq [1,1,0,0,1,0,1,1,1,1] (bodyOf Tryz.f27)) (aq [1,1,0,0,1,0,1,1,1,1] N1) ⟨mkE 65 0 [(0,dL a),(3,dI b),(4,dI c),(5,dI d)],[]⟩ (Nad d) (fun(t:Int)=>(Exit.normal,⟨mkE 65 0 [(0,dL a),(3,dI b),(4,dI c),(5,dI t)],[]⟩)):= .of fun K h=>by
 simp only[Nad,wpW] at h
 exact .of (by kernel_rfl) h
theorem Nqc (a:Int):Link Ny LL (cq [1,1,1,1,1] (bodyOf Tryz.f27)) (aq [1,1,1,1,1] N1) ⟨mkE 65 0 [(4,dI a)],[]⟩ (Nbu a) (fun(t:Bool)=>(Exit.ret,⟨mkE 65 0 [(2,dB t)],[]⟩)):= .of fun K h=>by
 simp only[Nbu,wpW] at h
 exact .of (by kernel_rfl) h
theorem N164 (b:List Int) {r:AV} {H':Heap} (h:(Ans.mk _ (N7 b) (fun(t:Bool)=>(dB t,[])) [] none).run=some (r,H')):Awp Ny LL (bodyOf Tryz.f27) N1 ⟨mkE 65 0 [(0,dL b)],[]⟩ (Ret (tlook tys) Tryz.f27.results.toList r H'):=
 ret_of' (Link.cast (by kernel_rfl) (by kernel_rfl) (link_group (c:=(cq [0,1,1,1] (bodyOf Tryz.f27))) (a:=(aq [0,1,1,1] N1)) [(cq [0] (bodyOf Tryz.f27)),(cq [0,1] (bodyOf Tryz.f27)),(cq [0,1,1] (bodyOf Tryz.f27))] [(aq [0] N1),(aq [0,1] N1),(aq [0,1,1] N1)] rfl (link_seq2 (Nyf b) (fun(t:Int)=>(link_seq2 (link_seq (Nx9 b t) (fun(t43:Unit)=>(link_block (fin2:=(Sum.elim (fun(t43:Int)=>(Exit.normal,⟨mkE 65 0 [(4,dI t43)],[]⟩)) (fun(t43:Bool)=>(Exit.ret,⟨mkE 65 0 [(2,dB t43)],[]⟩)))) (id:=0) (link_loop (mk:=fun(s:Int×Int)=>⟨mkE 65 0 [(0,dL b),(3,dI t),(4,dI s.1),(5,dI s.2)],[]⟩) (fin:=(Sum.elim (fun(t43:Bool)=>(Exit.ret,⟨mkE 65 0 [(2,dB t43)],[]⟩)) (fun(t43:Int)=>((Exit.exit 0),⟨mkE 65 0 [(4,dI t43)],[]⟩)))) (by
 rintro(t43|t43) f K h
 ·exact h
 ·exact h) (fun s=>link_map (link_seq2 (Nsm b t s.1 s.2) (fun(t54:Unit)=>(link_map (fin2:=(Sum.elim (fun(t54:Int×Int)=>(Exit.normal,⟨mkE 65 0 [(0,dL b),(3,dI t),(4,dI t54.1),(5,dI t54.2)],[]⟩)) (Sum.elim (fun(t54:Bool)=>(Exit.ret,⟨mkE 65 0 [(2,dB t54)],[]⟩)) (fun(t54:Int)=>((Exit.exit 0),⟨mkE 65 0 [(4,dI t54)],[]⟩))))) (link_seq2 (link_block (fin2:=(Sum.elim (fun(t54:Int)=>(Exit.normal,⟨mkE 65 0 [(0,dL b),(3,dI t),(4,dI t54),(5,dI s.2)],[]⟩)) (fun(t54:Bool)=>(Exit.ret,⟨mkE 65 0 [(2,dB t54)],[]⟩)))) (id:=1) (link_group (c:=(cq [0,1,1,0,0,1,0,0,1,0,1,1,1,1] (bodyOf Tryz.f27))) (a:=(aq [0,1,1,0,0,1,0,0,1,0,1,1,1,1] N1)) [(cq [0,0,0,1,0,0,1,0,1,1,1,1] (bodyOf Tryz.f27)),(cq [0,1,0,0,1,0,0,1,0,1,1,1,1] (bodyOf Tryz.f27))] [(aq [0,0,0,1,0,0,1,0,1,1,1,1] N1),(aq [0,1,0,0,1,0,0,1,0,1,1,1,1] N1)] rfl (link_seq2 (Nwy b t s.1 s.2) (fun(t54:Int×Int)=>(link_map (fin2:=(Sum.elim (fun(t54:Int)=>(Exit.normal,⟨mkE 65 0 [(0,dL b),(3,dI t),(4,dI t54),(5,dI s.2)],[]⟩)) (fun(t54:Bool)=>(Exit.ret,⟨mkE 65 0 [(2,dB t54)],[]⟩)))) (link_seq2 (link_seq (N169 b t t54.1 s.2 t54.2) (fun(t42:Unit)=>(link_block (fin2:=(Sum.elim (fun(t42:Int)=>(Exit.normal,⟨mkE 65 0 [(0,dL b),(3,dI t),(4,dI t54.1),(5,dI s.2),(6,dI t42)],[]⟩)) (fun(t42:Bool)=>(Exit.ret,⟨mkE 65 0 [(2,dB t42)],[]⟩)))) (id:=2) (link_loop (mk:=fun(s53:Int×Int)=>⟨mkE 65 0 [(0,dL b),(3,dI t),(4,dI t54.1),(5,dI s.2),(6,dI s53.1),(7,dI s53.2)],[]⟩) (fin:=(Sum.elim (fun(t42:Bool)=>(Exit.ret,⟨mkE 65 0 [(2,dB t42)],[]⟩)) (fun(t42:Int)=>((Exit.exit 2),⟨mkE 65 0 [(0,dL b),(3,dI t),(4,dI t54.1),(5,dI s.2),(6,dI t42)],[]⟩)))) (by
 rintro(t42|t42) f K h
 ·exact h
 ·exact h) (fun s53=>link_map (N100 b t t54.1 s.2 s53.1 s53.2) (Sum.elim (fun(t42:Int×Int)=>Sum.inl (t42.1,t42.2)) (Sum.elim (fun(t42:Bool)=>Sum.inr (Sum.inl t42)) (fun(t42:Int)=>Sum.inr (Sum.inr t42)))) (by
 rintro(t42|t42|t42)
 ·kernel_rfl
 ·kernel_rfl
 ·kernel_rfl)) (t54.2,0)) (Sum.elim (fun(t42:Bool)=>(Sum.inr t42)) (fun(t42:Int)=>(Sum.inl t42))) (by
 rintro(t42|t42) K h
 ·exact Eq.mp (by kernel_rfl) h
 ·exact Eq.mp (by kernel_rfl) h)))) (fun(t42:Int)=>(Nzt b t t54.1 s.2 t42)) (fun(t42:Bool)=>(Sum.inr t42)) (by
 rintro t42
 ·kernel_rfl) (by
 rintro t42 f K h
 ·exact h)) (Sum.elim (fun(u:Unit)=>(Sum.inl t54.1)) (fun(u:Bool)=>(Sum.inr u))) (by
 rintro(t54|t54)
 ·kernel_rfl
 ·kernel_rfl))) (fun(t54:Bool)=>(Sum.inr t54)) (by
 rintro t54
 ·kernel_rfl) (by
 rintro t54 f K h
 ·exact h))) (Sum.elim (fun(t54:Int)=>(Sum.inl t54)) (fun(t54:Bool)=>(Sum.inr t54))) (by
 rintro(t54|t54) K h
 ·exact Eq.mp (by kernel_rfl) h
 ·exact Eq.mp (by kernel_rfl) h)) (fun(t54:Int)=>(link_map (fin2:=(Sum.elim (fun(t54:Int×Int)=>(Exit.normal,⟨mkE 65 0 [(0,dL b),(3,dI t),(4,dI t54.1),(5,dI t54.2)],[]⟩)) (fun(t54:Bool)=>(Exit.ret,⟨mkE 65 0 [(2,dB t54)],[]⟩)))) (Ntr b t t54 s.2) (fun(u:Int)=>(Sum.inl (t54,u))) (by
 rintro t54
 ·kernel_rfl))) (fun(t54:Bool)=>(Sum.inr t54)) (by
 rintro t54
 ·kernel_rfl) (by
 rintro t54 f K h
 ·exact h)) (Sum.elim (fun(t54:Int×Int)=>(Sum.inl (t54.1,t54.2))) (fun(t54:Bool)=>(Sum.inr (Sum.inl t54)))) (by
 rintro(t54|t54)
 ·kernel_rfl
 ·kernel_rfl))) (fun(t54:Int)=>(Sum.inr (Sum.inr t54))) (by
 rintro t54
 ·kernel_rfl) (by
 rintro t54 f K h
 ·exact h)) (Sum.elim (fun(t43:Int×Int)=>Sum.inl (t43.1,t43.2)) (Sum.elim (fun(t43:Bool)=>Sum.inr (Sum.inl t43)) (fun(t43:Int)=>Sum.inr (Sum.inr t43)))) (by
 rintro(t43|t43|t43)
 ·kernel_rfl
 ·kernel_rfl
 ·kernel_rfl)) (0,0)) (Sum.elim (fun(t43:Bool)=>(Sum.inr t43)) (fun(t43:Int)=>(Sum.inl t43))) (by
 rintro(t43|t43) K h
 ·exact Eq.mp (by kernel_rfl) h
 ·exact Eq.mp (by kernel_rfl) h)))) (fun(t43:Int)=>(Nqc t43)) (fun(t43:Bool)=>t43) (by
 rintro t43
 ·kernel_rfl) (by
 rintro t43 f K h
 ·exact h))) (fun(t:Bool)=>t) (by
 rintro t
 ·kernel_rfl) (by
 rintro t f K h
 ·exact h)))) (by unfold N7;kernel_rfl) (by
 intro t
 exact ret_mk [dB t] (by kernel_rfl) (by kernel_rfl) (by kernel_rfl) (by kernel_rfl)) h
def N16:Fun:=fun avs H=>
 match avs,H with
 |[.dat (.list (.int .i64)) a],[]=>⟨_,N7 a,fun(t:Bool)=>(dB t,[]),[],none⟩
 |_,_=>Ans.no
theorem N2f:Sound Tryz.prog 27 N16:=by
 refine fn_sound' (C:=Ny) (c:=bodyOf Tryz.f27) (cok_of tys_ok (allc N78 alln) (allc Tryz.call51 alln) (by kernel_rfl)) Tryz.func27 (by kernel_rfl) LL N1 ?_
 intro avs H r H' h
 unfold N16 at h
 split at h
 ·refine Awp.cast ?_ ?_ ?_ (N164 _ h)<;>kernel_rfl
 ·simp[Ans.no,Ans.run] at h
def Nm:Ann:=(.seq (.leaf [0,1]) (.seq (.seq (.leaf [0,1,5]) (.block (.loop (.seq (.seq (.leaf [0,1,5,10]) (.cond (.leaf [0,1,5]) (.leaf [0,1]))) (.seq (.block (.seq (.seq (.leaf [0,1,5,19]) (.cond (.seq (.leaf [4]) (.leaf [4])) (.leaf [0,1,5]))) (.seq (.leaf [0,1,5,6]) (.block (.loop (.seq (.seq (.leaf [0,1,5,6,22]) (.cond (.leaf [0,1,5,6]) (.leaf [0,1,5]))) (.seq (.block (.seq (.draw [] [0,1,2,3,4,5,6,7,8] [] [0,1,5,6,33]) (.cond (.seq (.leaf [4]) (.leaf [4])) (.leaf [0,1,5,6])))) (.leaf [0,1,5,6])))))))) (.leaf [0,1,5])))))) (.seq (.leaf [4]) (.leaf [4]))))
noncomputable def N1t:Ctx:=⟨tlook tys,olook [(51,N36)],ioF,0,false,[]⟩
theorem N15z (a:List Int) (b:Int):Link N1t LL (cq [0] (bodyOf Tryz.f99)) (aq [0] Nm) ⟨mkE 42 0 [(0,dL a),(1,dI b)],[]⟩ (N91) (fun(t:Unit)=>(Exit.normal,⟨mkE 42 0 [(0,dL a),(1,dI b)],[]⟩)):= .of fun K h=>by
 simp only[N91,wpW] at h
 exact .of (by kernel_rfl) h
theorem Nys (a:List Int) (b:Int):Link N1t LL (cq [0,0,1] (bodyOf Tryz.f99)) (aq [0,0,1] Nm) ⟨mkE 42 0 [(0,dL a),(1,dI b)],[]⟩ (Nb1) (fun(t:Unit)=>(Exit.normal,⟨mkE 42 0 [(0,dL a),(1,dI b),(5,dI 0)],[]⟩)):= .of fun K h=>by
 simp only[Nb1,wpW] at h
 exact .of (by kernel_rfl) h
theorem N11h (a:List Int) (b c:Int):Link N1t LL (cq [0,0,0,1,0,1] (bodyOf Tryz.f99)) (aq [0,0,0,1,0,1] Nm) ⟨mkE 42 0 [(0,dL a),(1,dI b),(5,dI c)],[]⟩ (Ncd a c) (Sum.elim (fun(t:Unit)=>(Exit.normal,⟨mkE 42 0 [(0,dL a),(1,dI b),(5,dI c)],[]⟩)) (fun(t:Unit)=>((Exit.exit 0),⟨mkE 42 0 [(0,dL a),(1,dI b)],[]⟩))):= .of fun K h=>by
 simp only[Ncd,wpW] at h
 exact .of (by kernel_rfl) h
theorem Nt1 (a:List Int) (b c:Int):Link N1t LL (Code.seq (cq [0,0,0,1,0,0,1,0,1] (bodyOf Tryz.f99)) (cq [0,1,0,0,1,0,0,1,0,1] (bodyOf Tryz.f99))) (Ann.seq (aq [0,0,0,1,0,0,1,0,1] Nm) (aq [0,1,0,0,1,0,0,1,0,1] Nm)) ⟨mkE 42 0 [(0,dL a),(1,dI b),(5,dI c)],[]⟩ (Ncj a b c) (Sum.elim (fun(t:Unit)=>(Exit.normal,⟨mkE 42 0 [(0,dL a),(1,dI b),(5,dI c),(6,dI 0)],[]⟩)) (fun(t:Bool)=>(Exit.ret,⟨mkE 42 0 [(4,dB t)],[]⟩))):= .of fun K h=>by
 simp only[Ncj,wpW] at h
 exact .of (by kernel_rfl) h
theorem Nye (a:List Int) (b c d:Int):Link N1t LL (cq [0,0,1,1,0,0,1,0,0,1,0,1] (bodyOf Tryz.f99)) (aq [0,0,1,1,0,0,1,0,0,1,0,1] Nm) ⟨mkE 42 0 [(0,dL a),(1,dI b),(5,dI c),(6,dI d)],[]⟩ (N6c a c d) (Sum.elim (fun(t:Int)=>(Exit.normal,⟨mkE 42 0 [(0,dL a),(1,dI b),(5,dI c),(6,dI t)],[]⟩)) (Sum.elim (fun(t:Bool)=>(Exit.ret,⟨mkE 42 0 [(4,dB t)],[]⟩)) (fun(t:Unit)=>((Exit.exit 2),⟨mkE 42 0 [(0,dL a),(1,dI b),(5,dI c)],[]⟩)))):= .of fun K h=>by
 simp only[N6c,wpW] at h
 exact .of (by kernel_rfl) h
theorem Nq0 (a:List Int) (b c:Int):Link N1t LL (cq [1,1,0,0,1,0,1] (bodyOf Tryz.f99)) (aq [1,1,0,0,1,0,1] Nm) ⟨mkE 42 0 [(0,dL a),(1,dI b),(5,dI c)],[]⟩ (Nc9 c) (fun(t:Int)=>(Exit.normal,⟨mkE 42 0 [(0,dL a),(1,dI b),(5,dI t)],[]⟩)):= .of fun K h=>by
 simp only[Nc9,wpW] at h
 exact .of (by kernel_rfl) h
theorem Ny3 (a:List Int) (b:Int):Link N1t LL (cq [1,1] (bodyOf Tryz.f99)) (aq [1,1] Nm) ⟨mkE 42 0 [(0,dL a),(1,dI b)],[]⟩ (Nc2 a b) (fun(t:Bool)=>(Exit.ret,⟨mkE 42 0 [(4,dB t)],[]⟩)):= .of fun K h=>by
 simp only[Nc2,wpW] at h
 exact .of (by kernel_rfl) h
theorem Nuy (b:List Int) (d:Int) {r:AV} {H':Heap} (h:(Ans.mk _ (N5l b d) (fun(t:Bool)=>(dB t,[])) [] none).run=some (r,H')):Awp N1t LL (bodyOf Tryz.f99) Nm ⟨mkE 42 0 [(0,dL b),(1,dI d)],[]⟩ (Ret (tlook tys) Tryz.f99.results.toList r H'):=
 ret_of' (Link.cast (by kernel_rfl) (by kernel_rfl) (link_seq (N15z b d) (fun(t:Unit)=>(link_seq2 (link_seq (Nys b d) (fun(t:Unit)=>(link_block (fin2:=(Sum.elim (fun(t:Unit)=>(Exit.normal,⟨mkE 42 0 [(0,dL b),(1,dI d)],[]⟩)) (fun(t:Bool)=>(Exit.ret,⟨mkE 42 0 [(4,dB t)],[]⟩)))) (id:=0) (link_loop (mk:=fun(s:Int)=>⟨mkE 42 0 [(0,dL b),(1,dI d),(5,dI s)],[]⟩) (fin:=(Sum.elim (fun(t:Bool)=>(Exit.ret,⟨mkE 42 0 [(4,dB t)],[]⟩)) (fun(t:Unit)=>((Exit.exit 0),⟨mkE 42 0 [(0,dL b),(1,dI d)],[]⟩)))) (by
 rintro(t|t) f K h
 ·exact h
 ·exact h) (fun s=>link_map (link_seq2 (N11h b d s) (fun(t:Unit)=>(link_map (fin2:=(Sum.elim (fun(t:Int)=>(Exit.normal,⟨mkE 42 0 [(0,dL b),(1,dI d),(5,dI t)],[]⟩)) (Sum.elim (fun(t:Bool)=>(Exit.ret,⟨mkE 42 0 [(4,dB t)],[]⟩)) (fun(t:Unit)=>((Exit.exit 0),⟨mkE 42 0 [(0,dL b),(1,dI d)],[]⟩))))) (link_seq2 (link_block (fin2:=(Sum.elim (fun(t:Unit)=>(Exit.normal,⟨mkE 42 0 [(0,dL b),(1,dI d),(5,dI s)],[]⟩)) (fun(t:Bool)=>(Exit.ret,⟨mkE 42 0 [(4,dB t)],[]⟩)))) (id:=1) (link_group (c:=(cq [0,1,0,0,1,0,0,1,0,1] (bodyOf Tryz.f99))) (a:=(aq [0,1,0,0,1,0,0,1,0,1] Nm)) [(cq [0,0,0,1,0,0,1,0,1] (bodyOf Tryz.f99))] [(aq [0,0,0,1,0,0,1,0,1] Nm)] rfl (link_seq2 (Nt1 b d s) (fun(t:Unit)=>(link_block (fin2:=(Sum.elim (fun(t:Unit)=>(Exit.normal,⟨mkE 42 0 [(0,dL b),(1,dI d),(5,dI s)],[]⟩)) (fun(t:Bool)=>(Exit.ret,⟨mkE 42 0 [(4,dB t)],[]⟩)))) (id:=2) (link_loop (mk:=fun(s44:Int)=>⟨mkE 42 0 [(0,dL b),(1,dI d),(5,dI s),(6,dI s44)],[]⟩) (fin:=(Sum.elim (fun(t:Bool)=>(Exit.ret,⟨mkE 42 0 [(4,dB t)],[]⟩)) (fun(t:Unit)=>((Exit.exit 2),⟨mkE 42 0 [(0,dL b),(1,dI d),(5,dI s)],[]⟩)))) (by
 rintro(t|t) f K h
 ·exact h
 ·exact h) (fun s44=>link_map (Nye b d s s44) (Sum.elim (fun(t:Int)=>Sum.inl t) (Sum.elim (fun(t:Bool)=>Sum.inr (Sum.inl t)) (fun(t:Unit)=>Sum.inr (Sum.inr t)))) (by
 rintro(t|t|t)
 ·kernel_rfl
 ·kernel_rfl
 ·kernel_rfl)) 0) (Sum.elim (fun(t:Bool)=>(Sum.inr t)) (fun(t:Unit)=>(Sum.inl ()))) (by
 rintro(t|t) K h
 ·exact Eq.mp (by kernel_rfl) h
 ·exact Eq.mp (by kernel_rfl) h))) (fun(t:Bool)=>(Sum.inr t)) (by
 rintro t
 ·kernel_rfl) (by
 rintro t f K h
 ·exact h))) (Sum.elim (fun(t:Unit)=>(Sum.inl ())) (fun(t:Bool)=>(Sum.inr t))) (by
 rintro(t|t) K h
 ·exact Eq.mp (by kernel_rfl) h
 ·exact Eq.mp (by kernel_rfl) h)) (fun(t:Unit)=>(link_map (fin2:=(Sum.elim (fun(t:Int)=>(Exit.normal,⟨mkE 42 0 [(0,dL b),(1,dI d),(5,dI t)],[]⟩)) (fun(t:Bool)=>(Exit.ret,⟨mkE 42 0 [(4,dB t)],[]⟩)))) (Nq0 b d s) (fun(t:Int)=>(Sum.inl t)) (by
 rintro t
 ·kernel_rfl))) (fun(t:Bool)=>(Sum.inr t)) (by
 rintro t
 ·kernel_rfl) (by
 rintro t f K h
 ·exact h)) (Sum.elim (fun(t:Int)=>(Sum.inl t)) (fun(t:Bool)=>(Sum.inr (Sum.inl t)))) (by
 rintro(t|t)
 ·kernel_rfl
 ·kernel_rfl))) (fun(t:Unit)=>(Sum.inr (Sum.inr t))) (by
 rintro t
 ·kernel_rfl) (by
 rintro t f K h
 ·exact h)) (Sum.elim (fun(t:Int)=>Sum.inl t) (Sum.elim (fun(t:Bool)=>Sum.inr (Sum.inl t)) (fun(t:Unit)=>Sum.inr (Sum.inr t)))) (by
 rintro(t|t|t)
 ·kernel_rfl
 ·kernel_rfl
 ·kernel_rfl)) 0) (Sum.elim (fun(t:Bool)=>(Sum.inr t)) (fun(t:Unit)=>(Sum.inl ()))) (by
 rintro(t|t) K h
 ·exact Eq.mp (by kernel_rfl) h
 ·exact Eq.mp (by kernel_rfl) h)))) (fun(t:Unit)=>(Ny3 b d)) (fun(t:Bool)=>t) (by
 rintro t
 ·kernel_rfl) (by
 rintro t f K h
 ·exact h))))) (by unfold N5l;kernel_rfl) (by
 intro t
 exact ret_mk [dB t] (by kernel_rfl) (by kernel_rfl) (by kernel_rfl) (by kernel_rfl)) h
def Nd5:Fun:=fun avs H=>
 match avs,H with
 |[.dat (.list (.int .i64)) a,.dat (.int .i64) b],[]=>⟨_,N5l a b,fun(t:Bool)=>(dB t,[]),[],none⟩
 |_,_=>Ans.no
theorem N145:Sound Tryz.prog 99 Nd5:=by
 refine fn_sound' (C:=N1t) (c:=bodyOf Tryz.f99) (cok_of tys_ok (allc N78 alln) (allc Tryz.call51 alln) (by kernel_rfl)) Tryz.func99 (by kernel_rfl) LL Nm ?_
 intro avs H r H' h
 unfold Nd5 at h
 split at h
 ·refine Awp.cast ?_ ?_ ?_ (Nuy _ _ h)<;>kernel_rfl
 ·simp[Ans.no,Ans.run] at h
def Nc:Ann:=(.seq (.leaf [0,1]) (.seq (.seq (.leaf [0,1,19]) (.cond (.seq (.leaf [4,5]) (.leaf [4,5])) (.leaf [0,1]))) (.seq (.leaf [0,1,6]) (.seq (.seq (.leaf [0,1,6,7]) (.block (.loop (.seq (.seq (.leaf [0,1,6,7,28]) (.cond (.leaf [0,1,6,7]) (.leaf [0,1,6]))) (.seq (.block (.leaf [0,1,6,7])) (.leaf [0,1,6,7])))))) (.seq (.leaf [0,1,6,8]) (.seq (.seq (.leaf [0,1,6,8,9]) (.block (.loop (.seq (.seq (.leaf [0,1,6,8,9,43]) (.cond (.leaf [0,1,6,8,9]) (.leaf [8]))) (.seq (.block (.leaf [0,1,6,8,9])) (.leaf [0,1,6,8,9])))))) (.seq (.leaf [4,5]) (.leaf [4,5]))))))))
noncomputable def N1x:Ctx:=⟨tlook tys,olook [(27,N16),(99,Nd5)],ioF,0,false,[]⟩
theorem Nt0 (a b:List Int):Link N1x LL (Code.seq (cq [0] (bodyOf Tryz.f65)) (Code.seq (cq [0,1] (bodyOf Tryz.f65)) (cq [0,1,1] (bodyOf Tryz.f65)))) (Ann.seq (aq [0] Nc) (Ann.seq (aq [0,1] Nc) (aq [0,1,1] Nc))) ⟨mkE 61 0 [(0,dL a),(1,dL b)],[]⟩ (Ncc a b) (Sum.elim (fun(t:(List Int))=>(Exit.normal,⟨mkE 61 0 [(0,dL a),(1,dL b),(6,.slc 0)],[some (sI t)]⟩)) (fun(t:Bool×(List Int))=>(Exit.ret,⟨mkE 61 0 [(4,.slc 0),(5,dB t.1)],[some (sI t.2)]⟩))):= .of fun K h=>by
 simp only[Ncc,wpW] at h
 exact .of (by kernel_rfl) h
theorem Npz (a b c:List Int):Link N1x LL (cq [0,0,1,1,1] (bodyOf Tryz.f65)) (aq [0,0,1,1,1] Nc) ⟨mkE 61 0 [(0,dL a),(1,dL b),(6,.slc 0)],[some (sI c)]⟩ (N8t) (fun(t:Unit)=>(Exit.normal,⟨mkE 61 0 [(0,dL a),(1,dL b),(6,.slc 0),(7,dI 0)],[some (sI c)]⟩)):= .of fun K h=>by
 simp only[N8t,wpW] at h
 exact .of (by kernel_rfl) h
theorem Nuz (a b:List Int) (c:Int) (d:List Int):Link N1x LL (cq [0,0,1,0,1,1,1] (bodyOf Tryz.f65)) (aq [0,0,1,0,1,1,1] Nc) ⟨mkE 61 0 [(0,dL a),(1,dL b),(6,.slc 0),(7,dI c)],[some (sI d)]⟩ (N4c b c d) (Sum.elim (fun(t:Int×(List Int))=>(Exit.normal,⟨mkE 61 0 [(0,dL a),(1,dL b),(6,.slc 0),(7,dI t.1)],[some (sI t.2)]⟩)) (fun(t:(List Int))=>((Exit.exit 0),⟨mkE 61 0 [(0,dL a),(1,dL b),(6,.slc 0)],[some (sI t)]⟩))):= .of fun K h=>by
 simp only[N4c,wpW] at h
 exact .of (by kernel_rfl) h
theorem N11m (a b c:List Int):Link N1x LL (cq [0,1,1,1,1] (bodyOf Tryz.f65)) (aq [0,1,1,1,1] Nc) ⟨mkE 61 0 [(0,dL a),(1,dL b),(6,.slc 0)],[some (sI c)]⟩ (Ncb) (fun(t:Unit)=>(Exit.normal,⟨mkE 61 0 [(0,dL a),(1,dL b),(6,.slc 0),(8,.slc 1)],[some (sI c),some (sI ([]:List Int))]⟩)):= .of fun K h=>by
 simp only[Ncb,wpW] at h
 exact .of (by kernel_rfl) h
theorem N12n (a b c:List Int):Link N1x LL (cq [0,0,1,1,1,1,1] (bodyOf Tryz.f65)) (aq [0,0,1,1,1,1,1] Nc) ⟨mkE 61 0 [(0,dL a),(1,dL b),(6,.slc 0),(8,.slc 1)],[some (sI c),some (sI ([]:List Int))]⟩ (Nap) (fun(t:Unit)=>(Exit.normal,⟨mkE 61 0 [(0,dL a),(1,dL b),(6,.slc 0),(8,.slc 1),(9,dI 0)],[some (sI c),some (sI ([]:List Int))]⟩)):= .of fun K h=>by
 simp only[Nap,wpW] at h
 exact .of (by kernel_rfl) h
theorem N137 (a b:List Int) (c:Int) (d g:List Int):Link N1x LL (cq [0,0,1,0,1,1,1,1,1] (bodyOf Tryz.f65)) (aq [0,0,1,0,1,1,1,1,1] Nc) ⟨mkE 61 0 [(0,dL a),(1,dL b),(6,.slc 0),(8,.slc 1),(9,dI c)],[some (sI d),some (sI g)]⟩ (N76 a b c d g) (Sum.elim (fun(t:Int×(List Int))=>(Exit.normal,⟨mkE 61 0 [(0,dL a),(1,dL b),(6,.slc 0),(8,.slc 1),(9,dI t.1)],[some (sI d),some (sI t.2)]⟩)) (fun(t:(List Int))=>((Exit.exit 2),⟨mkE 61 0 [(8,.slc 0)],[some (sI t)]⟩))):= .of fun K h=>by
 simp only[N76,wpW] at h
 exact .of (by kernel_rfl) h
theorem N10a (a:List Int):Link N1x LL (cq [1,1,1,1,1,1] (bodyOf Tryz.f65)) (aq [1,1,1,1,1,1] Nc) ⟨mkE 61 0 [(8,.slc 0)],[some (sI a)]⟩ (Ncp a) (fun(t:Bool×(List Int))=>(Exit.ret,⟨mkE 61 0 [(4,.slc 0),(5,dB t.1)],[some (sI t.2)]⟩)):= .of fun K h=>by
 simp only[Ncp,wpW] at h
 exact .of (by kernel_rfl) h
theorem N14d (b d:List Int) {r:AV} {H':Heap} (h:(Ans.mk _ (N42 b d) (fun(t:Bool×(List Int))=>(.tup [.slc 0,dB t.1],[some (sI t.2)])) [] none).run=some (r,H')):Awp N1x LL (bodyOf Tryz.f65) Nc ⟨mkE 61 0 [(0,dL b),(1,dL d)],[]⟩ (Ret (tlook tys) Tryz.f65.results.toList r H'):=
 ret_of' (Link.cast (by kernel_rfl) (by kernel_rfl) (link_group (c:=(cq [0,1,1] (bodyOf Tryz.f65))) (a:=(aq [0,1,1] Nc)) [(cq [0] (bodyOf Tryz.f65)),(cq [0,1] (bodyOf Tryz.f65))] [(aq [0] Nc),(aq [0,1] Nc)] rfl (link_seq2 (Nt0 b d) (fun(t:(List Int))=>(link_seq (link_seq (Npz b d t) (fun(t45:Unit)=>(link_block (fin2:=(fun(t45:(List Int))=>(Exit.normal,⟨mkE 61 0 [(0,dL b),(1,dL d),(6,.slc 0)],[some (sI t45)]⟩))) (id:=0) (link_loop (mk:=fun(s:Int×(List Int))=>⟨mkE 61 0 [(0,dL b),(1,dL d),(6,.slc 0),(7,dI s.1)],[some (sI s.2)]⟩) (fin:=(fun(t45:(List Int))=>((Exit.exit 0),⟨mkE 61 0 [(0,dL b),(1,dL d),(6,.slc 0)],[some (sI t45)]⟩))) (by
 rintro t45 f K h
 ·exact h) (fun s=>link_map (Nuz b d s.1 s.2) (Sum.elim (fun(t45:Int×(List Int))=>Sum.inl (t45.1,t45.2)) (fun(t45:(List Int))=>Sum.inr t45)) (by
 rintro(t45|t45)
 ·kernel_rfl
 ·kernel_rfl)) (0,t)) (fun(t45:(List Int))=>t45) (by
 rintro t45 K h
 ·exact Eq.mp (by kernel_rfl) h)))) (fun(t45:(List Int))=>(link_seq (N11m b d t45) (fun(t:Unit)=>(link_seq (link_seq (N12n b d t45) (fun(t:Unit)=>(link_block (fin2:=(fun(t:(List Int))=>(Exit.normal,⟨mkE 61 0 [(8,.slc 0)],[some (sI t)]⟩))) (id:=2) (link_loop (mk:=fun(s:Int×(List Int))=>⟨mkE 61 0 [(0,dL b),(1,dL d),(6,.slc 0),(8,.slc 1),(9,dI s.1)],[some (sI t45),some (sI s.2)]⟩) (fin:=(fun(t:(List Int))=>((Exit.exit 2),⟨mkE 61 0 [(8,.slc 0)],[some (sI t)]⟩))) (by
 rintro t f K h
 ·exact h) (fun s=>link_map (N137 b d s.1 t45 s.2) (Sum.elim (fun(t:Int×(List Int))=>Sum.inl (t.1,t.2)) (fun(t:(List Int))=>Sum.inr t)) (by
 rintro(t|t)
 ·kernel_rfl
 ·kernel_rfl)) (0,([]:List Int))) (fun(t:(List Int))=>t) (by
 rintro t K h
 ·exact Eq.mp (by kernel_rfl) h)))) (fun(t:(List Int))=>(N10a t)))))))) (fun(t:Bool×(List Int))=>t) (by
 rintro t
 ·kernel_rfl) (by
 rintro t f K h
 ·exact h)))) (by unfold N42;kernel_rfl) (by
 intro t
 exact ret_mk [.slc 0,dB t.1] (by kernel_rfl) (by kernel_rfl) (by kernel_rfl) (by kernel_rfl)) h
def Nc6:Fun:=fun avs H=>
 match avs,H with
 |[.dat (.list (.int .i64)) a,.dat (.list (.int .i64)) b],[]=>⟨_,N42 a b,fun(t:Bool×(List Int))=>(.tup [.slc 0,dB t.1],[some (sI t.2)]),[],none⟩
 |_,_=>Ans.no
theorem Nol:Sound Tryz.prog 65 Nc6:=by
 refine fn_sound' (C:=N1x) (c:=bodyOf Tryz.f65) (cok_of tys_ok (allc N2f (allc N145 alln)) (allc Tryz.call27 (allc Tryz.call99 alln)) (by kernel_rfl)) Tryz.func65 (by kernel_rfl) LL Nc ?_
 intro avs H r H' h
 unfold Nc6 at h
 split at h
 ·refine Awp.cast ?_ ?_ ?_ (N14d _ _ h)<;>kernel_rfl
 ·simp[Ans.no,Ans.run] at h
def Ng:Ann:=(.seq (.seq (.leaf [0,1,2,3,4,16]) (.cond (.leaf []) (.leaf [0,1,2,3,4]))) (.seq (.leaf [0,1,2,3,4,10]) (.seq (.leaf [0,1,2,3,10]) (.seq (.leaf [0,1,3,10,11]) (.seq (.block (.loop (.seq (.seq (.leaf [0,1,3,10,11,33]) (.cond (.leaf [0,1,3,10,11]) (.leaf [0,1,3,10]))) (.block (.seq (.leaf [0,1,3,10,11,12]) (.seq (.leaf [0,1,3,10,12]) (.leaf [0,1,3,10,11]))))))) (.seq (.leaf [0,1,3,10,11]) (.block (.loop (.seq (.seq (.leaf [0,1,3,10,11,53]) (.cond (.leaf [0,1,3,10,11]) (.leaf []))) (.block (.seq (.leaf [0,1,3,10,11,13]) (.seq (.leaf [0,1,3,10,13]) (.leaf [0,1,3,10,11])))))))))))))
def N22 (n:Nat):Fun:=fun avs H=>
 match avs,H with
 |[.ptr 0 0,.slc 1,.dat (.int .i64) a,.dat (.int .i64) b,.dat (.int .i64) c],[some (.box [.dat (.list (.int .u8)) d,.dat (.int .i64) g]),some (.seq (.int .i64) i)]=>⟨_,N1d n a b c d g i,fun(t:Int×(List Int))=>(.tup [],[some (.box [dV d,dI t.1]),some (sI t.2)]),[],none⟩
 |_,_=>Ans.no
noncomputable def N4q (n:Nat):Ctx:=⟨tlook tys,olook [(19,Nk),(100,N22 n)],ioF,2,false,[]⟩
theorem Nsh (n:Nat) (a b c:Int) (d:List Int) (g:Int) (i:List Int):Link (N4q n) LL (Code.seq (cq [0] (bodyOf Tryz.f100)) (Code.seq (cq [0,1] (bodyOf Tryz.f100)) (Code.seq (cq [0,1,1] (bodyOf Tryz.f100)) (cq [0,1,1,1] (bodyOf Tryz.f100))))) (Ann.seq (aq [0] Ng) (Ann.seq (aq [0,1] Ng) (Ann.seq (aq [0,1,1] Ng) (aq [0,1,1,1] Ng)))) ⟨mkE 70 0 [(0,.ptr 0 0),(1,.slc 1),(2,dI a),(3,dI b),(4,dI c)],[some (.box [dV d,dI g]),some (sI i)]⟩ (Nbg (N1d n) a b c d g i) (Sum.elim (fun(t:Int×Int×(List Int))=>(Exit.normal,⟨mkE 70 0 [(0,.ptr 0 0),(1,.slc 1),(3,dI b),(10,dI t.1),(11,dI a)],[some (.box [dV d,dI t.2.1]),some (sI t.2.2)]⟩)) (fun(t:Int×(List Int))=>(Exit.ret,⟨mkE 70 0 [],[some (.box [dV d,dI t.1]),some (sI t.2)]⟩))):= .of fun K h=>by
 simp only[Nbg,wpW] at h
 exact .of (by kernel_rfl) h
theorem Nwi (n:Nat) (a b c:Int) (d:List Int) (g:Int) (i:List Int):Link (N4q n) LL (cq [0,0,0,1,1,1,1] (bodyOf Tryz.f100)) (aq [0,0,0,1,1,1,1] Ng) ⟨mkE 70 0 [(0,.ptr 0 0),(1,.slc 1),(3,dI a),(10,dI b),(11,dI c)],[some (.box [dV d,dI g]),some (sI i)]⟩ (N71 (N1d n) b c d g i) (Sum.elim (fun(t:Int×Int×(List Int))=>(Exit.normal,⟨mkE 70 0 [(0,.ptr 0 0),(1,.slc 1),(3,dI a),(10,dI b),(11,dI t.1)],[some (.box [dV d,dI t.2.1]),some (sI t.2.2)]⟩)) (fun(t:Int×(List Int))=>((Exit.exit 0),⟨mkE 70 0 [(0,.ptr 0 0),(1,.slc 1),(3,dI a),(10,dI b)],[some (.box [dV d,dI t.1]),some (sI t.2)]⟩))):= .of fun K h=>by
 simp only[N71,wpW] at h
 exact .of (by kernel_rfl) h
theorem N15o (n:Nat) (a b:Int) (c:List Int) (d:Int) (g:List Int):Link (N4q n) LL (cq [0,1,1,1,1,1] (bodyOf Tryz.f100)) (aq [0,1,1,1,1,1] Ng) ⟨mkE 70 0 [(0,.ptr 0 0),(1,.slc 1),(3,dI a),(10,dI b)],[some (.box [dV c,dI d]),some (sI g)]⟩ (Naw (N1d n) b) (fun(t:Int)=>(Exit.normal,⟨mkE 70 0 [(0,.ptr 0 0),(1,.slc 1),(3,dI a),(10,dI b),(11,dI t)],[some (.box [dV c,dI d]),some (sI g)]⟩)):= .of fun K h=>by
 simp only[Naw,wpW] at h
 exact .of (by kernel_rfl) h
theorem Nx0 (n:Nat) (a b c:Int) (d:List Int) (g:Int) (i:List Int):Link (N4q n) LL (cq [0,0,1,1,1,1,1,1] (bodyOf Tryz.f100)) (aq [0,0,1,1,1,1,1,1] Ng) ⟨mkE 70 0 [(0,.ptr 0 0),(1,.slc 1),(3,dI a),(10,dI b),(11,dI c)],[some (.box [dV d,dI g]),some (sI i)]⟩ (N6i (N1d n) a b c d g i) (Sum.elim (fun(t:Int×Int×(List Int))=>(Exit.normal,⟨mkE 70 0 [(0,.ptr 0 0),(1,.slc 1),(3,dI a),(10,dI b),(11,dI t.1)],[some (.box [dV d,dI t.2.1]),some (sI t.2.2)]⟩)) (fun(t:Int×(List Int))=>((Exit.exit 2),⟨mkE 70 0 [],[some (.box [dV d,dI t.1]),some (sI t.2)]⟩))):= .of fun K h=>by
 simp only[N6i,wpW] at h
 exact .of (by kernel_rfl) h
theorem Nxb (n:Nat) (b d g:Int) (i:List Int) (j:Int) (k:List Int) {r:AV} {H':Heap} (h:(Ans.mk _ (N1d (n+1) b d g i j k) (fun(t:Int×(List Int))=>(.tup [],[some (.box [dV i,dI t.1]),some (sI t.2)])) [] none).run=some (r,H')):Awp (N4q n) LL (bodyOf Tryz.f100) Ng ⟨mkE 70 0 [(0,.ptr 0 0),(1,.slc 1),(2,dI b),(3,dI d),(4,dI g)],[some (.box [dV i,dI j]),some (sI k)]⟩ (Ret (tlook tys) Tryz.f100.results.toList r H'):=
 ret_of (Link.cast (by kernel_rfl) (by kernel_rfl) (link_group (c:=(cq [0,1,1,1] (bodyOf Tryz.f100))) (a:=(aq [0,1,1,1] Ng)) [(cq [0] (bodyOf Tryz.f100)),(cq [0,1] (bodyOf Tryz.f100)),(cq [0,1,1] (bodyOf Tryz.f100))] [(aq [0] Ng),(aq [0,1] Ng),(aq [0,1,1] Ng)] rfl (link_seq2 (Nsh n b d g i j k) (fun(t:Int×Int×(List Int))=>(link_map (fin2:=(Sum.elim (fun(t:Int×(List Int))=>(Exit.normal,⟨mkE 70 0 [],[some (.box [dV i,dI t.1]),some (sI t.2)]⟩)) (fun(t:Int×(List Int))=>(Exit.ret,⟨mkE 70 0 [],[some (.box [dV i,dI t.1]),some (sI t.2)]⟩)))) (link_seq (link_block (fin2:=(fun(t55:Int×(List Int))=>(Exit.normal,⟨mkE 70 0 [(0,.ptr 0 0),(1,.slc 1),(3,dI d),(10,dI t.1)],[some (.box [dV i,dI t55.1]),some (sI t55.2)]⟩))) (id:=0) (link_loop (mk:=fun(s:Int×Int×(List Int))=>⟨mkE 70 0 [(0,.ptr 0 0),(1,.slc 1),(3,dI d),(10,dI t.1),(11,dI s.1)],[some (.box [dV i,dI s.2.1]),some (sI s.2.2)]⟩) (fin:=(fun(t55:Int×(List Int))=>((Exit.exit 0),⟨mkE 70 0 [(0,.ptr 0 0),(1,.slc 1),(3,dI d),(10,dI t.1)],[some (.box [dV i,dI t55.1]),some (sI t55.2)]⟩))) (by
 rintro t55 f K h
 ·exact h) (fun s=>link_map (Nwi n d t.1 s.1 i s.2.1 s.2.2) (Sum.elim (fun(t55:Int×Int×(List Int))=>Sum.inl (t55.1,t55.2.1,t55.2.2)) (fun(t55:Int×(List Int))=>Sum.inr t55)) (by
 rintro(t55|t55)
 ·kernel_rfl
 ·kernel_rfl)) (b,t.2.1,t.2.2)) (fun(t55:Int×(List Int))=>(t55.1,t55.2)) (by
 rintro t55 K h
 ·exact Eq.mp (by kernel_rfl) h)) (fun(t55:Int×(List Int))=>(link_seq (N15o n d t.1 i t55.1 t55.2) (fun(t4:Int)=>(link_block (fin2:=(fun(t46:Int×(List Int))=>(Exit.normal,⟨mkE 70 0 [],[some (.box [dV i,dI t46.1]),some (sI t46.2)]⟩))) (id:=2) (link_loop (mk:=fun(s:Int×Int×(List Int))=>⟨mkE 70 0 [(0,.ptr 0 0),(1,.slc 1),(3,dI d),(10,dI t.1),(11,dI s.1)],[some (.box [dV i,dI s.2.1]),some (sI s.2.2)]⟩) (fin:=(fun(t46:Int×(List Int))=>((Exit.exit 2),⟨mkE 70 0 [],[some (.box [dV i,dI t46.1]),some (sI t46.2)]⟩))) (by
 rintro t46 f K h
 ·exact h) (fun s=>link_map (Nx0 n d t.1 s.1 i s.2.1 s.2.2) (Sum.elim (fun(t46:Int×Int×(List Int))=>Sum.inl (t46.1,t46.2.1,t46.2.2)) (fun(t46:Int×(List Int))=>Sum.inr t46)) (by
 rintro(t46|t46)
 ·kernel_rfl
 ·kernel_rfl)) (t4,t55.1,t55.2)) (fun(t46:Int×(List Int))=>(t46.1,t46.2)) (by
 rintro t46 K h
 ·exact Eq.mp (by kernel_rfl) h)))))) (fun(u:Int×(List Int))=>(Sum.inl (u.1,u.2))) (by
 rintro t
 ·kernel_rfl))) (fun(t:Int×(List Int))=>(Sum.inr t)) (by
 rintro t
 ·kernel_rfl) (by
 rintro t f K h
 ·exact h)))) (Sum.elim (fun(t:Int×(List Int))=>(t.1,t.2)) (fun(t:Int×(List Int))=>t)) (by(show _=_);kernel_rfl) (by
 rintro(t|t)
 ·exact ret_mk [] (by kernel_rfl) (by kernel_rfl) (by kernel_rfl) (by kernel_rfl)
 ·exact ret_mk [] (by kernel_rfl) (by kernel_rfl) (by kernel_rfl) (by kernel_rfl)) h
theorem Nun (n:Nat) (h100:Sound Tryz.prog 100 (N22 n)):Sound Tryz.prog 100 (N22 (n+1)):=by
 refine fn_sound' (C:=N4q n) (c:=bodyOf Tryz.f100) (cok_of tys_ok (allc Nt (allc h100 alln)) (allc Tryz.call19 (allc Tryz.call100 alln)) (by kernel_rfl)) Tryz.func100 (by kernel_rfl) LL Ng ?_
 intro avs H r H' h
 unfold N22 at h
 split at h
 ·refine Awp.cast ?_ ?_ ?_ (Nxb n _ _ _ _ _ _ h)<;>kernel_rfl
 ·simp[Ans.no,Ans.run] at h
theorem N12t:Sound Tryz.prog 100 (N22 0):=by
 intro avs H r H' h
 unfold N22 at h
 split at h
 ·simp[N1d,N31,Ans.run] at h
 ·simp[Ans.no,Ans.run] at h
theorem Njp: ∀n,Sound Tryz.prog 100 (N22 n)
 |0=>N12t
 |n+1=>by
  have h100:=Njp n
  exact Nun n h100
def N94:Fun:=fun avs H=>
 match avs,H with
 |[.ptr 0 0,.slc 1,.dat (.int .i64) a,.dat (.int .i64) b,.dat (.int .i64) c],[some (.box [.dat (.list (.int .u8)) d,.dat (.int .i64) g]),some (.seq (.int .i64) i)]=>⟨_,N7c a b c d g i,fun(t:Int×(List Int))=>(.tup [],[some (.box [dV d,dI t.1]),some (sI t.2)]),[],none⟩
 |_,_=>Ans.no
theorem Ny1:Sound Tryz.prog 100 N94:=by
 have e:N94=N22 RR:=by
  funext avs H
  unfold N94 N22
  split<;>first|rfl|(simp only[N7c])
 rw[e]
 exact(Njp RR)
def Ngo:Ann:=(.seq (.leaf [0,1]) (.seq (.seq (.leaf [0,1,9]) (.cond (.seq (.leaf [4]) (.leaf [4])) (.leaf [0]))) (.seq (.leaf [0,5]) (.seq (.leaf [0,5,6]) (.seq (.leaf [6]) (.seq (.leaf [4]) (.leaf [4])))))))
noncomputable def Niv:Ctx:=⟨tlook tys,olook [(19,Nk),(64,Nbj),(100,N94)],ioF,1,false,[]⟩
theorem N18f (a:Int) (b:List Int) (c:Int):Link Niv LL (bodyOf Tryz.f67) Ngo ⟨mkE 23 0 [(0,.ptr 0 0),(1,dI a)],[some (.box [dV b,dI c])]⟩ (N7o a b c) (fun(t:Int×(List Int))=>(Exit.ret,⟨mkE 23 0 [(4,.slc 1)],[some (.box [dV b,dI t.1]),some (sI t.2)]⟩)):= .of fun K h=>by
 simp only[N7o,wpW] at h
 exact .of (by kernel_rfl) h
theorem N10y (a:Int) (b:List Int) (c:Int) {r:AV} {H':Heap} (h:(Ans.mk _ (N2c a b c) (fun(t:Int×(List Int))=>(.slc 1,[some (.box [dV b,dI t.1]),some (sI t.2)])) [] none).run=some (r,H')):Awp Niv LL (bodyOf Tryz.f67) Ngo ⟨mkE 23 0 [(0,.ptr 0 0),(1,dI a)],[some (.box [dV b,dI c])]⟩ (Ret (tlook tys) Tryz.f67.results.toList r H'):=
 ret_of' (N18f a b c) (by unfold N2c;kernel_rfl) (by
 intro t
 exact ret_mk [.slc 1] (by kernel_rfl) (by kernel_rfl) (by kernel_rfl) (by kernel_rfl)) h
def Ngf:Fun:=fun avs H=>
 match avs,H with
 |[.ptr 0 0,.dat (.int .i64) a],[some (.box [.dat (.list (.int .u8)) b,.dat (.int .i64) c])]=>⟨_,N2c a b c,fun(t:Int×(List Int))=>(.slc 1,[some (.box [dV b,dI t.1]),some (sI t.2)]),[],none⟩
 |_,_=>Ans.no
theorem N13y:Sound Tryz.prog 67 Ngf:=by
 refine fn_sound' (C:=Niv) (c:=bodyOf Tryz.f67) (cok_of tys_ok (allc Nt (allc Njt (allc Ny1 alln))) (allc Tryz.call19 (allc Tryz.call64 (allc Tryz.call100 alln))) (by kernel_rfl)) Tryz.func67 (by kernel_rfl) LL Ngo ?_
 intro avs H r H' h
 unfold Ngf at h
 split at h
 ·refine Awp.cast ?_ ?_ ?_ (N10y _ _ _ h)<;>kernel_rfl
 ·simp[Ans.no,Ans.run] at h
def Nig:Ann:=(.seq (.leaf [0,1]) (.seq (.leaf [0,1,5]) (.seq (.seq (.leaf [0,1,5,17]) (.cond (.seq (.leaf [6]) (.seq (.leaf [4]) (.leaf [4]))) (.leaf [0,1,5]))) (.seq (.seq (.leaf [0,1,5,30]) (.cond (.seq (.leaf [4]) (.leaf [4])) (.leaf [5]))) (.seq (.leaf [4]) (.leaf [4]))))))
noncomputable def Nhn:Ctx:=⟨tlook tys,olook [(64,Nbj),(19,Nk),(27,N16),(66,Nas),(65,Nc6),(67,Ngf)],ioF,1,false,[]⟩
theorem Ny0 (a:Int) (b:List Int) (c:Int):Link Nhn LL (bodyOf Tryz.f41) Nig ⟨mkE 35 0 [(0,.ptr 0 0),(1,dI a)],[some (.box [dV b,dI c])]⟩ (N7b a b c) (fun(t:Int×(List Int))=>(Exit.ret,⟨mkE 35 0 [(4,.slc 1)],[some (.box [dV b,dI t.1]),some (sI t.2)]⟩)):= .of fun K h=>by
 simp only[N7b,wpW] at h
 exact .of (by kernel_rfl) h
theorem Nqy (a:Int) (b:List Int) (c:Int) {r:AV} {H':Heap} (h:(Ans.mk _ (N2h a b c) (fun(t:Int×(List Int))=>(.slc 1,[some (.box [dV b,dI t.1]),some (sI t.2)])) [] none).run=some (r,H')):Awp Nhn LL (bodyOf Tryz.f41) Nig ⟨mkE 35 0 [(0,.ptr 0 0),(1,dI a)],[some (.box [dV b,dI c])]⟩ (Ret (tlook tys) Tryz.f41.results.toList r H'):=
 ret_of' (Ny0 a b c) (by unfold N2h;kernel_rfl) (by
 intro t
 exact ret_mk [.slc 1] (by kernel_rfl) (by kernel_rfl) (by kernel_rfl) (by kernel_rfl)) h
def Nc8:Fun:=fun avs H=>
 match avs,H with
 |[.ptr 0 0,.dat (.int .i64) a],[some (.box [.dat (.list (.int .u8)) b,.dat (.int .i64) c])]=>⟨_,N2h a b c,fun(t:Int×(List Int))=>(.slc 1,[some (.box [dV b,dI t.1]),some (sI t.2)]),[],none⟩
 |_,_=>Ans.no
theorem Npg:Sound Tryz.prog 41 Nc8:=by
 refine fn_sound' (C:=Nhn) (c:=bodyOf Tryz.f41) (cok_of tys_ok (allc Njt (allc Nt (allc N2f (allc Nko (allc Nol (allc N13y alln)))))) (allc Tryz.call64 (allc Tryz.call19 (allc Tryz.call27 (allc Tryz.call66 (allc Tryz.call65 (allc Tryz.call67 alln)))))) (by kernel_rfl)) Tryz.func41 (by kernel_rfl) LL Nig ?_
 intro avs H r H' h
 unfold Nc8 at h
 split at h
 ·refine Awp.cast ?_ ?_ ?_ (Nqy _ _ _ h)<;>kernel_rfl
 ·simp[Ans.no,Ans.run] at h
def Nfx:Ann:=(.seq (.leaf [0,1,4]) (.seq (.draw [0,3,4] [0,1,5,2,3,4,6,7,8,9,10,11,12] [] [0,1,4,5]) (.seq (.seq (.leaf [0,1,4,5,18]) (.block (.seq (.leaf [0,1,4,5,18,19]) (.cond (.seq (.leaf [0,1,4,5]) (.leaf [0,4,5])) (.seq (.leaf [0,1,4,5,34]) (.cond (.leaf [0,4,5]) (.leaf [0,4,5]))))))) (.seq (.seq (.leaf [0,4,5,47]) (.cond (.leaf [4,5]) (.leaf [4,5]))) (.seq (.leaf [4]) (.leaf [4]))))))
noncomputable def Nez:Ctx:=⟨tlook tys,olook [(19,Nk),(25,N60)],ioF,1,false,[]⟩
theorem N12y (a b:List Int) (c:Int):Link Nez LL (bodyOf Tryz.f50) Nfx ⟨mkE 55 0 [(0,.ptr 0 0),(1,dL a)],[some (.box [dV b,dI c])]⟩ (N7l a b c) (fun(t:Int×Int×Int×Int)=>(Exit.ret,⟨mkE 55 0 [(4,.ptr 1 0)],[some (.box [dV b,dI t.1]),some (.box [dI t.2.1,dI t.2.2.1,dI t.2.2.2])]⟩)):= .of fun K h=>by
 simp only[N7l,wpW] at h
 exact .of (by kernel_rfl) h
theorem N15b (a b:List Int) (c:Int) {r:AV} {H':Heap} (h:(Ans.mk _ (N1j a b c) (fun(t:Int×Int×Int×Int)=>(.agg [dI t.2.1,dI t.2.2.1,dI t.2.2.2],[some (.box [dV b,dI t.1]),some (.box [dI t.2.1,dI t.2.2.1,dI t.2.2.2])])) [] none).run=some (r,H')):Awp Nez LL (bodyOf Tryz.f50) Nfx ⟨mkE 55 0 [(0,.ptr 0 0),(1,dL a)],[some (.box [dV b,dI c])]⟩ (Ret (tlook tys) Tryz.f50.results.toList r H'):=
 ret_of' (N12y a b c) (by unfold N1j;kernel_rfl) (by
 intro t
 exact ret_mk [.agg [dI t.2.1,dI t.2.2.1,dI t.2.2.2]] (by kernel_rfl) (by kernel_rfl) (by kernel_rfl) (by kernel_rfl)) h
def Nb0:Fun:=fun avs H=>
 match avs,H with
 |[.ptr 0 0,.dat (.list (.int .i64)) a],[some (.box [.dat (.list (.int .u8)) b,.dat (.int .i64) c])]=>⟨_,N1j a b c,fun(t:Int×Int×Int×Int)=>(.agg [dI t.2.1,dI t.2.2.1,dI t.2.2.2],[some (.box [dV b,dI t.1]),some (.box [dI t.2.1,dI t.2.2.1,dI t.2.2.2])]),[],none⟩
 |_,_=>Ans.no
theorem Nmv:Sound Tryz.prog 50 Nb0:=by
 refine fn_sound' (C:=Nez) (c:=bodyOf Tryz.f50) (cok_of tys_ok (allc Nt (allc N8e alln)) (allc Tryz.call19 (allc Tryz.call25 alln)) (by kernel_rfl)) Tryz.func50 (by kernel_rfl) LL Nfx ?_
 intro avs H r H' h
 unfold Nb0 at h
 split at h
 ·refine Awp.cast ?_ ?_ ?_ (N15b _ _ _ h)<;>kernel_rfl
 ·simp[Ans.no,Ans.run] at h
def N1m:Ann:=(.seq (.leaf [0,1]) (.seq (.leaf [0,1,5]) (.seq (.seq (.leaf [0,1,5,6]) (.block (.loop (.seq (.seq (.leaf [0,1,5,6,11]) (.cond (.leaf [0,1,5,6]) (.leaf [5]))) (.seq (.block (.leaf [0,1,5,6])) (.leaf [0,1,5,6])))))) (.seq (.leaf [4]) (.leaf [4])))))
noncomputable def N54:Ctx:=⟨tlook tys,olook [(19,Nk),(50,Nb0)],ioF,1,false,[]⟩
theorem N16v (a b:List Int) (c:Int):Link N54 LL (Code.seq (cq [0] (bodyOf Tryz.f26)) (cq [0,1] (bodyOf Tryz.f26))) (Ann.seq (aq [0] N1m) (aq [0,1] N1m)) ⟨mkE 21 0 [(0,.ptr 0 0),(1,dL a)],[some (.box [dV b,dI c])]⟩ (Naz) (fun(t:Unit)=>(Exit.normal,⟨mkE 21 0 [(0,.ptr 0 0),(1,dL a),(5,.slc 1)],[some (.box [dV b,dI c]),some (.seq (.pair (.int .i64) (.pair (.int .i64) (.pair (.int .i64) .unit))) ([]:List (Int×Int×Int×Unit)))]⟩)):= .of fun K h=>by
 simp only[Naz,wpW] at h
 exact .of (by kernel_rfl) h
theorem Nzq (a b:List Int) (c:Int):Link N54 LL (cq [0,0,1,1] (bodyOf Tryz.f26)) (aq [0,0,1,1] N1m) ⟨mkE 21 0 [(0,.ptr 0 0),(1,dL a),(5,.slc 1)],[some (.box [dV b,dI c]),some (.seq (.pair (.int .i64) (.pair (.int .i64) (.pair (.int .i64) .unit))) ([]:List (Int×Int×Int×Unit)))]⟩ (N92 b c) (fun(t:Int×Int)=>(Exit.normal,⟨mkE 21 0 [(0,.ptr 0 0),(1,dL a),(5,.slc 1),(6,dI t.1)],[some (.box [dV b,dI t.2]),some (.seq (.pair (.int .i64) (.pair (.int .i64) (.pair (.int .i64) .unit))) ([]:List (Int×Int×Int×Unit)))]⟩)):= .of fun K h=>by
 simp only[N92,wpW] at h
 exact .of (by kernel_rfl) h
theorem Npk (a:List Int) (b:Int) (c:List Int) (d:Int) (g:List (Int×Int×Int×Unit)):Link N54 LL (cq [0,0,1,0,1,1] (bodyOf Tryz.f26)) (aq [0,0,1,0,1,1] N1m) ⟨mkE 21 0 [(0,.ptr 0 0),(1,dL a),(5,.slc 1),(6,dI b)],[some (.box [dV c,dI d]),some (.seq (.pair (.int .i64) (.pair (.int .i64) (.pair (.int .i64) .unit))) g)]⟩ (N6j a b c d g) (Sum.elim (fun(t:Int×Int×(List (Int×Int×Int×Unit)))=>(Exit.normal,⟨mkE 21 0 [(0,.ptr 0 0),(1,dL a),(5,.slc 1),(6,dI t.1)],[some (.box [dV c,dI t.2.1]),some (.seq (.pair (.int .i64) (.pair (.int .i64) (.pair (.int .i64) .unit))) t.2.2)]⟩)) (fun(t:Int×(List (Int×Int×Int×Unit)))=>((Exit.exit 0),⟨mkE 21 0 [(5,.slc 1)],[some (.box [dV c,dI t.1]),some (.seq (.pair (.int .i64) (.pair (.int .i64) (.pair (.int .i64) .unit))) t.2)]⟩))):= .of fun K h=>by
 simp only[N6j,wpW] at h
 exact .of (by kernel_rfl) h
theorem Npm (a:List Int) (b:Int) (c:List (Int×Int×Int×Unit)):Link N54 LL (cq [1,1,1] (bodyOf Tryz.f26)) (aq [1,1,1] N1m) ⟨mkE 21 0 [(5,.slc 1)],[some (.box [dV a,dI b]),some (.seq (.pair (.int .i64) (.pair (.int .i64) (.pair (.int .i64) .unit))) c)]⟩ (Neo b c) (fun(t:Int×(List (Int×Int×Int×Unit)))=>(Exit.ret,⟨mkE 21 0 [(4,.slc 1)],[some (.box [dV a,dI t.1]),some (.seq (.pair (.int .i64) (.pair (.int .i64) (.pair (.int .i64) .unit))) t.2)]⟩)):= .of fun K h=>by
 simp only[Neo,wpW] at h
 exact .of (by kernel_rfl) h
theorem Nym (b d:List Int) (g:Int) {r:AV} {H':Heap} (h:(Ans.mk _ (N2g b d g) (fun(t:Int×(List (Int×Int×Int×Unit)))=>(.slc 1,[some (.box [dV d,dI t.1]),some (.seq (.pair (.int .i64) (.pair (.int .i64) (.pair (.int .i64) .unit))) t.2)])) [] none).run=some (r,H')):Awp N54 LL (bodyOf Tryz.f26) N1m ⟨mkE 21 0 [(0,.ptr 0 0),(1,dL b)],[some (.box [dV d,dI g])]⟩ (Ret (tlook tys) Tryz.f26.results.toList r H'):=
 ret_of' (Link.cast (by kernel_rfl) (by kernel_rfl) (link_group (c:=(cq [0,1] (bodyOf Tryz.f26))) (a:=(aq [0,1] N1m)) [(cq [0] (bodyOf Tryz.f26))] [(aq [0] N1m)] rfl (link_seq (N16v b d g) (fun(t:Unit)=>(link_seq (link_seq (Nzq b d g) (fun(t:Int×Int)=>(link_block (fin2:=(fun(t23:Int×(List (Int×Int×Int×Unit)))=>(Exit.normal,⟨mkE 21 0 [(5,.slc 1)],[some (.box [dV d,dI t23.1]),some (.seq (.pair (.int .i64) (.pair (.int .i64) (.pair (.int .i64) .unit))) t23.2)]⟩))) (id:=0) (link_loop (mk:=fun(s:Int×Int×(List (Int×Int×Int×Unit)))=>⟨mkE 21 0 [(0,.ptr 0 0),(1,dL b),(5,.slc 1),(6,dI s.1)],[some (.box [dV d,dI s.2.1]),some (.seq (.pair (.int .i64) (.pair (.int .i64) (.pair (.int .i64) .unit))) s.2.2)]⟩) (fin:=(fun(t23:Int×(List (Int×Int×Int×Unit)))=>((Exit.exit 0),⟨mkE 21 0 [(5,.slc 1)],[some (.box [dV d,dI t23.1]),some (.seq (.pair (.int .i64) (.pair (.int .i64) (.pair (.int .i64) .unit))) t23.2)]⟩))) (by
 rintro t23 f K h
 ·exact h) (fun s=>link_map (Npk b s.1 d s.2.1 s.2.2) (Sum.elim (fun(t23:Int×Int×(List (Int×Int×Int×Unit)))=>Sum.inl (t23.1,t23.2.1,t23.2.2)) (fun(t23:Int×(List (Int×Int×Int×Unit)))=>Sum.inr t23)) (by
 rintro(t23|t23)
 ·kernel_rfl
 ·kernel_rfl)) (t.1,t.2,([]:List (Int×Int×Int×Unit)))) (fun(t23:Int×(List (Int×Int×Int×Unit)))=>(t23.1,t23.2)) (by
 rintro t23 K h
 ·exact Eq.mp (by kernel_rfl) h)))) (fun(t:Int×(List (Int×Int×Int×Unit)))=>(Npm d t.1 t.2))))))) (by unfold N2g;kernel_rfl) (by
 intro t
 exact ret_mk [.slc 1] (by kernel_rfl) (by kernel_rfl) (by kernel_rfl) (by kernel_rfl)) h
def Naa:Fun:=fun avs H=>
 match avs,H with
 |[.ptr 0 0,.dat (.list (.int .i64)) a],[some (.box [.dat (.list (.int .u8)) b,.dat (.int .i64) c])]=>⟨_,N2g a b c,fun(t:Int×(List (Int×Int×Int×Unit)))=>(.slc 1,[some (.box [dV b,dI t.1]),some (.seq (.pair (.int .i64) (.pair (.int .i64) (.pair (.int .i64) .unit))) t.2)]),[],none⟩
 |_,_=>Ans.no
theorem Nmr:Sound Tryz.prog 26 Naa:=by
 refine fn_sound' (C:=N54) (c:=bodyOf Tryz.f26) (cok_of tys_ok (allc Nt (allc Nmv alln)) (allc Tryz.call19 (allc Tryz.call50 alln)) (by kernel_rfl)) Tryz.func26 (by kernel_rfl) LL N1m ?_
 intro avs H r H' h
 unfold Naa at h
 split at h
 ·refine Awp.cast ?_ ?_ ?_ (Nym _ _ _ h)<;>kernel_rfl
 ·simp[Ans.no,Ans.run] at h
def Nie:Ann:=(.seq (.leaf [0]) (.seq (.seq (.leaf [0,4]) (.cond (.seq (.leafF [⟨5,9,false,none,none⟩] [2]) (.leaf [2])) (.leaf [0]))) (.seq (.draw [2,7] [0,1,3,4,5,6,7,8,2,9,10] [] [2]) (.leaf [2]))))
def N20 (n:Nat):Fun:=fun avs H=>
 match avs,H with
 |[.dat (.int .i64) a],[]=>⟨_,N74 n a,fun(t:ByteArray)=>(dS t,[]),[],none⟩
 |_,_=>Ans.no
noncomputable def Niz (n:Nat):Ctx:=⟨tlook tys,olook [(63,N20 n)],ioF,0,false,[]⟩
theorem Nwn (n:Nat) (a:Int):Link (Niz n) LL (bodyOf Tryz.f63) Nie ⟨mkE 21 0 [(0,dI a)],[]⟩ (Ngn (N74 n) a) (fun(t:ByteArray)=>(Exit.ret,⟨mkE 21 0 [(2,dS t)],[]⟩)):= .of fun K h=>by
 simp only[Ngn,wpW] at h
 exact .of (by kernel_rfl) h
theorem Nzl (n:Nat) (a:Int) {r:AV} {H':Heap} (h:(Ans.mk _ (N74 (n+1) a) (fun(t:ByteArray)=>(dS t,[])) [] none).run=some (r,H')):Awp (Niz n) LL (bodyOf Tryz.f63) Nie ⟨mkE 21 0 [(0,dI a)],[]⟩ (Ret (tlook tys) Tryz.f63.results.toList r H'):=
 ret_of' (Nwn n a) (by(show _=_);kernel_rfl) (by
 intro t
 exact ret_mk [dS t] (by kernel_rfl) (by kernel_rfl) (by kernel_rfl) (by kernel_rfl)) h
theorem N17q (n:Nat) (h63:Sound Tryz.prog 63 (N20 n)):Sound Tryz.prog 63 (N20 (n+1)):=by
 refine fn_sound' (C:=Niz n) (c:=bodyOf Tryz.f63) (cok_of tys_ok (allc h63 alln) (allc Tryz.call63 alln) (by kernel_rfl)) Tryz.func63 (by kernel_rfl) LL Nie ?_
 intro avs H r H' h
 unfold N20 at h
 split at h
 ·refine Awp.cast ?_ ?_ ?_ (Nzl n _ h)<;>kernel_rfl
 ·simp[Ans.no,Ans.run] at h
theorem Nru:Sound Tryz.prog 63 (N20 0):=by
 intro avs H r H' h
 unfold N20 at h
 split at h
 ·simp[N74,Nep,Ans.run] at h
 ·simp[Ans.no,Ans.run] at h
theorem Nmc: ∀n,Sound Tryz.prog 63 (N20 n)
 |0=>Nru
 |n+1=>by
  have h63:=Nmc n
  exact N17q n h63
def N98:Fun:=fun avs H=>
 match avs,H with
 |[.dat (.int .i64) a],[]=>⟨_,Nx a,fun(t:ByteArray)=>(dS t,[]),[],none⟩
 |_,_=>Ans.no
theorem N14e:Sound Tryz.prog 63 N98:=by
 have e:N98=N20 RR:=by
  funext avs H
  unfold N98 N20
  split<;>first|rfl|(simp only[Nx])
 rw[e]
 exact(Nmc RR)
def N2e:Ann:=(.seq (.leaf [1]) (.seq (.block (.seq (.leaf [1,3]) (.cond (.seq (.draw [2,7] [0,1,5,6,2,3,4,7,8,9] [] [2]) (.leaf [2])) (.seq (.leaf [1,26]) (.cond (.seq (.leaf [2]) (.leaf [2])) (.seq (.leaf [1,44]) (.cond (.seq (.leaf [2]) (.leaf [2])) (.seq (.leaf [1,48]) (.cond (.seq (.leaf [2]) (.leaf [2])) (.seq (.leaf [1,52]) (.cond (.seq (.leaf [2]) (.leaf [2])) (.seq (.leaf [56]) (.cond (.seq (.leaf [2]) (.leaf [2])) (.leaf [])))))))))))))) (.seq (.leaf [2]) (.leaf [2]))))
noncomputable def N2m:Ctx:=⟨tlook tys,olook [(51,N36),(63,N98)],ioF,0,false,[]⟩
theorem N101 (a b c:Int):Link N2m LL (cq [0] (bodyOf Tryz.f40)) (aq [0] N2e) ⟨mkE 60 0 [(0,.agg [dI a,dI b,dI c])],[]⟩ (N86) (fun(t:Unit)=>(Exit.normal,⟨mkE 60 0 [(1,.ptr 0 0)],[some (.box [dI a,dI b,dI c])]⟩)):= .of fun K h=>by
 simp only[N86,wpW] at h
 exact .of (by kernel_rfl) h
theorem N179 (a b c:Int):Link N2m LL (cq [0,0,0,1] (bodyOf Tryz.f40)) (aq [0,0,0,1] N2e) ⟨mkE 60 0 [(1,.ptr 0 0)],[some (.box [dI a,dI b,dI c])]⟩ (Nb3 a b c) (fun(t:Bool)=>(Exit.normal,⟨mkE 60 0 [(1,.ptr 0 0),(3,dB t)],[some (.box [dI a,dI b,dI c])]⟩)):= .of fun K h=>by
 simp only[Nb3,wpW] at h
 exact .of (by kernel_rfl) h
theorem N15l (a:Bool) (b c d:Int):Link N2m LL (cq [0,1,0,0,1] (bodyOf Tryz.f40)) (aq [0,1,0,0,1] N2e) ⟨mkE 60 0 [(1,.ptr 0 0),(3,dB a)],[some (.box [dI b,dI c,dI d])]⟩ (Nc0 c d) (fun(t:ByteArray)=>(Exit.ret,⟨mkE 60 0 [(2,dS t)],[]⟩)):= .of fun K h=>by
 simp only[Nc0,wpW] at h
 exact .of (by kernel_rfl) h
theorem N16x (a:Bool) (b c d:Int):Link N2m LL (cq [0,1,1,0,0,1] (bodyOf Tryz.f40)) (aq [0,1,1,0,0,1] N2e) ⟨mkE 60 0 [(1,.ptr 0 0),(3,dB a)],[some (.box [dI b,dI c,dI d])]⟩ (Nc7 b c d) (fun(t:Bool)=>(Exit.normal,⟨mkE 60 0 [(1,.ptr 0 0),(26,dB t)],[some (.box [dI b,dI c,dI d])]⟩)):= .of fun K h=>by
 simp only[Nc7,wpW] at h
 exact .of (by kernel_rfl) h
theorem Nt5 (a:Bool) (b c d:Int):Link N2m LL (cq [1,1,1,0,0,1] (bodyOf Tryz.f40)) (aq [1,1,1,0,0,1] N2e) ⟨mkE 60 0 [(1,.ptr 0 0),(26,dB a)],[some (.box [dI b,dI c,dI d])]⟩ (N77 a b c d) (Sum.elim (fun(t:Unit)=>(Exit.normal,⟨mkE 60 0 [],[]⟩)) (fun(t:ByteArray)=>(Exit.ret,⟨mkE 60 0 [(2,dS t)],[]⟩))):= .of fun K h=>by
 simp only[N77,wpW] at h
 exact .of (by kernel_rfl) h
theorem N10l:Link N2m LL (cq [1,1] (bodyOf Tryz.f40)) (aq [1,1] N2e) ⟨mkE 60 0 [],[]⟩ (Nd0) (fun(t:ByteArray)=>(Exit.ret,⟨mkE 60 0 [(2,dS t)],[]⟩)):= .of fun K h=>by
 simp only[Nd0,wpW] at h
 exact .of (by kernel_rfl) h
theorem Nr0 (a b d:Int) {r:AV} {H':Heap} (h:(Ans.mk _ (Nh a b d) (fun(t:ByteArray)=>(dS t,[])) [] none).run=some (r,H')):Awp N2m LL (bodyOf Tryz.f40) N2e ⟨mkE 60 0 [(0,.agg [dI a,dI b,dI d])],[]⟩ (Ret (tlook tys) Tryz.f40.results.toList r H'):=
 ret_of' (Link.cast (by kernel_rfl) (by kernel_rfl) (link_seq (N101 a b d) (fun(t:Unit)=>(link_seq2 (link_block (fin2:=(Sum.elim (fun(t:Unit)=>(Exit.normal,⟨mkE 60 0 [],[]⟩)) (fun(t:ByteArray)=>(Exit.ret,⟨mkE 60 0 [(2,dS t)],[]⟩)))) (id:=0) (link_seq (N179 a b d) (fun(t:Bool)=>(link_cond (c:= .tmp 3) (g:=t) (by kernel_rfl) ((link_map (fin2:=(Sum.elim (fun(t24:Unit)=>(Exit.normal,⟨mkE 60 0 [],[]⟩)) (fun(t24:ByteArray)=>(Exit.ret,⟨mkE 60 0 [(2,dS t24)],[]⟩)))) (N15l t a b d) (fun(t24:ByteArray)=>(Sum.inr t24)) (by
 rintro t24
 ·kernel_rfl))) ((link_seq (N16x t a b d) (fun(t24:Bool)=>(Nt5 t24 a b d))))))) (Sum.elim (fun(t:Unit)=>(Sum.inl ())) (fun(t:ByteArray)=>(Sum.inr t))) (by
 rintro(t|t) K h
 ·exact Eq.mp (by kernel_rfl) h
 ·exact Eq.mp (by kernel_rfl) h)) (fun(t:Unit)=>(N10l)) (fun(t:ByteArray)=>t) (by
 rintro t
 ·kernel_rfl) (by
 rintro t f K h
 ·exact h))))) (by unfold Nh;kernel_rfl) (by
 intro t
 exact ret_mk [dS t] (by kernel_rfl) (by kernel_rfl) (by kernel_rfl) (by kernel_rfl)) h
def N6d:Fun:=fun avs H=>
 match avs,H with
 |[.agg [.dat (.int .i64) a,.dat (.int .i64) b,.dat (.int .i64) c]],[]=>⟨_,Nh a b c,fun(t:ByteArray)=>(dS t,[]),[],none⟩
 |_,_=>Ans.no
theorem Ng5:Sound Tryz.prog 40 N6d:=by
 refine fn_sound' (C:=N2m) (c:=bodyOf Tryz.f40) (cok_of tys_ok (allc N78 (allc N14e alln)) (allc Tryz.call51 (allc Tryz.call63 alln)) (by kernel_rfl)) Tryz.func40 (by kernel_rfl) LL N2e ?_
 intro avs H r H' h
 unfold N6d at h
 split at h
 ·refine Awp.cast ?_ ?_ ?_ (Nr0 _ _ _ h)<;>kernel_rfl
 ·simp[Ans.no,Ans.run] at h
def N13:Ann:=(.seq (.leaf [0]) (.seq (.leaf [0,3]) (.seq (.leafF [⟨3,9,false,none,none⟩] [3,4]) (.seq (.seq (.leaf [3,4,5]) (.block (.loop (.seq (.seq (.leaf [3,4,5,14]) (.cond (.leaf [3,4,5]) (.leaf [3]))) (.seq (.block (.seq (.leaf [3,4,5,22]) (.cond (.leaf [3,4,5]) (.leaf [3,4,5])))) (.leaf [3,4,5])))))) (.seq (.leaf [2]) (.leaf [2]))))))
noncomputable def N5t:Ctx:=⟨tlook tys,olook [(41,Nc8),(26,Naa),(40,N6d)],ioF,1,false,[]⟩
theorem Nzc (a:List Int) (b:Int):Link N5t LL (Code.seq (cq [0] (bodyOf Tryz.f18)) (Code.seq (cq [0,1] (bodyOf Tryz.f18)) (cq [0,1,1] (bodyOf Tryz.f18)))) (Ann.seq (aq [0] N13) (Ann.seq (aq [0,1] N13) (aq [0,1,1] N13))) ⟨mkE 31 0 [(0,.ptr 0 0)],[some (.box [dV a,dI b])]⟩ (Nag a b) (fun(t:Int×(List (Int×Int×Int×Unit)))=>(Exit.normal,⟨mkE 31 0 [(3,.slc 1),(4,.slc 2)],[some (.box [dV a,dI t.1]),some (.seq (.pair (.int .i64) (.pair (.int .i64) (.pair (.int .i64) .unit))) ([]:List (Int×Int×Int×Unit))),some (.seq (.pair (.int .i64) (.pair (.int .i64) (.pair (.int .i64) .unit))) t.2)]⟩)):= .of fun K h=>by
 simp only[Nag,wpW] at h
 exact .of (by kernel_rfl) h
theorem N15w (a:List Int) (b:Int) (c:List (Int×Int×Int×Unit)):Link N5t LL (cq [0,0,1,1,1] (bodyOf Tryz.f18)) (aq [0,0,1,1,1] N13) ⟨mkE 31 0 [(3,.slc 1),(4,.slc 2)],[some (.box [dV a,dI b]),some (.seq (.pair (.int .i64) (.pair (.int .i64) (.pair (.int .i64) .unit))) ([]:List (Int×Int×Int×Unit))),some (.seq (.pair (.int .i64) (.pair (.int .i64) (.pair (.int .i64) .unit))) c)]⟩ (Nac) (fun(t:Unit)=>(Exit.normal,⟨mkE 31 0 [(3,.slc 1),(4,.slc 2),(5,dI 0)],[some (.box [dV a,dI b]),some (.seq (.pair (.int .i64) (.pair (.int .i64) (.pair (.int .i64) .unit))) ([]:List (Int×Int×Int×Unit))),some (.seq (.pair (.int .i64) (.pair (.int .i64) (.pair (.int .i64) .unit))) c)]⟩)):= .of fun K h=>by
 simp only[Nac,wpW] at h
 exact .of (by kernel_rfl) h
theorem Nvg (a:Int) (b:List Int) (c:Int) (d g:List (Int×Int×Int×Unit)):Link N5t LL (cq [0,0,1,0,1,1,1] (bodyOf Tryz.f18)) (aq [0,0,1,0,1,1,1] N13) ⟨mkE 31 0 [(3,.slc 1),(4,.slc 2),(5,dI a)],[some (.box [dV b,dI c]),some (.seq (.pair (.int .i64) (.pair (.int .i64) (.pair (.int .i64) .unit))) d),some (.seq (.pair (.int .i64) (.pair (.int .i64) (.pair (.int .i64) .unit))) g)]⟩ (N6w a d g) (Sum.elim (fun(t:Int×(List (Int×Int×Int×Unit)))=>(Exit.normal,⟨mkE 31 0 [(3,.slc 1),(4,.slc 2),(5,dI t.1)],[some (.box [dV b,dI c]),some (.seq (.pair (.int .i64) (.pair (.int .i64) (.pair (.int .i64) .unit))) t.2),some (.seq (.pair (.int .i64) (.pair (.int .i64) (.pair (.int .i64) .unit))) g)]⟩)) (fun(t:(List (Int×Int×Int×Unit)))=>((Exit.exit 0),⟨mkE 31 0 [(3,.slc 1)],[some (.box [dV b,dI c]),some (.seq (.pair (.int .i64) (.pair (.int .i64) (.pair (.int .i64) .unit))) t)]⟩))):= .of fun K h=>by
 simp only[N6w,wpW] at h
 exact .of (by kernel_rfl) h
theorem Nr3 (a:List Int) (b:Int) (c:List (Int×Int×Int×Unit)):Link N5t LL (cq [1,1,1,1] (bodyOf Tryz.f18)) (aq [1,1,1,1] N13) ⟨mkE 31 0 [(3,.slc 1)],[some (.box [dV a,dI b]),some (.seq (.pair (.int .i64) (.pair (.int .i64) (.pair (.int .i64) .unit))) c)]⟩ (Nen b c) (fun(t:Int×(List (Int×Int×Int×Unit)))=>(Exit.ret,⟨mkE 31 0 [(2,.slc 1)],[some (.box [dV a,dI t.1]),some (.seq (.pair (.int .i64) (.pair (.int .i64) (.pair (.int .i64) .unit))) t.2)]⟩)):= .of fun K h=>by
 simp only[Nen,wpW] at h
 exact .of (by kernel_rfl) h
theorem N135 (b:List Int) (d:Int) {r:AV} {H':Heap} (h:(Ans.mk _ (N33 b d) (fun(t:Int×(List (Int×Int×Int×Unit)))=>(.slc 1,[some (.box [dV b,dI t.1]),some (.seq (.pair (.int .i64) (.pair (.int .i64) (.pair (.int .i64) .unit))) t.2)])) [] none).run=some (r,H')):Awp N5t LL (bodyOf Tryz.f18) N13 ⟨mkE 31 0 [(0,.ptr 0 0)],[some (.box [dV b,dI d])]⟩ (Ret (tlook tys) Tryz.f18.results.toList r H'):=
 ret_of' (Link.cast (by kernel_rfl) (by kernel_rfl) (link_group (c:=(cq [0,1,1] (bodyOf Tryz.f18))) (a:=(aq [0,1,1] N13)) [(cq [0] (bodyOf Tryz.f18)),(cq [0,1] (bodyOf Tryz.f18))] [(aq [0] N13),(aq [0,1] N13)] rfl (link_seq (Nzc b d) (fun(t:Int×(List (Int×Int×Int×Unit)))=>(link_seq (link_seq (N15w b t.1 t.2) (fun(t47:Unit)=>(link_block (fin2:=(fun(t47:(List (Int×Int×Int×Unit)))=>(Exit.normal,⟨mkE 31 0 [(3,.slc 1)],[some (.box [dV b,dI t.1]),some (.seq (.pair (.int .i64) (.pair (.int .i64) (.pair (.int .i64) .unit))) t47)]⟩))) (id:=0) (link_loop (mk:=fun(s:Int×(List (Int×Int×Int×Unit)))=>⟨mkE 31 0 [(3,.slc 1),(4,.slc 2),(5,dI s.1)],[some (.box [dV b,dI t.1]),some (.seq (.pair (.int .i64) (.pair (.int .i64) (.pair (.int .i64) .unit))) s.2),some (.seq (.pair (.int .i64) (.pair (.int .i64) (.pair (.int .i64) .unit))) t.2)]⟩) (fin:=(fun(t47:(List (Int×Int×Int×Unit)))=>((Exit.exit 0),⟨mkE 31 0 [(3,.slc 1)],[some (.box [dV b,dI t.1]),some (.seq (.pair (.int .i64) (.pair (.int .i64) (.pair (.int .i64) .unit))) t47)]⟩))) (by
 rintro t47 f K h
 ·exact h) (fun s=>link_map (Nvg s.1 b t.1 s.2 t.2) (Sum.elim (fun(t47:Int×(List (Int×Int×Int×Unit)))=>Sum.inl (t47.1,t47.2)) (fun(t47:(List (Int×Int×Int×Unit)))=>Sum.inr t47)) (by
 rintro(t47|t47)
 ·kernel_rfl
 ·kernel_rfl)) (0,([]:List (Int×Int×Int×Unit)))) (fun(t47:(List (Int×Int×Int×Unit)))=>t47) (by
 rintro t47 K h
 ·exact Eq.mp (by kernel_rfl) h)))) (fun(t47:(List (Int×Int×Int×Unit)))=>(Nr3 b t.1 t47))))))) (by unfold N33;kernel_rfl) (by
 intro t
 exact ret_mk [.slc 1] (by kernel_rfl) (by kernel_rfl) (by kernel_rfl) (by kernel_rfl)) h
def Ni7:Fun:=fun avs H=>
 match avs,H with
 |[.ptr 0 0],[some (.box [.dat (.list (.int .u8)) a,.dat (.int .i64) b])]=>⟨_,N33 a b,fun(t:Int×(List (Int×Int×Int×Unit)))=>(.slc 1,[some (.box [dV a,dI t.1]),some (.seq (.pair (.int .i64) (.pair (.int .i64) (.pair (.int .i64) .unit))) t.2)]),[],none⟩
 |_,_=>Ans.no
theorem N13w:Sound Tryz.prog 18 Ni7:=by
 refine fn_sound' (C:=N5t) (c:=bodyOf Tryz.f18) (cok_of tys_ok (allc Npg (allc Nmr (allc Ng5 alln))) (allc Tryz.call41 (allc Tryz.call26 (allc Tryz.call40 alln))) (by kernel_rfl)) Tryz.func18 (by kernel_rfl) LL N13 ?_
 intro avs H r H' h
 unfold Ni7 at h
 split at h
 ·refine Awp.cast ?_ ?_ ?_ (N135 _ _ h)<;>kernel_rfl
 ·simp[Ans.no,Ans.run] at h
def N1h:Ann:=(.seq (.leaf [0]) (.seq (.leaf [0,3]) (.seq (.seq (.leaf [0,3,4]) (.block (.loop (.seq (.seq (.leaf [0,3,4,8]) (.cond (.leaf [0,3,4]) (.leaf [3]))) (.seq (.block (.seq (.seq (.leaf [0,3,4,16]) (.cond (.seq (.leaf [2]) (.leaf [2])) (.leaf [0,3,4]))) (.leaf [0,3,4]))) (.leaf [0,3,4])))))) (.seq (.leaf [2]) (.leaf [2])))))
noncomputable def N5x:Ctx:=⟨tlook tys,olook [(40,N6d)],ioF,0,false,[]⟩
theorem Nqo (a:List (Int×Int×Int×Unit)):Link N5x LL (Code.seq (cq [0] (bodyOf Tryz.f17)) (cq [0,1] (bodyOf Tryz.f17))) (Ann.seq (aq [0] N1h) (aq [0,1] N1h)) ⟨mkE 26 0 [(0,.dat (.list (.pair (.int .i64) (.pair (.int .i64) (.pair (.int .i64) .unit)))) a)],[]⟩ (Nak) (fun(t:Unit)=>(Exit.normal,⟨mkE 26 0 [(0,.dat (.list (.pair (.int .i64) (.pair (.int .i64) (.pair (.int .i64) .unit)))) a),(3,dS ByteArray.empty)],[]⟩)):= .of fun K h=>by
 simp only[Nak,wpW] at h
 exact .of (by kernel_rfl) h
theorem Nz9 (a:List (Int×Int×Int×Unit)):Link N5x LL (cq [0,0,1,1] (bodyOf Tryz.f17)) (aq [0,0,1,1] N1h) ⟨mkE 26 0 [(0,.dat (.list (.pair (.int .i64) (.pair (.int .i64) (.pair (.int .i64) .unit)))) a),(3,dS ByteArray.empty)],[]⟩ (Nau) (fun(t:Unit)=>(Exit.normal,⟨mkE 26 0 [(0,.dat (.list (.pair (.int .i64) (.pair (.int .i64) (.pair (.int .i64) .unit)))) a),(3,dS ByteArray.empty),(4,dI 0)],[]⟩)):= .of fun K h=>by
 simp only[Nau,wpW] at h
 exact .of (by kernel_rfl) h
theorem N10b (a:List (Int×Int×Int×Unit)) (b:ByteArray) (c:Int):Link N5x LL (cq [0,0,1,0,1,1] (bodyOf Tryz.f17)) (aq [0,0,1,0,1,1] N1h) ⟨mkE 26 0 [(0,.dat (.list (.pair (.int .i64) (.pair (.int .i64) (.pair (.int .i64) .unit)))) a),(3,dS b),(4,dI c)],[]⟩ (N34 a b c) (Sum.elim (fun(t:ByteArray×Int)=>(Exit.normal,⟨mkE 26 0 [(0,.dat (.list (.pair (.int .i64) (.pair (.int .i64) (.pair (.int .i64) .unit)))) a),(3,dS t.1),(4,dI t.2)],[]⟩)) (Sum.elim (fun(t:ByteArray)=>(Exit.ret,⟨mkE 26 0 [(2,dS t)],[]⟩)) (fun(t:ByteArray)=>((Exit.exit 0),⟨mkE 26 0 [(3,dS t)],[]⟩)))):= .of fun K h=>by
 simp only[N34,wpW] at h
 exact .of (by kernel_rfl) h
theorem N17h (a:ByteArray):Link N5x LL (cq [1,1,1] (bodyOf Tryz.f17)) (aq [1,1,1] N1h) ⟨mkE 26 0 [(3,dS a)],[]⟩ (N9h a) (fun(t:ByteArray)=>(Exit.ret,⟨mkE 26 0 [(2,dS t)],[]⟩)):= .of fun K h=>by
 simp only[N9h,wpW] at h
 exact .of (by kernel_rfl) h
theorem Nvj (b:List (Int×Int×Int×Unit)) {r:AV} {H':Heap} (h:(Ans.mk _ (N2w b) (fun(t:ByteArray)=>(dS t,[])) [] none).run=some (r,H')):Awp N5x LL (bodyOf Tryz.f17) N1h ⟨mkE 26 0 [(0,.dat (.list (.pair (.int .i64) (.pair (.int .i64) (.pair (.int .i64) .unit)))) b)],[]⟩ (Ret (tlook tys) Tryz.f17.results.toList r H'):=
 ret_of' (Link.cast (by kernel_rfl) (by kernel_rfl) (link_group (c:=(cq [0,1] (bodyOf Tryz.f17))) (a:=(aq [0,1] N1h)) [(cq [0] (bodyOf Tryz.f17))] [(aq [0] N1h)] rfl (link_seq (Nqo b) (fun(t:Unit)=>(link_seq2 (link_seq (Nz9 b) (fun(t:Unit)=>(link_block (fin2:=(Sum.elim (fun(t:ByteArray)=>(Exit.normal,⟨mkE 26 0 [(3,dS t)],[]⟩)) (fun(t:ByteArray)=>(Exit.ret,⟨mkE 26 0 [(2,dS t)],[]⟩)))) (id:=0) (link_loop (mk:=fun(s:ByteArray×Int)=>⟨mkE 26 0 [(0,.dat (.list (.pair (.int .i64) (.pair (.int .i64) (.pair (.int .i64) .unit)))) b),(3,dS s.1),(4,dI s.2)],[]⟩) (fin:=(Sum.elim (fun(t:ByteArray)=>(Exit.ret,⟨mkE 26 0 [(2,dS t)],[]⟩)) (fun(t:ByteArray)=>((Exit.exit 0),⟨mkE 26 0 [(3,dS t)],[]⟩)))) (by
 rintro(t|t) f K h
 ·exact h
 ·exact h) (fun s=>link_map (N10b b s.1 s.2) (Sum.elim (fun(t:ByteArray×Int)=>Sum.inl (t.1,t.2)) (Sum.elim (fun(t:ByteArray)=>Sum.inr (Sum.inl t)) (fun(t:ByteArray)=>Sum.inr (Sum.inr t)))) (by
 rintro(t|t|t)
 ·kernel_rfl
 ·kernel_rfl
 ·kernel_rfl)) (ByteArray.empty,0)) (Sum.elim (fun(t:ByteArray)=>(Sum.inr t)) (fun(t:ByteArray)=>(Sum.inl t))) (by
 rintro(t|t) K h
 ·exact Eq.mp (by kernel_rfl) h
 ·exact Eq.mp (by kernel_rfl) h)))) (fun(t:ByteArray)=>(N17h t)) (fun(t:ByteArray)=>t) (by
 rintro t
 ·kernel_rfl) (by
 rintro t f K h
 ·exact h)))))) (by unfold N2w;kernel_rfl) (by
 intro t
 exact ret_mk [dS t] (by kernel_rfl) (by kernel_rfl) (by kernel_rfl) (by kernel_rfl)) h
def Nff:Fun:=fun avs H=>
 match avs,H with
 |[.dat (.list (.pair (.int .i64) (.pair (.int .i64) (.pair (.int .i64) .unit)))) a],[]=>⟨_,N2w a,fun(t:ByteArray)=>(dS t,[]),[],none⟩
 |_,_=>Ans.no
theorem Nxk:Sound Tryz.prog 17 Nff:=by
 refine fn_sound' (C:=N5x) (c:=bodyOf Tryz.f17) (cok_of tys_ok (allc Ng5 alln) (allc Tryz.call40 alln) (by kernel_rfl)) Tryz.func17 (by kernel_rfl) LL N1h ?_
 intro avs H r H' h
 unfold Nff at h
 split at h
 ·refine Awp.cast ?_ ?_ ?_ (Nvj _ h)<;>kernel_rfl
 ·simp[Ans.no,Ans.run] at h
def Ngt:Ann:=(.seq (.leaf [0,1]) (.seq (.seq (.leaf [0,1,8]) (.cond (.seq (.leaf [4]) (.leaf [4])) (.leaf [0,1]))) (.seq (.leaf [0,1,5]) (.seq (.draw [3,2,12] [0,1,2,3,4,9,10,11,12,5,6,7,8,13,14] [] [4]) (.leaf [4])))))
noncomputable def Nit:Ctx:=⟨tlook tys,olook [(19,Nk)],ioF,1,false,[]⟩
theorem Nyw (a:ByteArray) (b:List Int) (c:Int):Link Nit LL (bodyOf Tryz.f20) Ngt ⟨mkE 27 0 [(0,.ptr 0 0),(1,dS a)],[some (.box [dV b,dI c])]⟩ (N6a a b c) (fun(t:ByteArray×Int)=>(Exit.ret,⟨mkE 27 0 [(4,dS t.1)],[some (.box [dV b,dI t.2])]⟩)):= .of fun K h=>by
 simp only[N6a,wpW] at h
 exact .of (by kernel_rfl) h
theorem N16z (a:ByteArray) (b:List Int) (c:Int) {r:AV} {H':Heap} (h:(Ans.mk _ (N3j a b c) (fun(t:ByteArray×Int)=>(dS t.1,[some (.box [dV b,dI t.2])])) [] none).run=some (r,H')):Awp Nit LL (bodyOf Tryz.f20) Ngt ⟨mkE 27 0 [(0,.ptr 0 0),(1,dS a)],[some (.box [dV b,dI c])]⟩ (Ret (tlook tys) Tryz.f20.results.toList r H'):=
 ret_of' (Nyw a b c) (by unfold N3j;kernel_rfl) (by
 intro t
 exact ret_mk [dS t.1] (by kernel_rfl) (by kernel_rfl) (by kernel_rfl) (by kernel_rfl)) h
def Nin:Fun:=fun avs H=>
 match avs,H with
 |[.ptr 0 0,.dat .str a],[some (.box [.dat (.list (.int .u8)) b,.dat (.int .i64) c])]=>⟨_,N3j a b c,fun(t:ByteArray×Int)=>(dS t.1,[some (.box [dV b,dI t.2])]),[],none⟩
 |_,_=>Ans.no
theorem N184:Sound Tryz.prog 20 Nin:=by
 refine fn_sound' (C:=Nit) (c:=bodyOf Tryz.f20) (cok_of tys_ok (allc Nt alln) (allc Tryz.call19 alln) (by kernel_rfl)) Tryz.func20 (by kernel_rfl) LL Ngt ?_
 intro avs H r H' h
 unfold Nin at h
 split at h
 ·refine Awp.cast ?_ ?_ ?_ (N16z _ _ _ h)<;>kernel_rfl
 ·simp[Ans.no,Ans.run] at h
def Ngr:Ann:=(.seq (.leaf [0]) (.seq (.leaf [3]) (.seq (.leaf [3,4]) (.seq (.seq (.leaf [3,4,11]) (.block (.seq (.leaf [3,4,11,12]) (.cond (.seq (.leaf [2]) (.leaf [2])) (.seq (.leaf [3,4,17]) (.cond (.seq (.leaf [2]) (.leaf [2])) (.leaf [4]))))))) (.seq (.leaf [2]) (.leaf [2]))))))
noncomputable def Ni5:Ctx:=⟨tlook tys,olook [(16,Nb6),(18,Ni7),(17,Nff),(19,Nk),(20,Nin)],ioF,0,false,[]⟩
theorem Nze (a:List Int):Link Ni5 LL (bodyOf Tryz.f4) Ngr ⟨mkE 27 0 [(0,dV a)],[]⟩ (N9f a) (fun(t:ByteArray)=>(Exit.ret,⟨mkE 27 0 [(2,dS t)],[]⟩)):= .of fun K h=>by
 simp only[N9f,wpW] at h
 exact .of (by kernel_rfl) h
theorem N108 (a:List Int) {r:AV} {H':Heap} (h:(Ans.mk _ (N4w a) (fun(t:ByteArray)=>(dS t,[])) [] none).run=some (r,H')):Awp Ni5 LL (bodyOf Tryz.f4) Ngr ⟨mkE 27 0 [(0,dV a)],[]⟩ (Ret (tlook tys) Tryz.f4.results.toList r H'):=
 ret_of' (Nze a) (by unfold N4w;kernel_rfl) (by
 intro t
 exact ret_mk [dS t] (by kernel_rfl) (by kernel_rfl) (by kernel_rfl) (by kernel_rfl)) h
def Nh7:Fun:=fun avs H=>
 match avs,H with
 |[.dat (.list (.int .u8)) a],[]=>⟨_,N4w a,fun(t:ByteArray)=>(dS t,[]),[],none⟩
 |_,_=>Ans.no
theorem N148:Sound Tryz.prog 4 Nh7:=by
 refine fn_sound' (C:=Ni5) (c:=bodyOf Tryz.f4) (cok_of tys_ok (allc Noh (allc N13w (allc Nxk (allc Nt (allc N184 alln))))) (allc Tryz.call16 (allc Tryz.call18 (allc Tryz.call17 (allc Tryz.call19 (allc Tryz.call20 alln))))) (by kernel_rfl)) Tryz.func4 (by kernel_rfl) LL Ngr ?_
 intro avs H r H' h
 unfold Nh7 at h
 split at h
 ·refine Awp.cast ?_ ?_ ?_ (N108 _ h)<;>kernel_rfl
 ·simp[Ans.no,Ans.run] at h
def ren_sidx:Go.Shelf.Ren:=⟨fun|217=>101|219=>68|224=>103|225=>102|266=>141|267=>104|314=>142|n=>n,fun|3=>3|4=>4|5=>5|9=>9|46=>115|51=>139|146=>140|n=>n,fun|1=>1|n=>n⟩
theorem lay_sidx:Lays.n219 Tryz.prog ren_sidx:={
 mixed:=by kernel_rfl
 f217:=Tryz.func101.trans (congrArg some (by kernel_rfl))
 f219:=Tryz.func68.trans (congrArg some (by kernel_rfl))
 f224:=Tryz.func103.trans (congrArg some (by kernel_rfl))
 f225:=Tryz.func102.trans (congrArg some (by kernel_rfl))
 f266:=Tryz.func141.trans (congrArg some (by kernel_rfl))
 f267:=Tryz.func104.trans (congrArg some (by kernel_rfl))
 f314:=Tryz.func142.trans (congrArg some (by kernel_rfl))
 t3:=Tryz.underlying3
 a3:=Tryz.isAgg3
 z3:=Tryz.sizeOf3
 v3:=Tryz.zeroValue3
 t4:=Tryz.underlying4
 a4:=Tryz.isAgg4
 z4:=Tryz.sizeOf4
 v4:=Tryz.zeroValue4
 t5:=Tryz.underlying5
 a5:=Tryz.isAgg5
 z5:=Tryz.sizeOf5
 v5:=Tryz.zeroValue5
 t9:=Tryz.underlying9
 a9:=Tryz.isAgg9
 z9:=Tryz.sizeOf9
 v9:=Tryz.zeroValue9
 t46:=Tryz.underlying115
 a46:=Tryz.isAgg115
 z46:=Tryz.sizeOf115
 v46:=Tryz.zeroValue115
 t51:=Tryz.underlying139
 a51:=Tryz.isAgg139
 z51:=Tryz.sizeOf139
 v51:=Tryz.zeroValue139
 t146:=Tryz.underlying140
 a146:=Tryz.isAgg140
 z146:=Tryz.sizeOf140
 v146:=Tryz.zeroValue140
 g1:=by kernel_rfl}
def Ng0:Fun:=F_sidx
theorem Nll:Sound Tryz.prog 68 Ng0:=sidx_sound lay_sidx
def Nd1:Ann:=(.seq (.leaf [0,1]) (.seq (.seq (.leaf [0,1,7]) (.seq (.leaf [0,1,7,12]) (.cond (.seq (.draw [] [0,1,2,3,4,5,6,7,8,9,10,11] [] [4,5,6]) (.leaf [4,5,6])) (.leaf [0])))) (.seq (.leaf [4,5,6]) (.leaf [4,5,6]))))
noncomputable def Ngv:Ctx:=⟨tlook tys,olook [(68,Ng0)],ioF,0,false,[]⟩
theorem Nqj (a b:ByteArray):Link Ngv LL (bodyOf Tryz.f42) Nd1 ⟨mkE 23 0 [(0,dS a),(1,dS b)],[]⟩ (N3q a b) (fun(t:ByteArray×ByteArray×Bool)=>(Exit.ret,⟨mkE 23 0 [(4,dS t.1),(5,dS t.2.1),(6,dB t.2.2)],[]⟩)):= .of fun K h=>by
 simp only[N3q,wpW] at h
 exact .of (by kernel_rfl) h
theorem Nv6 (a b:ByteArray) {r:AV} {H':Heap} (h:(Ans.mk _ (N2d a b) (fun(t:ByteArray×ByteArray×Bool)=>(.tup [dS t.1,dS t.2.1,dB t.2.2],[])) [] none).run=some (r,H')):Awp Ngv LL (bodyOf Tryz.f42) Nd1 ⟨mkE 23 0 [(0,dS a),(1,dS b)],[]⟩ (Ret (tlook tys) Tryz.f42.results.toList r H'):=
 ret_of' (Nqj a b) (by unfold N2d;kernel_rfl) (by
 intro t
 exact ret_mk [dS t.1,dS t.2.1,dB t.2.2] (by kernel_rfl) (by kernel_rfl) (by kernel_rfl) (by kernel_rfl)) h
def Nhy:Fun:=fun avs H=>
 match avs,H with
 |[.dat .str a,.dat .str b],[]=>⟨_,N2d a b,fun(t:ByteArray×ByteArray×Bool)=>(.tup [dS t.1,dS t.2.1,dB t.2.2],[]),[],none⟩
 |_,_=>Ans.no
theorem Nvy:Sound Tryz.prog 42 Nhy:=by
 refine fn_sound' (C:=Ngv) (c:=bodyOf Tryz.f42) (cok_of tys_ok (allc Nll alln) (allc Tryz.call68 alln) (by kernel_rfl)) Tryz.func42 (by kernel_rfl) LL Nd1 ?_
 intro avs H r H' h
 unfold Nhy at h
 split at h
 ·refine Awp.cast ?_ ?_ ?_ (Nv6 _ _ h)<;>kernel_rfl
 ·simp[Ans.no,Ans.run] at h
def Nfv:Ann:=(.seq (.leaf [0,1]) (.seq (.leaf [4,5,6]) (.leaf [4,5,6])))
noncomputable def Ne4:Ctx:=⟨tlook tys,olook [(42,Nhy)],ioF,0,false,[]⟩
theorem N16i (a b:ByteArray):Link Ne4 LL (bodyOf Tryz.f21) Nfv ⟨mkE 13 0 [(0,dS a),(1,dS b)],[]⟩ (N40 a b) (fun(t:ByteArray×ByteArray×Bool)=>(Exit.ret,⟨mkE 13 0 [(4,dS t.1),(5,dS t.2.1),(6,dB t.2.2)],[]⟩)):= .of fun K h=>by
 simp only[N40,wpW] at h
 exact .of (by kernel_rfl) h
theorem Nq5 (a b:ByteArray) {r:AV} {H':Heap} (h:(Ans.mk _ (N18 a b) (fun(t:ByteArray×ByteArray×Bool)=>(.tup [dS t.1,dS t.2.1,dB t.2.2],[])) [] none).run=some (r,H')):Awp Ne4 LL (bodyOf Tryz.f21) Nfv ⟨mkE 13 0 [(0,dS a),(1,dS b)],[]⟩ (Ret (tlook tys) Tryz.f21.results.toList r H'):=
 ret_of' (N16i a b) (by unfold N18;kernel_rfl) (by
 intro t
 exact ret_mk [dS t.1,dS t.2.1,dB t.2.2] (by kernel_rfl) (by kernel_rfl) (by kernel_rfl) (by kernel_rfl)) h
def Nfy:Fun:=fun avs H=>
 match avs,H with
 |[.dat .str a,.dat .str b],[]=>⟨_,N18 a b,fun(t:ByteArray×ByteArray×Bool)=>(.tup [dS t.1,dS t.2.1,dB t.2.2],[]),[],none⟩
 |_,_=>Ans.no
theorem N180:Sound Tryz.prog 21 Nfy:=by
 refine fn_sound' (C:=Ne4) (c:=bodyOf Tryz.f21) (cok_of tys_ok (allc Nvy alln) (allc Tryz.call42 alln) (by kernel_rfl)) Tryz.func21 (by kernel_rfl) LL Nfv ?_
 intro avs H r H' h
 unfold Nfy at h
 split at h
 ·refine Awp.cast ?_ ?_ ?_ (Nq5 _ _ h)<;>kernel_rfl
 ·simp[Ans.no,Ans.run] at h
def Nik:Ann:=(.seq (.leaf [0,1]) (.seq (.leaf [4]) (.leaf [4])))
noncomputable def Nhr:Ctx:=⟨tlook tys,olook [(68,Ng0)],ioF,0,false,[]⟩
theorem N11p (a b:ByteArray):Link Nhr LL (bodyOf Tryz.f107) Nik ⟨mkE 8 0 [(0,dS a),(1,dS b)],[]⟩ (N8j a b) (fun(t:Int)=>(Exit.ret,⟨mkE 8 0 [(4,dI t)],[]⟩)):= .of fun K h=>by
 simp only[N8j,wpW] at h
 exact .of (by kernel_rfl) h
theorem N173 (a b:ByteArray) {r:AV} {H':Heap} (h:(Ans.mk _ (N56 a b) (fun(t:Int)=>(dI t,[])) [] none).run=some (r,H')):Awp Nhr LL (bodyOf Tryz.f107) Nik ⟨mkE 8 0 [(0,dS a),(1,dS b)],[]⟩ (Ret (tlook tys) Tryz.f107.results.toList r H'):=
 ret_of' (N11p a b) (by unfold N56;kernel_rfl) (by
 intro t
 exact ret_mk [dI t] (by kernel_rfl) (by kernel_rfl) (by kernel_rfl) (by kernel_rfl)) h
def Nem:Fun:=fun avs H=>
 match avs,H with
 |[.dat .str a,.dat .str b],[]=>⟨_,N56 a b,fun(t:Int)=>(dI t,[]),[],none⟩
 |_,_=>Ans.no
theorem Nyn:Sound Tryz.prog 107 Nem:=by
 refine fn_sound' (C:=Nhr) (c:=bodyOf Tryz.f107) (cok_of tys_ok (allc Nll alln) (allc Tryz.call68 alln) (by kernel_rfl)) Tryz.func107 (by kernel_rfl) LL Nik ?_
 intro avs H r H' h
 unfold Nem at h
 split at h
 ·refine Awp.cast ?_ ?_ ?_ (N173 _ _ h)<;>kernel_rfl
 ·simp[Ans.no,Ans.run] at h
def N4:Ann:=(.seq (.leaf [0,1,2,3]) (.seq (.seq (.leaf [0,1,2,3,13]) (.cond (.seq (.leaf [8]) (.leafF [⟨0,8,true,none,none⟩] [8])) (.leaf [0,1,2,3]))) (.seq (.seq (.leaf [0,1,2,3,15]) (.cond (.seq (.leaf [8]) (.leaf [8])) (.leaf [0,1,2,3]))) (.seq (.seq (.leaf [0,1,2,3,20]) (.cond (.leaf [0,1,2,3]) (.leaf [0,1,2,3]))) (.seq (.leaf [0,1,2,3]) (.seq (.leaf [0,1,2,3,9]) (.seq (.leaf [0,1,2,3,9]) (.seq (.leaf [0,1,2,3,9,10]) (.seq (.block (.loop (.seq (.seq (.leaf [0,1,2,3,9,10,36]) (.cond (.leaf [0,1,2,3,9,10]) (.leaf [0,9,10]))) (.block (.seq (.leaf [0,1,2,3,9,10,11]) (.seq (.seq (.leaf [0,1,2,3,9,10,11,41]) (.cond (.leaf [0,9,10]) (.leaf [0,1,2,3,9,10,11]))) (.seq (.leaf [0,1,2,3,9,10,11]) (.seq (.leaf [0,1,2,3,9,10]) (.leaf [0,1,2,3,9,10]))))))))) (.seq (.leaf [9,10]) (.seq (.leaf [8]) (.leaf [8]))))))))))))
noncomputable def N7g:Ctx:=⟨tlook tys,olook [(107,Nem)],ioF,0,false,[]⟩
theorem N153 (a b:ByteArray) (c d:Int):Link N7g LL (Code.seq (cq [0] (bodyOf Tryz.f69)) (Code.seq (cq [0,1] (bodyOf Tryz.f69)) (Code.seq (cq [0,1,1] (bodyOf Tryz.f69)) (Code.seq (cq [0,1,1,1] (bodyOf Tryz.f69)) (Code.seq (cq [0,1,1,1,1] (bodyOf Tryz.f69)) (Code.seq (cq [0,1,1,1,1,1] (bodyOf Tryz.f69)) (Code.seq (cq [0,1,1,1,1,1,1] (bodyOf Tryz.f69)) (cq [0,1,1,1,1,1,1,1] (bodyOf Tryz.f69))))))))) (Ann.seq (aq [0] N4) (Ann.seq (aq [0,1] N4) (Ann.seq (aq [0,1,1] N4) (Ann.seq (aq [0,1,1,1] N4) (Ann.seq (aq [0,1,1,1,1] N4) (Ann.seq (aq [0,1,1,1,1,1] N4) (Ann.seq (aq [0,1,1,1,1,1,1] N4) (aq [0,1,1,1,1,1,1,1] N4)))))))) ⟨mkE 66 0 [(0,dS a),(1,dS b),(2,dI c),(3,dI d)],[]⟩ (N7u a b d) (Sum.elim (fun(t:Int×(List ByteArray))=>(Exit.normal,⟨mkE 66 0 [(0,dS a),(1,dS b),(2,dI c),(3,dI t.1),(9,.slc 0),(10,dI 0)],[some (.seq .str t.2)]⟩)) (fun(t:Nat×(List ByteArray))=>(Exit.ret,⟨mkE 66 0 [(8,.win 0 0 t.1)],[some (.seq .str t.2)]⟩))):= .of fun K h=>by
 simp only[N7u,wpW,wpO_none] at h
 exact .of (by kernel_rfl) h
theorem N15k (a b:ByteArray) (c d g:Int) (i:List ByteArray):Link N7g LL (cq [0,0,0,1,1,1,1,1,1,1,1] (bodyOf Tryz.f69)) (aq [0,0,0,1,1,1,1,1,1,1,1] N4) ⟨mkE 66 0 [(0,dS a),(1,dS b),(2,dI c),(3,dI d),(9,.slc 0),(10,dI g)],[some (.seq .str i)]⟩ (N41 a b c d g i) (Sum.elim (fun(t:ByteArray×Int×(List ByteArray))=>(Exit.normal,⟨mkE 66 0 [(0,dS t.1),(1,dS b),(2,dI c),(3,dI d),(9,.slc 0),(10,dI t.2.1)],[some (.seq .str t.2.2)]⟩)) (fun(t:ByteArray×Int×(List ByteArray))=>((Exit.exit 0),⟨mkE 66 0 [(0,dS t.1),(9,.slc 0),(10,dI t.2.1)],[some (.seq .str t.2.2)]⟩))):= .of fun K h=>by
 simp only[N41,wpW] at h
 exact .of (by kernel_rfl) h
theorem Nxd (a:ByteArray) (b:Int) (c:List ByteArray):Link N7g LL (cq [1,1,1,1,1,1,1,1,1] (bodyOf Tryz.f69)) (aq [1,1,1,1,1,1,1,1,1] N4) ⟨mkE 66 0 [(0,dS a),(9,.slc 0),(10,dI b)],[some (.seq .str c)]⟩ (N6u a b c) (fun(t:Nat×(List ByteArray))=>(Exit.ret,⟨mkE 66 0 [(8,.win 0 0 t.1)],[some (.seq .str t.2)]⟩)):= .of fun K h=>by
 simp only[N6u,wpW] at h
 exact .of (by kernel_rfl) h
theorem N10s (b d:ByteArray) (g i:Int) {r:AV} {H':Heap} (h:(Ans.mk _ (N5o b d g i) (fun(t:Nat×(List ByteArray))=>(.win 0 0 t.1,[some (.seq .str t.2)])) [] none).run=some (r,H')):Awp N7g LL (bodyOf Tryz.f69) N4 ⟨mkE 66 0 [(0,dS b),(1,dS d),(2,dI g),(3,dI i)],[]⟩ (Ret (tlook tys) Tryz.f69.results.toList r H'):=
 ret_of' (Link.cast (by kernel_rfl) (by kernel_rfl) (link_group (c:=(cq [0,1,1,1,1,1,1,1] (bodyOf Tryz.f69))) (a:=(aq [0,1,1,1,1,1,1,1] N4)) [(cq [0] (bodyOf Tryz.f69)),(cq [0,1] (bodyOf Tryz.f69)),(cq [0,1,1] (bodyOf Tryz.f69)),(cq [0,1,1,1] (bodyOf Tryz.f69)),(cq [0,1,1,1,1] (bodyOf Tryz.f69)),(cq [0,1,1,1,1,1] (bodyOf Tryz.f69)),(cq [0,1,1,1,1,1,1] (bodyOf Tryz.f69))] [(aq [0] N4),(aq [0,1] N4),(aq [0,1,1] N4),(aq [0,1,1,1] N4),(aq [0,1,1,1,1] N4),(aq [0,1,1,1,1,1] N4),(aq [0,1,1,1,1,1,1] N4)] rfl (link_seq2 (N153 b d g i) (fun(t:Int×(List ByteArray))=>(link_seq (link_block (fin2:=(fun(t25:ByteArray×Int×(List ByteArray))=>(Exit.normal,⟨mkE 66 0 [(0,dS t25.1),(9,.slc 0),(10,dI t25.2.1)],[some (.seq .str t25.2.2)]⟩))) (id:=0) (link_loop (mk:=fun(s:ByteArray×Int×(List ByteArray))=>⟨mkE 66 0 [(0,dS s.1),(1,dS d),(2,dI g),(3,dI t.1),(9,.slc 0),(10,dI s.2.1)],[some (.seq .str s.2.2)]⟩) (fin:=(fun(t25:ByteArray×Int×(List ByteArray))=>((Exit.exit 0),⟨mkE 66 0 [(0,dS t25.1),(9,.slc 0),(10,dI t25.2.1)],[some (.seq .str t25.2.2)]⟩))) (by
 rintro t25 f K h
 ·exact h) (fun s=>link_map (N15k s.1 d g t.1 s.2.1 s.2.2) (Sum.elim (fun(t25:ByteArray×Int×(List ByteArray))=>Sum.inl (t25.1,t25.2.1,t25.2.2)) (fun(t25:ByteArray×Int×(List ByteArray))=>Sum.inr t25)) (by
 rintro(t25|t25)
 ·kernel_rfl
 ·kernel_rfl)) (b,0,t.2)) (fun(t25:ByteArray×Int×(List ByteArray))=>(t25.1,t25.2.1,t25.2.2)) (by
 rintro t25 K h
 ·exact Eq.mp (by kernel_rfl) h)) (fun(t5:ByteArray×Int×(List ByteArray))=>(Nxd t5.1 t5.2.1 t5.2.2)))) (fun(t:Nat×(List ByteArray))=>t) (by
 rintro t
 ·kernel_rfl) (by
 rintro t f K h
 ·exact h)))) (by unfold N5o;kernel_rfl) (by
 intro t
 exact ret_mk [.win 0 0 t.1] (by kernel_rfl) (by kernel_rfl) (by kernel_rfl) (by kernel_rfl)) h
def Nes:Fun:=fun avs H=>
 match avs,H with
 |[.dat .str a,.dat .str b,.dat (.int .i64) c,.dat (.int .i64) d],[]=>⟨_,N5o a b c d,fun(t:Nat×(List ByteArray))=>(.win 0 0 t.1,[some (.seq .str t.2)]),[],none⟩
 |_,_=>Ans.no
theorem Nu8:Sound Tryz.prog 69 Nes:=by
 refine fn_sound' (C:=N7g) (c:=bodyOf Tryz.f69) (cok_of tys_ok (allc Nyn alln) (allc Tryz.call107 alln) (by kernel_rfl)) Tryz.func69 (by kernel_rfl) LL N4 ?_
 intro avs H r H' h
 unfold Nes at h
 split at h
 ·refine Awp.cast ?_ ?_ ?_ (N10s _ _ _ _ h)<;>kernel_rfl
 ·simp[Ans.no,Ans.run] at h
def Ngw:Ann:=(.seq (.leaf [0,1,2]) (.seq (.leaf [6]) (.leaf [6])))
noncomputable def Nf4:Ctx:=⟨tlook tys,olook [(69,Nes)],ioF,0,false,[]⟩
theorem N161 (a b:ByteArray) (c:Int):Link Nf4 LL (bodyOf Tryz.f43) Ngw ⟨mkE 11 0 [(0,dS a),(1,dS b),(2,dI c)],[]⟩ (N7f a b c) (fun(t:Nat×(List ByteArray))=>(Exit.ret,⟨mkE 11 0 [(6,.win 0 0 t.1)],[some (.seq .str t.2)]⟩)):= .of fun K h=>by
 simp only[N7f,wpW] at h
 exact .of (by kernel_rfl) h
theorem Nrj (a b:ByteArray) (c:Int) {r:AV} {H':Heap} (h:(Ans.mk _ (N3m a b c) (fun(t:Nat×(List ByteArray))=>(.win 0 0 t.1,[some (.seq .str t.2)])) [] none).run=some (r,H')):Awp Nf4 LL (bodyOf Tryz.f43) Ngw ⟨mkE 11 0 [(0,dS a),(1,dS b),(2,dI c)],[]⟩ (Ret (tlook tys) Tryz.f43.results.toList r H'):=
 ret_of' (N161 a b c) (by unfold N3m;kernel_rfl) (by
 intro t
 exact ret_mk [.win 0 0 t.1] (by kernel_rfl) (by kernel_rfl) (by kernel_rfl) (by kernel_rfl)) h
def Nd7:Fun:=fun avs H=>
 match avs,H with
 |[.dat .str a,.dat .str b,.dat (.int .i64) c],[]=>⟨_,N3m a b c,fun(t:Nat×(List ByteArray))=>(.win 0 0 t.1,[some (.seq .str t.2)]),[],none⟩
 |_,_=>Ans.no
theorem Nxv:Sound Tryz.prog 43 Nd7:=by
 refine fn_sound' (C:=Nf4) (c:=bodyOf Tryz.f43) (cok_of tys_ok (allc Nu8 alln) (allc Tryz.call69 alln) (by kernel_rfl)) Tryz.func43 (by kernel_rfl) LL Ngw ?_
 intro avs H r H' h
 unfold Nd7 at h
 split at h
 ·refine Awp.cast ?_ ?_ ?_ (Nrj _ _ _ h)<;>kernel_rfl
 ·simp[Ans.no,Ans.run] at h
def N5r:Ann:=(.seq (.leaf [0]) (.seq (.seq (.leaf [0,5,6]) (.block (.loop (.seq (.leaf [0,5,6,7]) (.seq (.cond (.leaf [0,5,6]) (.leaf [])) (.seq (.block (.seq (.leaf [0,3,4,5,6]) (.seq (.leaf [0,3,5,6,12]) (.cond (.seq (.leaf [2]) (.leaf [2])) (.leaf [0,5,6]))))) (.leaf [0,5,6]))))))) (.seq (.leaf [2]) (.leaf [2]))))
noncomputable def N64:Ctx:=⟨tlook tys,olook [],ioF,0,false,[]⟩
theorem N181 (a:ByteArray):Link N64 LL (cq [0] (bodyOf Tryz.f44)) (aq [0] N5r) ⟨mkE 15 0 [(0,dS a)],[]⟩ (N99) (fun(t:Unit)=>(Exit.normal,⟨mkE 15 0 [(0,dS a)],[]⟩)):= .of fun K h=>by
 simp only[N99,wpW] at h
 exact .of (by kernel_rfl) h
theorem Nsz (a:ByteArray):Link N64 LL (cq [0,0,1] (bodyOf Tryz.f44)) (aq [0,0,1] N5r) ⟨mkE 15 0 [(0,dS a)],[]⟩ (Nbn) (fun(t:ByteArray×ByteArray×ByteArray×ByteArray×ByteArray×ByteArray)=>(Exit.normal,⟨mkE 15 0 [(0,dS a),(5,.agg [dS t.1,dS t.2.1,dS t.2.2.1,dS t.2.2.2.1,dS t.2.2.2.2.1,dS t.2.2.2.2.2]),(6,dI 0)],[]⟩)):= .of fun K h=>by
 simp only[Nbn,wpW] at h
 exact .of (by kernel_rfl) h
theorem N103 (a b c d g i j:ByteArray) (k:Int):Link N64 LL (cq [0,0,1,0,1] (bodyOf Tryz.f44)) (aq [0,0,1,0,1] N5r) ⟨mkE 15 0 [(0,dS a),(5,.agg [dS b,dS c,dS d,dS g,dS i,dS j]),(6,dI k)],[]⟩ (N70 a b c d g i j k) (Sum.elim (fun(t:Int)=>(Exit.normal,⟨mkE 15 0 [(0,dS a),(5,.agg [dS b,dS c,dS d,dS g,dS i,dS j]),(6,dI t)],[]⟩)) (Sum.elim (fun(t:Int)=>(Exit.ret,⟨mkE 15 0 [(2,dI t)],[]⟩)) (fun(t:Unit)=>((Exit.exit 0),⟨mkE 15 0 [],[]⟩)))):= .of fun K h=>by
 simp only[N70,wpW] at h
 exact .of (by kernel_rfl) h
theorem Nss:Link N64 LL (cq [1,1] (bodyOf Tryz.f44)) (aq [1,1] N5r) ⟨mkE 15 0 [],[]⟩ (Nax) (fun(t:Int)=>(Exit.ret,⟨mkE 15 0 [(2,dI t)],[]⟩)):= .of fun K h=>by
 simp only[Nax,wpW] at h
 exact .of (by kernel_rfl) h
theorem N112 (a:ByteArray) {r:AV} {H':Heap} (h:(Ans.mk _ (Nj a) (fun(t:Int)=>(dI t,[])) [] none).run=some (r,H')):Awp N64 LL (bodyOf Tryz.f44) N5r ⟨mkE 15 0 [(0,dS a)],[]⟩ (Ret (tlook tys) Tryz.f44.results.toList r H'):=
 ret_of' (Link.cast (by kernel_rfl) (by kernel_rfl) (link_seq (N181 a) (fun(t:Unit)=>(link_seq2 (link_seq (Nsz a) (fun(t:ByteArray×ByteArray×ByteArray×ByteArray×ByteArray×ByteArray)=>(link_block (fin2:=(Sum.elim (fun(t26:Unit)=>(Exit.normal,⟨mkE 15 0 [],[]⟩)) (fun(t26:Int)=>(Exit.ret,⟨mkE 15 0 [(2,dI t26)],[]⟩)))) (id:=0) (link_loop (mk:=fun(s:Int)=>⟨mkE 15 0 [(0,dS a),(5,.agg [dS t.1,dS t.2.1,dS t.2.2.1,dS t.2.2.2.1,dS t.2.2.2.2.1,dS t.2.2.2.2.2]),(6,dI s)],[]⟩) (fin:=(Sum.elim (fun(t26:Int)=>(Exit.ret,⟨mkE 15 0 [(2,dI t26)],[]⟩)) (fun(t26:Unit)=>((Exit.exit 0),⟨mkE 15 0 [],[]⟩)))) (by
 rintro(t26|t26) f K h
 ·exact h
 ·exact h) (fun s=>link_map (N103 a t.1 t.2.1 t.2.2.1 t.2.2.2.1 t.2.2.2.2.1 t.2.2.2.2.2 s) (Sum.elim (fun(t26:Int)=>Sum.inl t26) (Sum.elim (fun(t26:Int)=>Sum.inr (Sum.inl t26)) (fun(t26:Unit)=>Sum.inr (Sum.inr t26)))) (by
 rintro(t26|t26|t26)
 ·kernel_rfl
 ·kernel_rfl
 ·kernel_rfl)) 0) (Sum.elim (fun(t26:Int)=>(Sum.inr t26)) (fun(t26:Unit)=>(Sum.inl ()))) (by
 rintro(t26|t26) K h
 ·exact Eq.mp (by kernel_rfl) h
 ·exact Eq.mp (by kernel_rfl) h)))) (fun(t:Unit)=>(Nss)) (fun(t:Int)=>t) (by
 rintro t
 ·kernel_rfl) (by
 rintro t f K h
 ·exact h))))) (by unfold Nj;kernel_rfl) (by
 intro t
 exact ret_mk [dI t] (by kernel_rfl) (by kernel_rfl) (by kernel_rfl) (by kernel_rfl)) h
def Nia:Fun:=fun avs H=>
 match avs,H with
 |[.dat .str a],[]=>⟨_,Nj a,fun(t:Int)=>(dI t,[]),[],none⟩
 |_,_=>Ans.no
theorem Nzg:Sound Tryz.prog 44 Nia:=by
 refine fn_sound' (C:=N64) (c:=bodyOf Tryz.f44) (cok_of tys_ok (alln) (alln) (by kernel_rfl)) Tryz.func44 (by kernel_rfl) LL N5r ?_
 intro avs H r H' h
 unfold Nia at h
 split at h
 ·refine Awp.cast ?_ ?_ ?_ (N112 _ h)<;>kernel_rfl
 ·simp[Ans.no,Ans.run] at h
def ren_atoiS:Go.Shelf.Ren:=⟨fun|129=>179|171=>34|172=>45|205=>148|243=>59|244=>70|245=>71|246=>96|247=>108|279=>109|280=>110|281=>111|282=>112|283=>137|284=>138|285=>139|286=>140|287=>146|316=>147|317=>178|318=>180|319=>181|320=>175|321=>183|322=>184|337=>221|338=>222|n=>n,fun|0=>0|2=>2|3=>3|4=>4|5=>5|9=>9|20=>20|21=>21|37=>22|46=>115|51=>139|53=>133|75=>69|76=>70|80=>72|85=>118|127=>94|143=>199|145=>201|167=>117|168=>120|171=>132|173=>136|175=>144|210=>147|212=>195|213=>196|232=>237|233=>238|n=>n,fun|15=>2|16=>3|17=>4|18=>7|19=>8|n=>n⟩
theorem lay_atoiS:LaysC.n172 Tryz.prog ren_atoiS:={
 mixed:=by kernel_rfl
 f129:=Tryz.func179.trans (congrArg some (by kernel_rfl))
 f171:=Tryz.func34.trans (congrArg some (by kernel_rfl))
 f172:=Tryz.func45.trans (congrArg some (by kernel_rfl))
 f205:=Tryz.func148.trans (congrArg some (by kernel_rfl))
 f243:=Tryz.func59.trans (congrArg some (by kernel_rfl))
 f244:=Tryz.func70.trans (congrArg some (by kernel_rfl))
 f245:=Tryz.func71.trans (congrArg some (by kernel_rfl))
 f246:=Tryz.func96.trans (congrArg some (by kernel_rfl))
 f247:=Tryz.func108.trans (congrArg some (by kernel_rfl))
 f279:=Tryz.func109.trans (congrArg some (by kernel_rfl))
 f280:=Tryz.func110.trans (congrArg some (by kernel_rfl))
 f281:=Tryz.func111.trans (congrArg some (by kernel_rfl))
 f282:=Tryz.func112.trans (congrArg some (by kernel_rfl))
 f283:=Tryz.func137.trans (congrArg some (by kernel_rfl))
 f284:=Tryz.func138.trans (congrArg some (by kernel_rfl))
 f285:=Tryz.func139.trans (congrArg some (by kernel_rfl))
 f286:=Tryz.func140.trans (congrArg some (by kernel_rfl))
 f287:=Tryz.func146.trans (congrArg some (by kernel_rfl))
 f316:=Tryz.func147.trans (congrArg some (by kernel_rfl))
 f317:=Tryz.func178.trans (congrArg some (by kernel_rfl))
 f318:=Tryz.func180.trans (congrArg some (by kernel_rfl))
 f319:=Tryz.func181.trans (congrArg some (by kernel_rfl))
 f320:=Tryz.func175.trans (congrArg some (by kernel_rfl))
 f321:=Tryz.func183.trans (congrArg some (by kernel_rfl))
 f322:=Tryz.func184.trans (congrArg some (by kernel_rfl))
 f337:=Tryz.func221.trans (congrArg some (by kernel_rfl))
 f338:=Tryz.func222.trans (congrArg some (by kernel_rfl))
 t0:=Tryz.underlying0
 a0:=Tryz.isAgg0
 z0:=Tryz.sizeOf0
 v0:=Tryz.zeroValue0
 t2:=Tryz.underlying2
 a2:=Tryz.isAgg2
 z2:=Tryz.sizeOf2
 v2:=Tryz.zeroValue2
 t3:=Tryz.underlying3
 a3:=Tryz.isAgg3
 z3:=Tryz.sizeOf3
 v3:=Tryz.zeroValue3
 t4:=Tryz.underlying4
 a4:=Tryz.isAgg4
 z4:=Tryz.sizeOf4
 v4:=Tryz.zeroValue4
 t5:=Tryz.underlying5
 a5:=Tryz.isAgg5
 z5:=Tryz.sizeOf5
 v5:=Tryz.zeroValue5
 t9:=Tryz.underlying9
 a9:=Tryz.isAgg9
 z9:=Tryz.sizeOf9
 v9:=Tryz.zeroValue9
 t20:=Tryz.underlying20
 a20:=Tryz.isAgg20
 z20:=Tryz.sizeOf20
 v20:=Tryz.zeroValue20
 t21:=Tryz.underlying21
 a21:=Tryz.isAgg21
 z21:=Tryz.sizeOf21
 v21:=Tryz.zeroValue21
 t37:=Tryz.underlying22
 a37:=Tryz.isAgg22
 z37:=Tryz.sizeOf22
 v37:=Tryz.zeroValue22
 t46:=Tryz.underlying115
 a46:=Tryz.isAgg115
 z46:=Tryz.sizeOf115
 v46:=Tryz.zeroValue115
 t51:=Tryz.underlying139
 a51:=Tryz.isAgg139
 z51:=Tryz.sizeOf139
 v51:=Tryz.zeroValue139
 t53:=Tryz.underlying133
 a53:=Tryz.isAgg133
 z53:=Tryz.sizeOf133
 v53:=Tryz.zeroValue133
 t75:=Tryz.underlying69
 a75:=Tryz.isAgg69
 z75:=Tryz.sizeOf69
 v75:=Tryz.zeroValue69
 t76:=Tryz.underlying70
 a76:=Tryz.isAgg70
 z76:=Tryz.sizeOf70
 v76:=Tryz.zeroValue70
 t85:=Tryz.underlying118
 a85:=Tryz.isAgg118
 z85:=Tryz.sizeOf118
 v85:=Tryz.zeroValue118
 t127:=Tryz.underlying94
 a127:=Tryz.isAgg94
 z127:=Tryz.sizeOf94
 v127:=Tryz.zeroValue94
 t143:=Tryz.underlying199
 a143:=Tryz.isAgg199
 z143:=Tryz.sizeOf199
 v143:=Tryz.zeroValue199
 t145:=Tryz.underlying201
 a145:=Tryz.isAgg201
 z145:=Tryz.sizeOf201
 v145:=Tryz.zeroValue201
 t167:=Tryz.underlying117
 a167:=Tryz.isAgg117
 z167:=Tryz.sizeOf117
 v167:=Tryz.zeroValue117
 t168:=Tryz.underlying120
 a168:=Tryz.isAgg120
 z168:=Tryz.sizeOf120
 v168:=Tryz.zeroValue120
 t171:=Tryz.underlying132
 a171:=Tryz.isAgg132
 z171:=Tryz.sizeOf132
 v171:=Tryz.zeroValue132
 t173:=Tryz.underlying136
 a173:=Tryz.isAgg136
 z173:=Tryz.sizeOf136
 v173:=Tryz.zeroValue136
 t175:=Tryz.underlying144
 a175:=Tryz.isAgg144
 z175:=Tryz.sizeOf144
 v175:=Tryz.zeroValue144
 t210:=Tryz.underlying147
 a210:=Tryz.isAgg147
 z210:=Tryz.sizeOf147
 v210:=Tryz.zeroValue147
 t212:=Tryz.underlying195
 a212:=Tryz.isAgg195
 z212:=Tryz.sizeOf195
 v212:=Tryz.zeroValue195
 t213:=Tryz.underlying196
 a213:=Tryz.isAgg196
 z213:=Tryz.sizeOf196
 t232:=Tryz.underlying237
 a232:=Tryz.isAgg237
 z232:=Tryz.sizeOf237
 v232:=Tryz.zeroValue237
 t233:=Tryz.underlying238
 a233:=Tryz.isAgg238
 z233:=Tryz.sizeOf238
 v233:=Tryz.zeroValue238
 g15:=by kernel_rfl
 g16:=by kernel_rfl
 g17:=by kernel_rfl
 g18:=by kernel_rfl
 g19:=by kernel_rfl
 t80:=Tryz.underlying72
 a80:=Tryz.isAgg72
 z80:=Tryz.sizeOf72
 v80:=Tryz.zeroValue72
 i0:=by kernel_rfl
 i2:=by kernel_rfl
 i3:=by kernel_rfl
 i4:=by kernel_rfl
 i5:=by kernel_rfl
 i9:=by kernel_rfl
 i20:=by kernel_rfl
 i21:=by kernel_rfl
 i37:=by kernel_rfl
 i46:=by kernel_rfl
 i51:=by kernel_rfl
 i53:=by kernel_rfl
 i75:=by kernel_rfl
 i76:=by kernel_rfl
 i80:=by kernel_rfl
 i85:=by kernel_rfl
 i127:=by kernel_rfl
 i143:=by kernel_rfl
 i145:=by kernel_rfl
 i167:=by kernel_rfl
 i168:=by kernel_rfl
 i171:=by kernel_rfl
 i173:=by kernel_rfl
 i175:=by kernel_rfl
 i210:=by kernel_rfl
 i212:=by kernel_rfl
 i232:=by kernel_rfl
 i233:=by kernel_rfl
 m15:=by kernel_rfl
 m16:=by kernel_rfl
 m17:=by kernel_rfl
 m18:=by kernel_rfl
 m19:=by kernel_rfl
 c0:=by kernel_rfl
 c2:=by kernel_rfl
 c3:=by kernel_rfl
 c4:=by kernel_rfl
 c5:=by kernel_rfl
 c9:=by kernel_rfl
 c20:=by kernel_rfl
 c21:=by kernel_rfl
 c37:=by kernel_rfl
 c46:=by kernel_rfl
 c51:=by kernel_rfl
 c53:=by kernel_rfl
 c75:=by kernel_rfl
 c76:=by kernel_rfl
 c80:=by kernel_rfl
 c85:=by kernel_rfl
 c127:=by kernel_rfl
 c143:=by kernel_rfl
 c145:=by kernel_rfl
 c167:=by kernel_rfl
 c168:=by kernel_rfl
 c171:=by kernel_rfl
 c173:=by kernel_rfl
 c175:=by kernel_rfl
 c210:=by kernel_rfl
 c212:=by kernel_rfl
 c213:=by kernel_rfl
 c232:=by kernel_rfl
 c233:=by kernel_rfl}
def Nlq:Fun:=F_atoiS
theorem Nzv:Sound Tryz.prog 45 Nlq:=atoiS_sound lay_atoiS rfl rfl
def Nfl:Ann:=(.seq (.leaf [0]) (.seq (.seq (.leaf [3]) (.block (.seq (.leaf [3,4]) (.cond (.seq (.leaf [2]) (.leaf [2])) (.seq (.leaf [6]) (.cond (.seq (.leaf [2]) (.leaf [2])) (.leaf []))))))) (.seq (.leaf [2]) (.leaf [2]))))
noncomputable def Ngy:Ctx:=⟨tlook tys,olook [],ioF,0,false,[]⟩
theorem Nx5 (a:Int):Link Ngy LL (bodyOf Tryz.f33) Nfl ⟨mkE 8 0 [(0,dI a)],[]⟩ (N6p a) (fun(t:Int)=>(Exit.ret,⟨mkE 8 0 [(2,dI t)],[]⟩)):= .of fun K h=>by
 simp only[N6p,wpW] at h
 exact .of (by kernel_rfl) h
theorem N115 (a:Int) {r:AV} {H':Heap} (h:(Ans.mk _ (Nl a) (fun(t:Int)=>(dI t,[])) [] none).run=some (r,H')):Awp Ngy LL (bodyOf Tryz.f33) Nfl ⟨mkE 8 0 [(0,dI a)],[]⟩ (Ret (tlook tys) Tryz.f33.results.toList r H'):=
 ret_of' (Nx5 a) (by unfold Nl;kernel_rfl) (by
 intro t
 exact ret_mk [dI t] (by kernel_rfl) (by kernel_rfl) (by kernel_rfl) (by kernel_rfl)) h
def Na2:Fun:=fun avs H=>
 match avs,H with
 |[.dat (.int .i64) a],[]=>⟨_,Nl a,fun(t:Int)=>(dI t,[]),[],none⟩
 |_,_=>Ans.no
theorem Njr:Sound Tryz.prog 33 Na2:=by
 refine fn_sound' (C:=Ngy) (c:=bodyOf Tryz.f33) (cok_of tys_ok (alln) (alln) (by kernel_rfl)) Tryz.func33 (by kernel_rfl) LL Nfl ?_
 intro avs H r H' h
 unfold Na2 at h
 split at h
 ·refine Awp.cast ?_ ?_ ?_ (N115 _ h)<;>kernel_rfl
 ·simp[Ans.no,Ans.run] at h
def Nfe:Ann:=(.seq (.leaf [1]) (.seq (.leaf [1,3]) (.seq (.leaf [2]) (.leaf [2]))))
noncomputable def Ng4:Ctx:=⟨tlook tys,olook [(33,Na2)],ioF,0,false,[]⟩
theorem N13s (a b c:Int):Link Ng4 LL (bodyOf Tryz.f56) Nfe ⟨mkE 23 0 [(0,.agg [dI a,dI b,dI c])],[]⟩ (N84 a b c) (fun(t:Bool)=>(Exit.ret,⟨mkE 23 0 [(2,dB t)],[]⟩)):= .of fun K h=>by
 simp only[N84,wpW] at h
 exact .of (by kernel_rfl) h
theorem Nvk (a b c:Int) {r:AV} {H':Heap} (h:(Ans.mk _ (N2v a b c) (fun(t:Bool)=>(dB t,[])) [] none).run=some (r,H')):Awp Ng4 LL (bodyOf Tryz.f56) Nfe ⟨mkE 23 0 [(0,.agg [dI a,dI b,dI c])],[]⟩ (Ret (tlook tys) Tryz.f56.results.toList r H'):=
 ret_of' (N13s a b c) (by unfold N2v;kernel_rfl) (by
 intro t
 exact ret_mk [dB t] (by kernel_rfl) (by kernel_rfl) (by kernel_rfl) (by kernel_rfl)) h
def Nbw:Fun:=fun avs H=>
 match avs,H with
 |[.agg [.dat (.int .i64) a,.dat (.int .i64) b,.dat (.int .i64) c]],[]=>⟨_,N2v a b c,fun(t:Bool)=>(dB t,[]),[],none⟩
 |_,_=>Ans.no
theorem Nlt:Sound Tryz.prog 56 Nbw:=by
 refine fn_sound' (C:=Ng4) (c:=bodyOf Tryz.f56) (cok_of tys_ok (allc Njr alln) (allc Tryz.call33 alln) (by kernel_rfl)) Tryz.func56 (by kernel_rfl) LL Nfe ?_
 intro avs H r H' h
 unfold Nbw at h
 split at h
 ·refine Awp.cast ?_ ?_ ?_ (Nvk _ _ _ h)<;>kernel_rfl
 ·simp[Ans.no,Ans.run] at h
def Ndz:Ann:=(.seq (.leaf [1]) (.seq (.leaf [2]) (.leaf [2])))
noncomputable def Ni2:Ctx:=⟨tlook tys,olook [(56,Nbw)],ioF,0,false,[]⟩
theorem N16o (a b c:Int):Link Ni2 LL (bodyOf Tryz.f32) Ndz ⟨mkE 35 0 [(0,.agg [dI a,dI b,dI c])],[]⟩ (Na3 a b c) (fun(t:Bool)=>(Exit.ret,⟨mkE 35 0 [(2,dB t)],[]⟩)):= .of fun K h=>by
 simp only[Na3,wpW] at h
 exact .of (by kernel_rfl) h
theorem N10w (a b c:Int) {r:AV} {H':Heap} (h:(Ans.mk _ (N49 a b c) (fun(t:Bool)=>(dB t,[])) [] none).run=some (r,H')):Awp Ni2 LL (bodyOf Tryz.f32) Ndz ⟨mkE 35 0 [(0,.agg [dI a,dI b,dI c])],[]⟩ (Ret (tlook tys) Tryz.f32.results.toList r H'):=
 ret_of' (N16o a b c) (by unfold N49;kernel_rfl) (by
 intro t
 exact ret_mk [dB t] (by kernel_rfl) (by kernel_rfl) (by kernel_rfl) (by kernel_rfl)) h
def Ngi:Fun:=fun avs H=>
 match avs,H with
 |[.agg [.dat (.int .i64) a,.dat (.int .i64) b,.dat (.int .i64) c]],[]=>⟨_,N49 a b c,fun(t:Bool)=>(dB t,[]),[],none⟩
 |_,_=>Ans.no
theorem N109:Sound Tryz.prog 32 Ngi:=by
 refine fn_sound' (C:=Ni2) (c:=bodyOf Tryz.f32) (cok_of tys_ok (allc Nlt alln) (allc Tryz.call56 alln) (by kernel_rfl)) Tryz.func32 (by kernel_rfl) LL Ndz ?_
 intro avs H r H' h
 unfold Ngi at h
 split at h
 ·refine Awp.cast ?_ ?_ ?_ (N10w _ _ _ h)<;>kernel_rfl
 ·simp[Ans.no,Ans.run] at h
def ren_itoaS:Go.Shelf.Ren:=⟨fun|129=>179|171=>34|243=>59|246=>96|283=>137|284=>138|285=>139|286=>140|317=>178|318=>180|319=>181|320=>175|337=>221|338=>222|n=>n,fun|0=>0|2=>2|3=>3|4=>4|5=>5|9=>9|20=>20|37=>22|46=>115|51=>139|53=>133|171=>132|173=>136|212=>195|213=>196|232=>237|233=>238|n=>n,fun|17=>4|18=>7|19=>8|n=>n⟩
theorem lay_itoaS:Lays.n171 Tryz.prog ren_itoaS:={
 mixed:=by kernel_rfl
 f129:=Tryz.func179.trans (congrArg some (by kernel_rfl))
 f171:=Tryz.func34.trans (congrArg some (by kernel_rfl))
 f243:=Tryz.func59.trans (congrArg some (by kernel_rfl))
 f246:=Tryz.func96.trans (congrArg some (by kernel_rfl))
 f283:=Tryz.func137.trans (congrArg some (by kernel_rfl))
 f284:=Tryz.func138.trans (congrArg some (by kernel_rfl))
 f285:=Tryz.func139.trans (congrArg some (by kernel_rfl))
 f286:=Tryz.func140.trans (congrArg some (by kernel_rfl))
 f317:=Tryz.func178.trans (congrArg some (by kernel_rfl))
 f318:=Tryz.func180.trans (congrArg some (by kernel_rfl))
 f319:=Tryz.func181.trans (congrArg some (by kernel_rfl))
 f320:=Tryz.func175.trans (congrArg some (by kernel_rfl))
 f337:=Tryz.func221.trans (congrArg some (by kernel_rfl))
 f338:=Tryz.func222.trans (congrArg some (by kernel_rfl))
 t0:=Tryz.underlying0
 a0:=Tryz.isAgg0
 z0:=Tryz.sizeOf0
 v0:=Tryz.zeroValue0
 t2:=Tryz.underlying2
 a2:=Tryz.isAgg2
 z2:=Tryz.sizeOf2
 v2:=Tryz.zeroValue2
 t3:=Tryz.underlying3
 a3:=Tryz.isAgg3
 z3:=Tryz.sizeOf3
 v3:=Tryz.zeroValue3
 t4:=Tryz.underlying4
 a4:=Tryz.isAgg4
 z4:=Tryz.sizeOf4
 v4:=Tryz.zeroValue4
 t5:=Tryz.underlying5
 a5:=Tryz.isAgg5
 z5:=Tryz.sizeOf5
 v5:=Tryz.zeroValue5
 t9:=Tryz.underlying9
 a9:=Tryz.isAgg9
 z9:=Tryz.sizeOf9
 v9:=Tryz.zeroValue9
 t20:=Tryz.underlying20
 a20:=Tryz.isAgg20
 z20:=Tryz.sizeOf20
 v20:=Tryz.zeroValue20
 t37:=Tryz.underlying22
 a37:=Tryz.isAgg22
 z37:=Tryz.sizeOf22
 v37:=Tryz.zeroValue22
 t46:=Tryz.underlying115
 a46:=Tryz.isAgg115
 z46:=Tryz.sizeOf115
 v46:=Tryz.zeroValue115
 t51:=Tryz.underlying139
 a51:=Tryz.isAgg139
 z51:=Tryz.sizeOf139
 v51:=Tryz.zeroValue139
 t53:=Tryz.underlying133
 a53:=Tryz.isAgg133
 z53:=Tryz.sizeOf133
 v53:=Tryz.zeroValue133
 t171:=Tryz.underlying132
 a171:=Tryz.isAgg132
 z171:=Tryz.sizeOf132
 v171:=Tryz.zeroValue132
 t173:=Tryz.underlying136
 a173:=Tryz.isAgg136
 z173:=Tryz.sizeOf136
 v173:=Tryz.zeroValue136
 t212:=Tryz.underlying195
 a212:=Tryz.isAgg195
 z212:=Tryz.sizeOf195
 v212:=Tryz.zeroValue195
 t213:=Tryz.underlying196
 a213:=Tryz.isAgg196
 z213:=Tryz.sizeOf196
 t232:=Tryz.underlying237
 a232:=Tryz.isAgg237
 z232:=Tryz.sizeOf237
 v232:=Tryz.zeroValue237
 t233:=Tryz.underlying238
 a233:=Tryz.isAgg238
 z233:=Tryz.sizeOf238
 v233:=Tryz.zeroValue238
 g17:=by kernel_rfl
 g18:=by kernel_rfl
 g19:=by kernel_rfl}
def Nmu:Fun:=F_itoaS
theorem N118:Sound Tryz.prog 34 Nmu:=itoaS_sound lay_itoaS
def N10:Ann:=(.seq (.leaf [1]) (.seq (.seq (.leaf [1,8]) (.cond (.seq (.leaf [2]) (.leaf [2])) (.leaf [1]))) (.seq (.leaf [1,3]) (.seq (.seq (.draw [7,4] [0,1,2,3,4,5,6,10,7,8,9] [] [3,21,22,23]) (.block (.loop (.seq (.leaf [3,21,22,23,24]) (.seq (.cond (.leaf [3,21,22,23]) (.leaf [3])) (.seq (.block (.seq (.leaf [3,5,21,22,23]) (.leaf [3,21,22,23]))) (.leaf [3,21,22,23]))))))) (.seq (.leaf [2]) (.leaf [2]))))))
noncomputable def N46:Ctx:=⟨tlook tys,olook [(32,Ngi),(33,Na2),(34,Nmu)],ioF,0,false,[]⟩
theorem Nv2 (a b c:Int):Link N46 LL (Code.seq (cq [0] (bodyOf Tryz.f11)) (Code.seq (cq [0,1] (bodyOf Tryz.f11)) (cq [0,1,1] (bodyOf Tryz.f11)))) (Ann.seq (aq [0] N10) (Ann.seq (aq [0,1] N10) (aq [0,1,1] N10))) ⟨mkE 34 0 [(0,.agg [dI a,dI b,dI c])],[]⟩ (Nb2 a b c) (Sum.elim (fun(t:ByteArray)=>(Exit.normal,⟨mkE 34 0 [(1,.ptr 0 0),(3,dS t)],[some (.box [dI a,dI b,dI c])]⟩)) (fun(t:ByteArray)=>(Exit.ret,⟨mkE 34 0 [(2,dS t)],[]⟩))):= .of fun K h=>by
 simp only[Nb2,wpW] at h
 exact .of (by kernel_rfl) h
theorem N13b (a:ByteArray) (b c d:Int):Link N46 LL (cq [0,0,1,1,1] (bodyOf Tryz.f11)) (aq [0,0,1,1,1] N10) ⟨mkE 34 0 [(1,.ptr 0 0),(3,dS a)],[some (.box [dI b,dI c,dI d])]⟩ (N4h b c d) (fun(t:(List Int)×Int)=>(Exit.normal,⟨mkE 34 0 [(3,dS a),(21,dL t.1),(22,dI t.2),(23,dI 0)],[]⟩)):= .of fun K h=>by
 simp only[N4h,wpW] at h
 exact .of (by kernel_rfl) h
theorem N14q (a:ByteArray) (b:List Int) (c d:Int):Link N46 LL (cq [0,0,1,0,1,1,1] (bodyOf Tryz.f11)) (aq [0,0,1,0,1,1,1] N10) ⟨mkE 34 0 [(3,dS a),(21,dL b),(22,dI c),(23,dI d)],[]⟩ (N5h a b c d) (Sum.elim (fun(t:ByteArray×Int)=>(Exit.normal,⟨mkE 34 0 [(3,dS t.1),(21,dL b),(22,dI c),(23,dI t.2)],[]⟩)) (fun(t:ByteArray)=>((Exit.exit 0),⟨mkE 34 0 [(3,dS t)],[]⟩))):= .of fun K h=>by
 simp only[N5h,wpW] at h
 exact .of (by kernel_rfl) h
theorem N163 (a:ByteArray):Link N46 LL (cq [1,1,1,1] (bodyOf Tryz.f11)) (aq [1,1,1,1] N10) ⟨mkE 34 0 [(3,dS a)],[]⟩ (N4u a) (fun(t:ByteArray)=>(Exit.ret,⟨mkE 34 0 [(2,dS t)],[]⟩)):= .of fun K h=>by
 simp only[N4u,wpW] at h
 exact .of (by kernel_rfl) h
theorem Nzn (b d g:Int) {r:AV} {H':Heap} (h:(Ans.mk _ (N3 b d g) (fun(t:ByteArray)=>(dS t,[])) [] none).run=some (r,H')):Awp N46 LL (bodyOf Tryz.f11) N10 ⟨mkE 34 0 [(0,.agg [dI b,dI d,dI g])],[]⟩ (Ret (tlook tys) Tryz.f11.results.toList r H'):=
 ret_of' (Link.cast (by kernel_rfl) (by kernel_rfl) (link_group (c:=(cq [0,1,1] (bodyOf Tryz.f11))) (a:=(aq [0,1,1] N10)) [(cq [0] (bodyOf Tryz.f11)),(cq [0,1] (bodyOf Tryz.f11))] [(aq [0] N10),(aq [0,1] N10)] rfl (link_seq2 (Nv2 b d g) (fun(t:ByteArray)=>(link_seq (link_seq (N13b t b d g) (fun(t48:(List Int)×Int)=>(link_block (fin2:=(fun(t27:ByteArray)=>(Exit.normal,⟨mkE 34 0 [(3,dS t27)],[]⟩))) (id:=0) (link_loop (mk:=fun(s:ByteArray×Int)=>⟨mkE 34 0 [(3,dS s.1),(21,dL t48.1),(22,dI t48.2),(23,dI s.2)],[]⟩) (fin:=(fun(t27:ByteArray)=>((Exit.exit 0),⟨mkE 34 0 [(3,dS t27)],[]⟩))) (by
 rintro t27 f K h
 ·exact h) (fun s=>link_map (N14q s.1 t48.1 t48.2 s.2) (Sum.elim (fun(t27:ByteArray×Int)=>Sum.inl (t27.1,t27.2)) (fun(t27:ByteArray)=>Sum.inr t27)) (by
 rintro(t27|t27)
 ·kernel_rfl
 ·kernel_rfl)) (t,0)) (fun(t27:ByteArray)=>t27) (by
 rintro t27 K h
 ·exact Eq.mp (by kernel_rfl) h)))) (fun(t48:ByteArray)=>(N163 t48)))) (fun(t:ByteArray)=>t) (by
 rintro t
 ·kernel_rfl) (by
 rintro t f K h
 ·exact h)))) (by unfold N3;kernel_rfl) (by
 intro t
 exact ret_mk [dS t] (by kernel_rfl) (by kernel_rfl) (by kernel_rfl) (by kernel_rfl)) h
def Ncn:Fun:=fun avs H=>
 match avs,H with
 |[.agg [.dat (.int .i64) a,.dat (.int .i64) b,.dat (.int .i64) c]],[]=>⟨_,N3 a b c,fun(t:ByteArray)=>(dS t,[]),[],none⟩
 |_,_=>Ans.no
theorem Ne1:Sound Tryz.prog 11 Ncn:=by
 refine fn_sound' (C:=N46) (c:=bodyOf Tryz.f11) (cok_of tys_ok (allc N109 (allc Njr (allc N118 alln))) (allc Tryz.call32 (allc Tryz.call33 (allc Tryz.call34 alln))) (by kernel_rfl)) Tryz.func11 (by kernel_rfl) LL N10 ?_
 intro avs H r H' h
 unfold Ncn at h
 split at h
 ·refine Awp.cast ?_ ?_ ?_ (Nzn _ _ _ h)<;>kernel_rfl
 ·simp[Ans.no,Ans.run] at h
def Ndx:Ann:=(.seq (.leaf [0,2]) (.seq (.leaf [0,2,4]) (.seq (.leaf [0,2,4,5]) (.seq (.seq (.leaf [0,2,4,5,15]) (.cond (.leaf [0,2,4,5]) (.leaf [0,2,4,5]))) (.seq (.seq (.leaf [0,2,4,5,26]) (.cond (.leaf [0,2,5]) (.leaf [0,2,5]))) (.seq (.seq (.leaf [2,5,42]) (.cond (.seq (.leaf [2,3]) (.leaf [2,3])) (.leaf [2,5]))) (.seq (.leaf [2,3]) (.leaf [2,3]))))))))
noncomputable def Ngh:Ctx:=⟨tlook tys,olook [(43,Nd7),(44,Nia),(45,Nlq),(11,Ncn)],ioF,0,false,[]⟩
theorem Nx2 (a:ByteArray):Link Ngh LL (bodyOf Tryz.f22) Ndx ⟨mkE 45 0 [(0,dS a)],[]⟩ (N7i a) (fun(t:Bool×Int×Int×Int)=>(Exit.ret,⟨mkE 45 0 [(2,.ptr 0 0),(3,dB t.1)],[some (.box [dI t.2.1,dI t.2.2.1,dI t.2.2.2])]⟩)):= .of fun K h=>by
 simp only[N7i,wpW] at h
 exact .of (by kernel_rfl) h
theorem N13k (a:ByteArray) {r:AV} {H':Heap} (h:(Ans.mk _ (N25 a) (fun(t:Bool×Int×Int×Int)=>(.tup [.agg [dI t.2.1,dI t.2.2.1,dI t.2.2.2],dB t.1],[some (.box [dI t.2.1,dI t.2.2.1,dI t.2.2.2])])) [] none).run=some (r,H')):Awp Ngh LL (bodyOf Tryz.f22) Ndx ⟨mkE 45 0 [(0,dS a)],[]⟩ (Ret (tlook tys) Tryz.f22.results.toList r H'):=
 ret_of' (Nx2 a) (by unfold N25;kernel_rfl) (by
 intro t
 exact ret_mk [.agg [dI t.2.1,dI t.2.2.1,dI t.2.2.2],dB t.1] (by kernel_rfl) (by kernel_rfl) (by kernel_rfl) (by kernel_rfl)) h
def Ncm:Fun:=fun avs H=>
 match avs,H with
 |[.dat .str a],[]=>⟨_,N25 a,fun(t:Bool×Int×Int×Int)=>(.tup [.agg [dI t.2.1,dI t.2.2.1,dI t.2.2.2],dB t.1],[some (.box [dI t.2.1,dI t.2.2.1,dI t.2.2.2])]),[],none⟩
 |_,_=>Ans.no
theorem Noz:Sound Tryz.prog 22 Ncm:=by
 refine fn_sound' (C:=Ngh) (c:=bodyOf Tryz.f22) (cok_of tys_ok (allc Nxv (allc Nzg (allc Nzv (allc Ne1 alln)))) (allc Tryz.call43 (allc Tryz.call44 (allc Tryz.call45 (allc Tryz.call11 alln)))) (by kernel_rfl)) Tryz.func22 (by kernel_rfl) LL Ndx ?_
 intro avs H r H' h
 unfold Ncm at h
 split at h
 ·refine Awp.cast ?_ ?_ ?_ (N13k _ h)<;>kernel_rfl
 ·simp[Ans.no,Ans.run] at h
def N1e:Ann:=(.seq (.leaf [0]) (.seq (.leaf [0,4]) (.seq (.leaf [0,4,5]) (.block (.loop (.block (.seq (.leaf [0,4,5,6,8]) (.seq (.leaf [0,4,5,6,8,9,10]) (.seq (.seq (.leaf [0,4,5,6,9,29]) (.cond (.seq (.leaf [2,3]) (.leaf [2,3])) (.leaf [0,4,5,6,9]))) (.seq (.leaf [0,4,5,6]) (.leaf [0,4,5])))))))))))
noncomputable def Nbm:Ctx:=⟨tlook tys,olook [(21,Nfy),(22,Ncm)],ioF,0,false,[]⟩
theorem Num (a:ByteArray):Link Nbm LL (Code.seq (cq [0] (bodyOf Tryz.f5)) (Code.seq (cq [0,1] (bodyOf Tryz.f5)) (cq [0,1,1] (bodyOf Tryz.f5)))) (Ann.seq (aq [0] N1e) (Ann.seq (aq [0,1] N1e) (aq [0,1,1] N1e))) ⟨mkE 41 0 [(0,dS a)],[]⟩ (Nab) (fun(t:Unit)=>(Exit.normal,⟨mkE 41 0 [(0,dS a),(4,.slc 0),(5,dI 0)],[some (.seq (.pair (.int .i64) (.pair (.int .i64) (.pair (.int .i64) .unit))) ([]:List (Int×Int×Int×Unit)))]⟩)):= .of fun K h=>by
 simp only[Nab,wpW] at h
 exact .of (by kernel_rfl) h
theorem N15n (a:ByteArray) (b:Int) (c:List (Int×Int×Int×Unit)):Link Nbm LL (cq [0,0,1,1,1] (bodyOf Tryz.f5)) (aq [0,0,1,1,1] N1e) ⟨mkE 41 0 [(0,dS a),(4,.slc 0),(5,dI b)],[some (.seq (.pair (.int .i64) (.pair (.int .i64) (.pair (.int .i64) .unit))) c)]⟩ (N38 a b c) (Sum.elim (fun(t:Int×(List (Int×Int×Int×Unit)))=>(Exit.normal,⟨mkE 41 0 [(0,dS a),(4,.slc 0),(5,dI t.1)],[some (.seq (.pair (.int .i64) (.pair (.int .i64) (.pair (.int .i64) .unit))) t.2)]⟩)) (fun(t:Int×(List (Int×Int×Int×Unit)))=>(Exit.ret,⟨mkE 41 0 [(2,.slc 0),(3,dI t.1)],[some (.seq (.pair (.int .i64) (.pair (.int .i64) (.pair (.int .i64) .unit))) t.2)]⟩))):= .of fun K h=>by
 simp only[N38,wpW] at h
 exact .of (by kernel_rfl) h
theorem N15t (b:ByteArray) {r:AV} {H':Heap} (h:(Ans.mk _ (N1l b) (fun(t:Int×(List (Int×Int×Int×Unit)))=>(.tup [.slc 0,dI t.1],[some (.seq (.pair (.int .i64) (.pair (.int .i64) (.pair (.int .i64) .unit))) t.2)])) [] none).run=some (r,H')):Awp Nbm LL (bodyOf Tryz.f5) N1e ⟨mkE 41 0 [(0,dS b)],[]⟩ (Ret (tlook tys) Tryz.f5.results.toList r H'):=
 ret_of' (Link.cast (by kernel_rfl) (by kernel_rfl) (link_group (c:=(cq [0,1,1] (bodyOf Tryz.f5))) (a:=(aq [0,1,1] N1e)) [(cq [0] (bodyOf Tryz.f5)),(cq [0,1] (bodyOf Tryz.f5))] [(aq [0] N1e),(aq [0,1] N1e)] rfl (link_seq (Num b) (fun(t:Unit)=>(link_block (fin2:=(fun(t:Int×(List (Int×Int×Int×Unit)))=>(Exit.ret,⟨mkE 41 0 [(2,.slc 0),(3,dI t.1)],[some (.seq (.pair (.int .i64) (.pair (.int .i64) (.pair (.int .i64) .unit))) t.2)]⟩))) (id:=0) (link_loop (mk:=fun(s:Int×(List (Int×Int×Int×Unit)))=>⟨mkE 41 0 [(0,dS b),(4,.slc 0),(5,dI s.1)],[some (.seq (.pair (.int .i64) (.pair (.int .i64) (.pair (.int .i64) .unit))) s.2)]⟩) (fin:=(fun(t:Int×(List (Int×Int×Int×Unit)))=>(Exit.ret,⟨mkE 41 0 [(2,.slc 0),(3,dI t.1)],[some (.seq (.pair (.int .i64) (.pair (.int .i64) (.pair (.int .i64) .unit))) t.2)]⟩))) (by
 rintro t f K h
 ·exact h) (fun s=>link_map (N15n b s.1 s.2) (Sum.elim (fun(t:Int×(List (Int×Int×Int×Unit)))=>Sum.inl (t.1,t.2)) (fun(t:Int×(List (Int×Int×Int×Unit)))=>Sum.inr t)) (by
 rintro(t|t)
 ·kernel_rfl
 ·kernel_rfl)) (0,([]:List (Int×Int×Int×Unit)))) (fun(t:Int×(List (Int×Int×Int×Unit)))=>t) (by
 rintro t K h
 ·exact Eq.mp (by kernel_rfl) h)))))) (by unfold N1l;kernel_rfl) (by
 intro t
 exact ret_mk [.slc 0,dI t.1] (by kernel_rfl) (by kernel_rfl) (by kernel_rfl) (by kernel_rfl)) h
def Nef:Fun:=fun avs H=>
 match avs,H with
 |[.dat .str a],[]=>⟨_,N1l a,fun(t:Int×(List (Int×Int×Int×Unit)))=>(.tup [.slc 0,dI t.1],[some (.seq (.pair (.int .i64) (.pair (.int .i64) (.pair (.int .i64) .unit))) t.2)]),[],none⟩
 |_,_=>Ans.no
theorem Nvu:Sound Tryz.prog 5 Nef:=by
 refine fn_sound' (C:=Nbm) (c:=bodyOf Tryz.f5) (cok_of tys_ok (allc N180 (allc Noz alln)) (allc Tryz.call21 (allc Tryz.call22 alln)) (by kernel_rfl)) Tryz.func5 (by kernel_rfl) LL N1e ?_
 intro avs H r H' h
 unfold Nef at h
 split at h
 ·refine Awp.cast ?_ ?_ ?_ (N15t _ h)<;>kernel_rfl
 ·simp[Ans.no,Ans.run] at h
def Nz:Ann:=(.seq (.leaf [0,1]) (.seq (.leaf [0,1,5]) (.seq (.leaf [0,1,5,6]) (.seq (.seq (.leaf [0,1,5,6,7]) (.block (.loop (.seq (.seq (.leaf [0,1,5,6,7,12]) (.cond (.leaf [0,1,5,6,7]) (.leaf [0,5,6]))) (.seq (.block (.seq (.leaf [0,1,5,6,7,19]) (.cond (.seq (.leaf [0,1,5,7]) (.leaf [0,1,5,6,7])) (.leaf [0,1,5,6,7])))) (.leaf [0,1,5,6,7])))))) (.seq (.leaf [4]) (.leaf [4]))))))
noncomputable def N5u:Ctx:=⟨tlook tys,olook [],ioF,0,false,[]⟩
theorem Nx3 (a:ByteArray) (b:Int):Link N5u LL (Code.seq (cq [0] (bodyOf Tryz.f46)) (Code.seq (cq [0,1] (bodyOf Tryz.f46)) (cq [0,1,1] (bodyOf Tryz.f46)))) (Ann.seq (aq [0] Nz) (Ann.seq (aq [0,1] Nz) (aq [0,1,1] Nz))) ⟨mkE 35 0 [(0,dS a),(1,dU b)],[]⟩ (N80) (fun(t:Unit)=>(Exit.normal,⟨mkE 35 0 [(0,dS a),(1,dU b),(5,.slc 0),(6,dI 0)],[some (.seq .str ([]:List ByteArray))]⟩)):= .of fun K h=>by
 simp only[N80,wpW] at h
 exact .of (by kernel_rfl) h
theorem N13f (a:ByteArray) (b:Int):Link N5u LL (cq [0,0,1,1,1] (bodyOf Tryz.f46)) (aq [0,0,1,1,1] Nz) ⟨mkE 35 0 [(0,dS a),(1,dU b),(5,.slc 0),(6,dI 0)],[some (.seq .str ([]:List ByteArray))]⟩ (Nck) (fun(t:Unit)=>(Exit.normal,⟨mkE 35 0 [(0,dS a),(1,dU b),(5,.slc 0),(6,dI 0),(7,dI 0)],[some (.seq .str ([]:List ByteArray))]⟩)):= .of fun K h=>by
 simp only[Nck,wpW] at h
 exact .of (by kernel_rfl) h
theorem N12x (a:ByteArray) (b c d:Int) (g:List ByteArray):Link N5u LL (cq [0,0,1,0,1,1,1] (bodyOf Tryz.f46)) (aq [0,0,1,0,1,1,1] Nz) ⟨mkE 35 0 [(0,dS a),(1,dU b),(5,.slc 0),(6,dI c),(7,dI d)],[some (.seq .str g)]⟩ (N3y a b c d g) (Sum.elim (fun(t:Int×Int×(List ByteArray))=>(Exit.normal,⟨mkE 35 0 [(0,dS a),(1,dU b),(5,.slc 0),(6,dI t.1),(7,dI t.2.1)],[some (.seq .str t.2.2)]⟩)) (fun(t:Int×(List ByteArray))=>((Exit.exit 0),⟨mkE 35 0 [(0,dS a),(5,.slc 0),(6,dI t.1)],[some (.seq .str t.2)]⟩))):= .of fun K h=>by
 simp only[N3y,wpW] at h
 exact .of (by kernel_rfl) h
theorem N16n (a:ByteArray) (b:Int) (c:List ByteArray):Link N5u LL (cq [1,1,1,1] (bodyOf Tryz.f46)) (aq [1,1,1,1] Nz) ⟨mkE 35 0 [(0,dS a),(5,.slc 0),(6,dI b)],[some (.seq .str c)]⟩ (Nbz a b c) (fun(t:(List ByteArray))=>(Exit.ret,⟨mkE 35 0 [(4,.slc 0)],[some (.seq .str t)]⟩)):= .of fun K h=>by
 simp only[Nbz,wpW] at h
 exact .of (by kernel_rfl) h
theorem N11a (b:ByteArray) (d:Int) {r:AV} {H':Heap} (h:(Ans.mk _ (N3t b d) (fun(t:(List ByteArray))=>(.slc 0,[some (.seq .str t)])) [] none).run=some (r,H')):Awp N5u LL (bodyOf Tryz.f46) Nz ⟨mkE 35 0 [(0,dS b),(1,dU d)],[]⟩ (Ret (tlook tys) Tryz.f46.results.toList r H'):=
 ret_of' (Link.cast (by kernel_rfl) (by kernel_rfl) (link_group (c:=(cq [0,1,1] (bodyOf Tryz.f46))) (a:=(aq [0,1,1] Nz)) [(cq [0] (bodyOf Tryz.f46)),(cq [0,1] (bodyOf Tryz.f46))] [(aq [0] Nz),(aq [0,1] Nz)] rfl (link_seq (Nx3 b d) (fun(t:Unit)=>(link_seq (link_seq (N13f b d) (fun(t:Unit)=>(link_block (fin2:=(fun(t:Int×(List ByteArray))=>(Exit.normal,⟨mkE 35 0 [(0,dS b),(5,.slc 0),(6,dI t.1)],[some (.seq .str t.2)]⟩))) (id:=0) (link_loop (mk:=fun(s:Int×Int×(List ByteArray))=>⟨mkE 35 0 [(0,dS b),(1,dU d),(5,.slc 0),(6,dI s.1),(7,dI s.2.1)],[some (.seq .str s.2.2)]⟩) (fin:=(fun(t:Int×(List ByteArray))=>((Exit.exit 0),⟨mkE 35 0 [(0,dS b),(5,.slc 0),(6,dI t.1)],[some (.seq .str t.2)]⟩))) (by
 rintro t f K h
 ·exact h) (fun s=>link_map (N12x b d s.1 s.2.1 s.2.2) (Sum.elim (fun(t:Int×Int×(List ByteArray))=>Sum.inl (t.1,t.2.1,t.2.2)) (fun(t:Int×(List ByteArray))=>Sum.inr t)) (by
 rintro(t|t)
 ·kernel_rfl
 ·kernel_rfl)) (0,0,([]:List ByteArray))) (fun(t:Int×(List ByteArray))=>(t.1,t.2)) (by
 rintro t K h
 ·exact Eq.mp (by kernel_rfl) h)))) (fun(t:Int×(List ByteArray))=>(N16n b t.1 t.2))))))) (by unfold N3t;kernel_rfl) (by
 intro t
 exact ret_mk [.slc 0] (by kernel_rfl) (by kernel_rfl) (by kernel_rfl) (by kernel_rfl)) h
def Nhm:Fun:=fun avs H=>
 match avs,H with
 |[.dat .str a,.dat (.int .u8) b],[]=>⟨_,N3t a b,fun(t:(List ByteArray))=>(.slc 0,[some (.seq .str t)]),[],none⟩
 |_,_=>Ans.no
theorem Nu6:Sound Tryz.prog 46 Nhm:=by
 refine fn_sound' (C:=N5u) (c:=bodyOf Tryz.f46) (cok_of tys_ok (alln) (alln) (by kernel_rfl)) Tryz.func46 (by kernel_rfl) LL Nz ?_
 intro avs H r H' h
 unfold Nhm at h
 split at h
 ·refine Awp.cast ?_ ?_ ?_ (N11a _ _ h)<;>kernel_rfl
 ·simp[Ans.no,Ans.run] at h
def N12:Ann:=(.seq (.leaf [0]) (.seq (.seq (.leaf [0,18]) (.cond (.seq (.leaf [2]) (.leaf [2])) (.leaf [0]))) (.seq (.leaf [0,3]) (.seq (.seq (.leaf [0,3,4]) (.block (.loop (.seq (.seq (.leaf [0,3,4,22]) (.cond (.leaf [0,3,4]) (.leaf [3]))) (.seq (.block (.seq (.seq (.leaf [0,3,4,34]) (.cond (.seq (.leaf [2]) (.leaf [2])) (.leaf [0,3,4]))) (.leaf [0,3,4]))) (.leaf [0,3,4])))))) (.seq (.leaf [2]) (.leaf [2]))))))
noncomputable def N4i:Ctx:=⟨tlook tys,olook [(51,N36)],ioF,0,false,[]⟩
theorem N18d (a:ByteArray):Link N4i LL (Code.seq (cq [0] (bodyOf Tryz.f47)) (Code.seq (cq [0,1] (bodyOf Tryz.f47)) (cq [0,1,1] (bodyOf Tryz.f47)))) (Ann.seq (aq [0] N12) (Ann.seq (aq [0,1] N12) (aq [0,1,1] N12))) ⟨mkE 44 0 [(0,dS a)],[]⟩ (N8o a) (Sum.elim (fun(t:Unit)=>(Exit.normal,⟨mkE 44 0 [(0,dS a),(3,dI 0)],[]⟩)) (fun(t:Int)=>(Exit.ret,⟨mkE 44 0 [(2,dI t)],[]⟩))):= .of fun K h=>by
 simp only[N8o,wpW] at h
 exact .of (by kernel_rfl) h
theorem Nqg (a:ByteArray):Link N4i LL (cq [0,0,1,1,1] (bodyOf Tryz.f47)) (aq [0,0,1,1,1] N12) ⟨mkE 44 0 [(0,dS a),(3,dI 0)],[]⟩ (Nb4) (fun(t:Unit)=>(Exit.normal,⟨mkE 44 0 [(0,dS a),(3,dI 0),(4,dI 0)],[]⟩)):= .of fun K h=>by
 simp only[Nb4,wpW] at h
 exact .of (by kernel_rfl) h
theorem Nxf (a:ByteArray) (b c:Int):Link N4i LL (cq [0,0,1,0,1,1,1] (bodyOf Tryz.f47)) (aq [0,0,1,0,1,1,1] N12) ⟨mkE 44 0 [(0,dS a),(3,dI b),(4,dI c)],[]⟩ (N5q a b c) (Sum.elim (fun(t:Int×Int)=>(Exit.normal,⟨mkE 44 0 [(0,dS a),(3,dI t.1),(4,dI t.2)],[]⟩)) (Sum.elim (fun(t:Int)=>(Exit.ret,⟨mkE 44 0 [(2,dI t)],[]⟩)) (fun(t:Int)=>((Exit.exit 0),⟨mkE 44 0 [(3,dI t)],[]⟩)))):= .of fun K h=>by
 simp only[N5q,wpW] at h
 exact .of (by kernel_rfl) h
theorem N16y (a:Int):Link N4i LL (cq [1,1,1,1] (bodyOf Tryz.f47)) (aq [1,1,1,1] N12) ⟨mkE 44 0 [(3,dI a)],[]⟩ (N97 a) (fun(t:Int)=>(Exit.ret,⟨mkE 44 0 [(2,dI t)],[]⟩)):= .of fun K h=>by
 simp only[N97,wpW] at h
 exact .of (by kernel_rfl) h
theorem N11t (b:ByteArray) {r:AV} {H':Heap} (h:(Ans.mk _ (N14 b) (fun(t:Int)=>(dI t,[])) [] none).run=some (r,H')):Awp N4i LL (bodyOf Tryz.f47) N12 ⟨mkE 44 0 [(0,dS b)],[]⟩ (Ret (tlook tys) Tryz.f47.results.toList r H'):=
 ret_of' (Link.cast (by kernel_rfl) (by kernel_rfl) (link_group (c:=(cq [0,1,1] (bodyOf Tryz.f47))) (a:=(aq [0,1,1] N12)) [(cq [0] (bodyOf Tryz.f47)),(cq [0,1] (bodyOf Tryz.f47))] [(aq [0] N12),(aq [0,1] N12)] rfl (link_seq2 (N18d b) (fun(t:Unit)=>(link_seq2 (link_seq (Nqg b) (fun(t:Unit)=>(link_block (fin2:=(Sum.elim (fun(t:Int)=>(Exit.normal,⟨mkE 44 0 [(3,dI t)],[]⟩)) (fun(t:Int)=>(Exit.ret,⟨mkE 44 0 [(2,dI t)],[]⟩)))) (id:=0) (link_loop (mk:=fun(s:Int×Int)=>⟨mkE 44 0 [(0,dS b),(3,dI s.1),(4,dI s.2)],[]⟩) (fin:=(Sum.elim (fun(t:Int)=>(Exit.ret,⟨mkE 44 0 [(2,dI t)],[]⟩)) (fun(t:Int)=>((Exit.exit 0),⟨mkE 44 0 [(3,dI t)],[]⟩)))) (by
 rintro(t|t) f K h
 ·exact h
 ·exact h) (fun s=>link_map (Nxf b s.1 s.2) (Sum.elim (fun(t:Int×Int)=>Sum.inl (t.1,t.2)) (Sum.elim (fun(t:Int)=>Sum.inr (Sum.inl t)) (fun(t:Int)=>Sum.inr (Sum.inr t)))) (by
 rintro(t|t|t)
 ·kernel_rfl
 ·kernel_rfl
 ·kernel_rfl)) (0,0)) (Sum.elim (fun(t:Int)=>(Sum.inr t)) (fun(t:Int)=>(Sum.inl t))) (by
 rintro(t|t) K h
 ·exact Eq.mp (by kernel_rfl) h
 ·exact Eq.mp (by kernel_rfl) h)))) (fun(t:Int)=>(N16y t)) (fun(t:Int)=>t) (by
 rintro t
 ·kernel_rfl) (by
 rintro t f K h
 ·exact h))) (fun(t:Int)=>t) (by
 rintro t
 ·kernel_rfl) (by
 rintro t f K h
 ·exact h)))) (by unfold N14;kernel_rfl) (by
 intro t
 exact ret_mk [dI t] (by kernel_rfl) (by kernel_rfl) (by kernel_rfl) (by kernel_rfl)) h
def Nh6:Fun:=fun avs H=>
 match avs,H with
 |[.dat .str a],[]=>⟨_,N14 a,fun(t:Int)=>(dI t,[]),[],none⟩
 |_,_=>Ans.no
theorem Nz6:Sound Tryz.prog 47 Nh6:=by
 refine fn_sound' (C:=N4i) (c:=bodyOf Tryz.f47) (cok_of tys_ok (allc N78 alln) (allc Tryz.call51 alln) (by kernel_rfl)) Tryz.func47 (by kernel_rfl) LL N12 ?_
 intro avs H r H' h
 unfold Nh6 at h
 split at h
 ·refine Awp.cast ?_ ?_ ?_ (N11t _ h)<;>kernel_rfl
 ·simp[Ans.no,Ans.run] at h
def N8:Ann:=(.seq (.leaf [0,2]) (.seq (.leaf [0,2,4]) (.seq (.leaf [0,2,4,5]) (.seq (.seq (.leaf [0,2,4,5,16]) (.cond (.draw [4,8] [0,1,2,3,5,6,7,4,8,9,10,11,12] [] [0,2,4,5]) (.leaf [0,2,4,5]))) (.seq (.seq (.leaf [0,2,4,5,31]) (.cond (.leaf [0,2,5]) (.leaf [0,2,5]))) (.seq (.seq (.leaf [0,2,5,6]) (.block (.loop (.seq (.seq (.leaf [0,2,5,6,43]) (.cond (.leaf [0,2,5,6]) (.leaf [2]))) (.seq (.block (.seq (.leaf [0,2,5,6,56]) (.cond (.seq (.leaf [2,3]) (.leaf [2,3])) (.leaf [0,2,5,6])))) (.leaf [0,2,5,6])))))) (.seq (.leaf [2,3]) (.leaf [2,3]))))))))
noncomputable def N15:Ctx:=⟨tlook tys,olook [(46,Nhm),(47,Nh6),(40,N6d)],ioF,0,false,[]⟩
theorem Nyj (a:ByteArray):Link N15 LL (Code.seq (cq [0] (bodyOf Tryz.f23)) (Code.seq (cq [0,1] (bodyOf Tryz.f23)) (cq [0,1,1] (bodyOf Tryz.f23)))) (Ann.seq (aq [0] N8) (Ann.seq (aq [0,1] N8) (aq [0,1,1] N8))) ⟨mkE 62 0 [(0,dS a)],[]⟩ (N8k a) (fun(t:(List ByteArray)×(List (Int×Int×Int×Unit)))=>(Exit.normal,⟨mkE 62 0 [(0,dS a),(2,.ptr 0 0),(4,.slc 1),(5,.slc 2)],[some (.box [dI 0,dI 0,dI 0]),some (.seq .str t.1),some (.seq (.pair (.int .i64) (.pair (.int .i64) (.pair (.int .i64) .unit))) t.2)]⟩)):= .of fun K h=>by
 simp only[N8k,wpW] at h
 exact .of (by kernel_rfl) h
theorem N13o (a:ByteArray) (b:List ByteArray) (c:List (Int×Int×Int×Unit)):Link N15 LL (cq [0,0,1,1,1] (bodyOf Tryz.f23)) (aq [0,0,1,1,1] N8) ⟨mkE 62 0 [(0,dS a),(2,.ptr 0 0),(4,.slc 1),(5,.slc 2)],[some (.box [dI 0,dI 0,dI 0]),some (.seq .str b),some (.seq (.pair (.int .i64) (.pair (.int .i64) (.pair (.int .i64) .unit))) c)]⟩ (Naj b) (fun(t:Bool)=>(Exit.normal,⟨mkE 62 0 [(0,dS a),(2,.ptr 0 0),(4,.slc 1),(5,.slc 2),(16,dB t)],[some (.box [dI 0,dI 0,dI 0]),some (.seq .str b),some (.seq (.pair (.int .i64) (.pair (.int .i64) (.pair (.int .i64) .unit))) c)]⟩)):= .of fun K h=>by
 simp only[Naj,wpW] at h
 exact .of (by kernel_rfl) h
theorem Nu7 (a:ByteArray) (b:Bool) (c:List ByteArray) (d:List (Int×Int×Int×Unit)):Link N15 LL (cq [0,1,0,1,1,1] (bodyOf Tryz.f23)) (aq [0,1,0,1,1,1] N8) ⟨mkE 62 0 [(0,dS a),(2,.ptr 0 0),(4,.slc 1),(5,.slc 2),(16,dB b)],[some (.box [dI 0,dI 0,dI 0]),some (.seq .str c),some (.seq (.pair (.int .i64) (.pair (.int .i64) (.pair (.int .i64) .unit))) d)]⟩ (N90 c d) (fun(t:(List (Int×Int×Int×Unit)))=>(Exit.normal,⟨mkE 62 0 [(0,dS a),(2,.ptr 0 0),(4,.slc 1),(5,.slc 2)],[some (.box [dI 0,dI 0,dI 0]),some (.seq .str c),some (.seq (.pair (.int .i64) (.pair (.int .i64) (.pair (.int .i64) .unit))) t)]⟩)):= .of fun K h=>by
 simp only[N90,wpW] at h
 exact .of (by kernel_rfl) h
theorem N12m (a:ByteArray) (b:Bool) (c:List ByteArray) (d:List (Int×Int×Int×Unit)):Link N15 LL (cq [1,1,0,1,1,1] (bodyOf Tryz.f23)) (aq [1,1,0,1,1,1] N8) ⟨mkE 62 0 [(0,dS a),(2,.ptr 0 0),(4,.slc 1),(5,.slc 2),(16,dB b)],[some (.box [dI 0,dI 0,dI 0]),some (.seq .str c),some (.seq (.pair (.int .i64) (.pair (.int .i64) (.pair (.int .i64) .unit))) d)]⟩ (N93) (fun(t:Unit)=>(Exit.normal,⟨mkE 62 0 [(0,dS a),(2,.ptr 0 0),(4,.slc 1),(5,.slc 2)],[some (.box [dI 0,dI 0,dI 0]),some (.seq .str c),some (.seq (.pair (.int .i64) (.pair (.int .i64) (.pair (.int .i64) .unit))) d)]⟩)):= .of fun K h=>by
 simp only[N93,wpW] at h
 exact .of (by kernel_rfl) h
theorem N14g (a:ByteArray) (b:List ByteArray) (c:List (Int×Int×Int×Unit)):Link N15 LL (cq [0,1,1,1,1] (bodyOf Tryz.f23)) (aq [0,1,1,1,1] N8) ⟨mkE 62 0 [(0,dS a),(2,.ptr 0 0),(4,.slc 1),(5,.slc 2)],[some (.box [dI 0,dI 0,dI 0]),some (.seq .str b),some (.seq (.pair (.int .i64) (.pair (.int .i64) (.pair (.int .i64) .unit))) c)]⟩ (N6k b c) (fun(t:(List (Int×Int×Int×Unit)))=>(Exit.normal,⟨mkE 62 0 [(0,dS a),(2,.ptr 0 0),(5,.slc 1)],[some (.box [dI 0,dI 0,dI 0]),some (.seq (.pair (.int .i64) (.pair (.int .i64) (.pair (.int .i64) .unit))) t)]⟩)):= .of fun K h=>by
 simp only[N6k,wpW] at h
 exact .of (by kernel_rfl) h
theorem Nsr (a:ByteArray) (b:List (Int×Int×Int×Unit)):Link N15 LL (cq [0,0,1,1,1,1,1] (bodyOf Tryz.f23)) (aq [0,0,1,1,1,1,1] N8) ⟨mkE 62 0 [(0,dS a),(2,.ptr 0 0),(5,.slc 1)],[some (.box [dI 0,dI 0,dI 0]),some (.seq (.pair (.int .i64) (.pair (.int .i64) (.pair (.int .i64) .unit))) b)]⟩ (N8l) (fun(t:Unit)=>(Exit.normal,⟨mkE 62 0 [(0,dS a),(2,.ptr 0 0),(5,.slc 1),(6,dI 0)],[some (.box [dI 0,dI 0,dI 0]),some (.seq (.pair (.int .i64) (.pair (.int .i64) (.pair (.int .i64) .unit))) b)]⟩)):= .of fun K h=>by
 simp only[N8l,wpW] at h
 exact .of (by kernel_rfl) h
theorem N16c (a:ByteArray) (b:Int) (c:List (Int×Int×Int×Unit)):Link N15 LL (cq [0,0,1,0,1,1,1,1,1] (bodyOf Tryz.f23)) (aq [0,0,1,0,1,1,1,1,1] N8) ⟨mkE 62 0 [(0,dS a),(2,.ptr 0 0),(5,.slc 1),(6,dI b)],[some (.box [dI 0,dI 0,dI 0]),some (.seq (.pair (.int .i64) (.pair (.int .i64) (.pair (.int .i64) .unit))) c)]⟩ (N5i a b c) (Sum.elim (fun(t:Int)=>(Exit.normal,⟨mkE 62 0 [(0,dS a),(2,.ptr 0 0),(5,.slc 1),(6,dI t)],[some (.box [dI 0,dI 0,dI 0]),some (.seq (.pair (.int .i64) (.pair (.int .i64) (.pair (.int .i64) .unit))) c)]⟩)) (Sum.elim (fun(t:Bool×Int×Int×Int)=>(Exit.ret,⟨mkE 62 0 [(2,.ptr 0 0),(3,dB t.1)],[some (.box [dI t.2.1,dI t.2.2.1,dI t.2.2.2])]⟩)) (fun(t:Unit)=>((Exit.exit 0),⟨mkE 62 0 [(2,.ptr 0 0)],[some (.box [dI 0,dI 0,dI 0])]⟩)))):= .of fun K h=>by
 simp only[N5i,wpW] at h
 exact .of (by kernel_rfl) h
theorem Nqa:Link N15 LL (cq [1,1,1,1,1,1] (bodyOf Tryz.f23)) (aq [1,1,1,1,1,1] N8) ⟨mkE 62 0 [(2,.ptr 0 0)],[some (.box [dI 0,dI 0,dI 0])]⟩ (N7r) (fun(t:Bool×Int×Int×Int)=>(Exit.ret,⟨mkE 62 0 [(2,.ptr 0 0),(3,dB t.1)],[some (.box [dI t.2.1,dI t.2.2.1,dI t.2.2.2])]⟩)):= .of fun K h=>by
 simp only[N7r,wpW] at h
 exact .of (by kernel_rfl) h
theorem Npo (b:ByteArray) {r:AV} {H':Heap} (h:(Ans.mk _ (N2r b) (fun(t:Bool×Int×Int×Int)=>(.tup [.agg [dI t.2.1,dI t.2.2.1,dI t.2.2.2],dB t.1],[some (.box [dI t.2.1,dI t.2.2.1,dI t.2.2.2])])) [] none).run=some (r,H')):Awp N15 LL (bodyOf Tryz.f23) N8 ⟨mkE 62 0 [(0,dS b)],[]⟩ (Ret (tlook tys) Tryz.f23.results.toList r H'):=
 ret_of' (Link.cast (by kernel_rfl) (by kernel_rfl) (link_group (c:=(cq [0,1,1] (bodyOf Tryz.f23))) (a:=(aq [0,1,1] N8)) [(cq [0] (bodyOf Tryz.f23)),(cq [0,1] (bodyOf Tryz.f23))] [(aq [0] N8),(aq [0,1] N8)] rfl (link_seq (Nyj b) (fun(t:(List ByteArray)×(List (Int×Int×Int×Unit)))=>(link_seq (link_seq (N13o b t.1 t.2) (fun(t56:Bool)=>(link_cond (c:= .tmp 16) (g:=t56) (by kernel_rfl) ((link_map (fin2:=(fun(t6:(List (Int×Int×Int×Unit)))=>(Exit.normal,⟨mkE 62 0 [(0,dS b),(2,.ptr 0 0),(4,.slc 1),(5,.slc 2)],[some (.box [dI 0,dI 0,dI 0]),some (.seq .str t.1),some (.seq (.pair (.int .i64) (.pair (.int .i64) (.pair (.int .i64) .unit))) t6)]⟩))) (Nu7 b t56 t.1 t.2) (fun(t6:(List (Int×Int×Int×Unit)))=>t6) (by
 rintro t6
 ·kernel_rfl))) ((link_map (fin2:=(fun(t6:(List (Int×Int×Int×Unit)))=>(Exit.normal,⟨mkE 62 0 [(0,dS b),(2,.ptr 0 0),(4,.slc 1),(5,.slc 2)],[some (.box [dI 0,dI 0,dI 0]),some (.seq .str t.1),some (.seq (.pair (.int .i64) (.pair (.int .i64) (.pair (.int .i64) .unit))) t6)]⟩))) (N12m b t56 t.1 t.2) (fun(t6:Unit)=>t.2) (by
 rintro t6
 ·kernel_rfl)))))) (fun(t56:(List (Int×Int×Int×Unit)))=>(link_seq (N14g b t.1 t56) (fun(t7:(List (Int×Int×Int×Unit)))=>(link_seq2 (link_seq (Nsr b t7) (fun(t56:Unit)=>(link_block (fin2:=(Sum.elim (fun(t56:Unit)=>(Exit.normal,⟨mkE 62 0 [(2,.ptr 0 0)],[some (.box [dI 0,dI 0,dI 0])]⟩)) (fun(t56:Bool×Int×Int×Int)=>(Exit.ret,⟨mkE 62 0 [(2,.ptr 0 0),(3,dB t56.1)],[some (.box [dI t56.2.1,dI t56.2.2.1,dI t56.2.2.2])]⟩)))) (id:=0) (link_loop (mk:=fun(s:Int)=>⟨mkE 62 0 [(0,dS b),(2,.ptr 0 0),(5,.slc 1),(6,dI s)],[some (.box [dI 0,dI 0,dI 0]),some (.seq (.pair (.int .i64) (.pair (.int .i64) (.pair (.int .i64) .unit))) t7)]⟩) (fin:=(Sum.elim (fun(t56:Bool×Int×Int×Int)=>(Exit.ret,⟨mkE 62 0 [(2,.ptr 0 0),(3,dB t56.1)],[some (.box [dI t56.2.1,dI t56.2.2.1,dI t56.2.2.2])]⟩)) (fun(t56:Unit)=>((Exit.exit 0),⟨mkE 62 0 [(2,.ptr 0 0)],[some (.box [dI 0,dI 0,dI 0])]⟩)))) (by
 rintro(t56|t56) f K h
 ·exact h
 ·exact h) (fun s=>link_map (N16c b s t7) (Sum.elim (fun(t56:Int)=>Sum.inl t56) (Sum.elim (fun(t56:Bool×Int×Int×Int)=>Sum.inr (Sum.inl t56)) (fun(t56:Unit)=>Sum.inr (Sum.inr t56)))) (by
 rintro(t56|t56|t56)
 ·kernel_rfl
 ·kernel_rfl
 ·kernel_rfl)) 0) (Sum.elim (fun(t56:Bool×Int×Int×Int)=>(Sum.inr t56)) (fun(t56:Unit)=>(Sum.inl ()))) (by
 rintro(t56|t56) K h
 ·exact Eq.mp (by kernel_rfl) h
 ·exact Eq.mp (by kernel_rfl) h)))) (fun(t56:Unit)=>(Nqa)) (fun(t56:Bool×Int×Int×Int)=>t56) (by
 rintro t56
 ·kernel_rfl) (by
 rintro t56 f K h
 ·exact h)))))))))) (by unfold N2r;kernel_rfl) (by
 intro t
 exact ret_mk [.agg [dI t.2.1,dI t.2.2.1,dI t.2.2.2],dB t.1] (by kernel_rfl) (by kernel_rfl) (by kernel_rfl) (by kernel_rfl)) h
def Nh3:Fun:=fun avs H=>
 match avs,H with
 |[.dat .str a],[]=>⟨_,N2r a,fun(t:Bool×Int×Int×Int)=>(.tup [.agg [dI t.2.1,dI t.2.2.1,dI t.2.2.2],dB t.1],[some (.box [dI t.2.1,dI t.2.2.1,dI t.2.2.2])]),[],none⟩
 |_,_=>Ans.no
theorem Nra:Sound Tryz.prog 23 Nh3:=by
 refine fn_sound' (C:=N15) (c:=bodyOf Tryz.f23) (cok_of tys_ok (allc Nu6 (allc Nz6 (allc Ng5 alln))) (allc Tryz.call46 (allc Tryz.call47 (allc Tryz.call40 alln))) (by kernel_rfl)) Tryz.func23 (by kernel_rfl) LL N8 ?_
 intro avs H r H' h
 unfold Nh3 at h
 split at h
 ·refine Awp.cast ?_ ?_ ?_ (Npo _ h)<;>kernel_rfl
 ·simp[Ans.no,Ans.run] at h
def Nr:Ann:=(.seq (.leaf [0]) (.seq (.leaf [0,4]) (.seq (.leaf [0,4,5]) (.seq (.seq (.leaf [0,4,5,6]) (.block (.loop (.seq (.seq (.leaf [0,4,5,6,13]) (.cond (.leaf [0,4,5,6]) (.leaf [4,5]))) (.seq (.block (.seq (.leaf [0,4,5,6,19]) (.cond (.seq (.leaf [0,4,5,6,7,8]) (.seq (.seq (.leaf [0,4,5,6,7,29]) (.cond (.seq (.leaf [2,3]) (.leaf [2,3])) (.leaf [0,4,6,7]))) (.seq (.leaf [0,4,6]) (.leaf [0,4,5,6])))) (.leaf [0,4,5,6])))) (.leaf [0,4,5,6])))))) (.seq (.leaf [2,3]) (.leaf [2,3]))))))
noncomputable def N50:Ctx:=⟨tlook tys,olook [(23,Nh3)],ioF,0,false,[]⟩
theorem N12i (a:ByteArray):Link N50 LL (Code.seq (cq [0] (bodyOf Tryz.f6)) (Code.seq (cq [0,1] (bodyOf Tryz.f6)) (cq [0,1,1] (bodyOf Tryz.f6)))) (Ann.seq (aq [0] Nr) (Ann.seq (aq [0,1] Nr) (aq [0,1,1] Nr))) ⟨mkE 40 0 [(0,dS a)],[]⟩ (N8x) (fun(t:Unit)=>(Exit.normal,⟨mkE 40 0 [(0,dS a),(4,.slc 0),(5,dI 0)],[some (.seq (.pair (.int .i64) (.pair (.int .i64) (.pair (.int .i64) .unit))) ([]:List (Int×Int×Int×Unit)))]⟩)):= .of fun K h=>by
 simp only[N8x,wpW] at h
 exact .of (by kernel_rfl) h
theorem Nxx (a:ByteArray):Link N50 LL (cq [0,0,1,1,1] (bodyOf Tryz.f6)) (aq [0,0,1,1,1] Nr) ⟨mkE 40 0 [(0,dS a),(4,.slc 0),(5,dI 0)],[some (.seq (.pair (.int .i64) (.pair (.int .i64) (.pair (.int .i64) .unit))) ([]:List (Int×Int×Int×Unit)))]⟩ (Nar) (fun(t:Unit)=>(Exit.normal,⟨mkE 40 0 [(0,dS a),(4,.slc 0),(5,dI 0),(6,dI 0)],[some (.seq (.pair (.int .i64) (.pair (.int .i64) (.pair (.int .i64) .unit))) ([]:List (Int×Int×Int×Unit)))]⟩)):= .of fun K h=>by
 simp only[Nar,wpW] at h
 exact .of (by kernel_rfl) h
theorem Nq3 (a:ByteArray) (b c:Int) (d:List (Int×Int×Int×Unit)):Link N50 LL (cq [0,0,1,0,1,1,1] (bodyOf Tryz.f6)) (aq [0,0,1,0,1,1,1] Nr) ⟨mkE 40 0 [(0,dS a),(4,.slc 0),(5,dI b),(6,dI c)],[some (.seq (.pair (.int .i64) (.pair (.int .i64) (.pair (.int .i64) .unit))) d)]⟩ (N2j a b c d) (Sum.elim (fun(t:Int×Int×(List (Int×Int×Int×Unit)))=>(Exit.normal,⟨mkE 40 0 [(0,dS a),(4,.slc 0),(5,dI t.1),(6,dI t.2.1)],[some (.seq (.pair (.int .i64) (.pair (.int .i64) (.pair (.int .i64) .unit))) t.2.2)]⟩)) (Sum.elim (fun(t:Int×(List (Int×Int×Int×Unit)))=>(Exit.ret,⟨mkE 40 0 [(2,.slc 0),(3,dI t.1)],[some (.seq (.pair (.int .i64) (.pair (.int .i64) (.pair (.int .i64) .unit))) t.2)]⟩)) (fun(t:Int×(List (Int×Int×Int×Unit)))=>((Exit.exit 0),⟨mkE 40 0 [(4,.slc 0),(5,dI t.1)],[some (.seq (.pair (.int .i64) (.pair (.int .i64) (.pair (.int .i64) .unit))) t.2)]⟩)))):= .of fun K h=>by
 simp only[N2j,wpW] at h
 exact .of (by kernel_rfl) h
theorem N17p (a:Int) (b:List (Int×Int×Int×Unit)):Link N50 LL (cq [1,1,1,1] (bodyOf Tryz.f6)) (aq [1,1,1,1] Nr) ⟨mkE 40 0 [(4,.slc 0),(5,dI a)],[some (.seq (.pair (.int .i64) (.pair (.int .i64) (.pair (.int .i64) .unit))) b)]⟩ (N9g a b) (fun(t:Int×(List (Int×Int×Int×Unit)))=>(Exit.ret,⟨mkE 40 0 [(2,.slc 0),(3,dI t.1)],[some (.seq (.pair (.int .i64) (.pair (.int .i64) (.pair (.int .i64) .unit))) t.2)]⟩)):= .of fun K h=>by
 simp only[N9g,wpW] at h
 exact .of (by kernel_rfl) h
theorem Nv0 (b:ByteArray) {r:AV} {H':Heap} (h:(Ans.mk _ (N3a b) (fun(t:Int×(List (Int×Int×Int×Unit)))=>(.tup [.slc 0,dI t.1],[some (.seq (.pair (.int .i64) (.pair (.int .i64) (.pair (.int .i64) .unit))) t.2)])) [] none).run=some (r,H')):Awp N50 LL (bodyOf Tryz.f6) Nr ⟨mkE 40 0 [(0,dS b)],[]⟩ (Ret (tlook tys) Tryz.f6.results.toList r H'):=
 ret_of' (Link.cast (by kernel_rfl) (by kernel_rfl) (link_group (c:=(cq [0,1,1] (bodyOf Tryz.f6))) (a:=(aq [0,1,1] Nr)) [(cq [0] (bodyOf Tryz.f6)),(cq [0,1] (bodyOf Tryz.f6))] [(aq [0] Nr),(aq [0,1] Nr)] rfl (link_seq (N12i b) (fun(t:Unit)=>(link_seq2 (link_seq (Nxx b) (fun(t:Unit)=>(link_block (fin2:=(Sum.elim (fun(t:Int×(List (Int×Int×Int×Unit)))=>(Exit.normal,⟨mkE 40 0 [(4,.slc 0),(5,dI t.1)],[some (.seq (.pair (.int .i64) (.pair (.int .i64) (.pair (.int .i64) .unit))) t.2)]⟩)) (fun(t:Int×(List (Int×Int×Int×Unit)))=>(Exit.ret,⟨mkE 40 0 [(2,.slc 0),(3,dI t.1)],[some (.seq (.pair (.int .i64) (.pair (.int .i64) (.pair (.int .i64) .unit))) t.2)]⟩)))) (id:=0) (link_loop (mk:=fun(s:Int×Int×(List (Int×Int×Int×Unit)))=>⟨mkE 40 0 [(0,dS b),(4,.slc 0),(5,dI s.1),(6,dI s.2.1)],[some (.seq (.pair (.int .i64) (.pair (.int .i64) (.pair (.int .i64) .unit))) s.2.2)]⟩) (fin:=(Sum.elim (fun(t:Int×(List (Int×Int×Int×Unit)))=>(Exit.ret,⟨mkE 40 0 [(2,.slc 0),(3,dI t.1)],[some (.seq (.pair (.int .i64) (.pair (.int .i64) (.pair (.int .i64) .unit))) t.2)]⟩)) (fun(t:Int×(List (Int×Int×Int×Unit)))=>((Exit.exit 0),⟨mkE 40 0 [(4,.slc 0),(5,dI t.1)],[some (.seq (.pair (.int .i64) (.pair (.int .i64) (.pair (.int .i64) .unit))) t.2)]⟩)))) (by
 rintro(t|t) f K h
 ·exact h
 ·exact h) (fun s=>link_map (Nq3 b s.1 s.2.1 s.2.2) (Sum.elim (fun(t:Int×Int×(List (Int×Int×Int×Unit)))=>Sum.inl (t.1,t.2.1,t.2.2)) (Sum.elim (fun(t:Int×(List (Int×Int×Int×Unit)))=>Sum.inr (Sum.inl t)) (fun(t:Int×(List (Int×Int×Int×Unit)))=>Sum.inr (Sum.inr t)))) (by
 rintro(t|t|t)
 ·kernel_rfl
 ·kernel_rfl
 ·kernel_rfl)) (0,0,([]:List (Int×Int×Int×Unit)))) (Sum.elim (fun(t:Int×(List (Int×Int×Int×Unit)))=>(Sum.inr t)) (fun(t:Int×(List (Int×Int×Int×Unit)))=>(Sum.inl (t.1,t.2)))) (by
 rintro(t|t) K h
 ·exact Eq.mp (by kernel_rfl) h
 ·exact Eq.mp (by kernel_rfl) h)))) (fun(t:Int×(List (Int×Int×Int×Unit)))=>(N17p t.1 t.2)) (fun(t:Int×(List (Int×Int×Int×Unit)))=>t) (by
 rintro t
 ·kernel_rfl) (by
 rintro t f K h
 ·exact h)))))) (by unfold N3a;kernel_rfl) (by
 intro t
 exact ret_mk [.slc 0,dI t.1] (by kernel_rfl) (by kernel_rfl) (by kernel_rfl) (by kernel_rfl)) h
def Nf3:Fun:=fun avs H=>
 match avs,H with
 |[.dat .str a],[]=>⟨_,N3a a,fun(t:Int×(List (Int×Int×Int×Unit)))=>(.tup [.slc 0,dI t.1],[some (.seq (.pair (.int .i64) (.pair (.int .i64) (.pair (.int .i64) .unit))) t.2)]),[],none⟩
 |_,_=>Ans.no
theorem N14p:Sound Tryz.prog 6 Nf3:=by
 refine fn_sound' (C:=N50) (c:=bodyOf Tryz.f6) (cok_of tys_ok (allc Nra alln) (allc Tryz.call23 alln) (by kernel_rfl)) Tryz.func6 (by kernel_rfl) LL Nr ?_
 intro avs H r H' h
 unfold Nf3 at h
 split at h
 ·refine Awp.cast ?_ ?_ ?_ (Nv0 _ h)<;>kernel_rfl
 ·simp[Ans.no,Ans.run] at h
def N1o:Ann:=(.seq (.leaf [0,1]) (.seq (.seq (.leaf [0,1,10]) (.cond (.seq (.leaf [4]) (.leaf [4])) (.leaf [0,1]))) (.seq (.seq (.leaf [0,1,5]) (.block (.loop (.seq (.seq (.leaf [0,1,5,14]) (.cond (.leaf [0,1,5]) (.leaf []))) (.seq (.block (.seq (.draw [100008] [0,1,2,3,4,5,6,7,8] [] [0,1,5,25]) (.cond (.seq (.leaf [4]) (.leaf [4])) (.leaf [0,1,5])))) (.leaf [0,1,5])))))) (.seq (.leaf [4]) (.leaf [4])))))
noncomputable def N4j:Ctx:=⟨tlook tys,olook [],ioF,0,false,[]⟩
theorem Nst (a b:List (Int×Int×Int×Unit)):Link N4j LL (Code.seq (cq [0] (bodyOf Tryz.f7)) (cq [0,1] (bodyOf Tryz.f7))) (Ann.seq (aq [0] N1o) (aq [0,1] N1o)) ⟨mkE 26 0 [(0,.dat (.list (.pair (.int .i64) (.pair (.int .i64) (.pair (.int .i64) .unit)))) a),(1,.dat (.list (.pair (.int .i64) (.pair (.int .i64) (.pair (.int .i64) .unit)))) b)],[]⟩ (Na1 a b) (Sum.elim (fun(t:Unit)=>(Exit.normal,⟨mkE 26 0 [(0,.dat (.list (.pair (.int .i64) (.pair (.int .i64) (.pair (.int .i64) .unit)))) a),(1,.dat (.list (.pair (.int .i64) (.pair (.int .i64) (.pair (.int .i64) .unit)))) b)],[]⟩)) (fun(t:Bool)=>(Exit.ret,⟨mkE 26 0 [(4,dB t)],[]⟩))):= .of fun K h=>by
 simp only[Na1,wpW] at h
 exact .of (by kernel_rfl) h
theorem N16q (a b:List (Int×Int×Int×Unit)):Link N4j LL (cq [0,0,1,1] (bodyOf Tryz.f7)) (aq [0,0,1,1] N1o) ⟨mkE 26 0 [(0,.dat (.list (.pair (.int .i64) (.pair (.int .i64) (.pair (.int .i64) .unit)))) a),(1,.dat (.list (.pair (.int .i64) (.pair (.int .i64) (.pair (.int .i64) .unit)))) b)],[]⟩ (Na5) (fun(t:Unit)=>(Exit.normal,⟨mkE 26 0 [(0,.dat (.list (.pair (.int .i64) (.pair (.int .i64) (.pair (.int .i64) .unit)))) a),(1,.dat (.list (.pair (.int .i64) (.pair (.int .i64) (.pair (.int .i64) .unit)))) b),(5,dI 0)],[]⟩)):= .of fun K h=>by
 simp only[Na5,wpW] at h
 exact .of (by kernel_rfl) h
theorem Nvl (a b:List (Int×Int×Int×Unit)) (c:Int):Link N4j LL (cq [0,0,1,0,1,1] (bodyOf Tryz.f7)) (aq [0,0,1,0,1,1] N1o) ⟨mkE 26 0 [(0,.dat (.list (.pair (.int .i64) (.pair (.int .i64) (.pair (.int .i64) .unit)))) a),(1,.dat (.list (.pair (.int .i64) (.pair (.int .i64) (.pair (.int .i64) .unit)))) b),(5,dI c)],[]⟩ (N4y a b c) (Sum.elim (fun(t:Int)=>(Exit.normal,⟨mkE 26 0 [(0,.dat (.list (.pair (.int .i64) (.pair (.int .i64) (.pair (.int .i64) .unit)))) a),(1,.dat (.list (.pair (.int .i64) (.pair (.int .i64) (.pair (.int .i64) .unit)))) b),(5,dI t)],[]⟩)) (Sum.elim (fun(t:Bool)=>(Exit.ret,⟨mkE 26 0 [(4,dB t)],[]⟩)) (fun(t:Unit)=>((Exit.exit 0),⟨mkE 26 0 [],[]⟩)))):= .of fun K h=>by
 simp only[N4y,wpW] at h
 exact .of (by kernel_rfl) h
theorem Nsi:Link N4j LL (cq [1,1,1] (bodyOf Tryz.f7)) (aq [1,1,1] N1o) ⟨mkE 26 0 [],[]⟩ (Nbi) (fun(t:Bool)=>(Exit.ret,⟨mkE 26 0 [(4,dB t)],[]⟩)):= .of fun K h=>by
 simp only[Nbi,wpW] at h
 exact .of (by kernel_rfl) h
theorem Npj (b d:List (Int×Int×Int×Unit)) {r:AV} {H':Heap} (h:(Ans.mk _ (N2t b d) (fun(t:Bool)=>(dB t,[])) [] none).run=some (r,H')):Awp N4j LL (bodyOf Tryz.f7) N1o ⟨mkE 26 0 [(0,.dat (.list (.pair (.int .i64) (.pair (.int .i64) (.pair (.int .i64) .unit)))) b),(1,.dat (.list (.pair (.int .i64) (.pair (.int .i64) (.pair (.int .i64) .unit)))) d)],[]⟩ (Ret (tlook tys) Tryz.f7.results.toList r H'):=
 ret_of' (Link.cast (by kernel_rfl) (by kernel_rfl) (link_group (c:=(cq [0,1] (bodyOf Tryz.f7))) (a:=(aq [0,1] N1o)) [(cq [0] (bodyOf Tryz.f7))] [(aq [0] N1o)] rfl (link_seq2 (Nst b d) (fun(t:Unit)=>(link_seq2 (link_seq (N16q b d) (fun(t:Unit)=>(link_block (fin2:=(Sum.elim (fun(t:Unit)=>(Exit.normal,⟨mkE 26 0 [],[]⟩)) (fun(t:Bool)=>(Exit.ret,⟨mkE 26 0 [(4,dB t)],[]⟩)))) (id:=0) (link_loop (mk:=fun(s:Int)=>⟨mkE 26 0 [(0,.dat (.list (.pair (.int .i64) (.pair (.int .i64) (.pair (.int .i64) .unit)))) b),(1,.dat (.list (.pair (.int .i64) (.pair (.int .i64) (.pair (.int .i64) .unit)))) d),(5,dI s)],[]⟩) (fin:=(Sum.elim (fun(t:Bool)=>(Exit.ret,⟨mkE 26 0 [(4,dB t)],[]⟩)) (fun(t:Unit)=>((Exit.exit 0),⟨mkE 26 0 [],[]⟩)))) (by
 rintro(t|t) f K h
 ·exact h
 ·exact h) (fun s=>link_map (Nvl b d s) (Sum.elim (fun(t:Int)=>Sum.inl t) (Sum.elim (fun(t:Bool)=>Sum.inr (Sum.inl t)) (fun(t:Unit)=>Sum.inr (Sum.inr t)))) (by
 rintro(t|t|t)
 ·kernel_rfl
 ·kernel_rfl
 ·kernel_rfl)) 0) (Sum.elim (fun(t:Bool)=>(Sum.inr t)) (fun(t:Unit)=>(Sum.inl ()))) (by
 rintro(t|t) K h
 ·exact Eq.mp (by kernel_rfl) h
 ·exact Eq.mp (by kernel_rfl) h)))) (fun(t:Unit)=>(Nsi)) (fun(t:Bool)=>t) (by
 rintro t
 ·kernel_rfl) (by
 rintro t f K h
 ·exact h))) (fun(t:Bool)=>t) (by
 rintro t
 ·kernel_rfl) (by
 rintro t f K h
 ·exact h)))) (by unfold N2t;kernel_rfl) (by
 intro t
 exact ret_mk [dB t] (by kernel_rfl) (by kernel_rfl) (by kernel_rfl) (by kernel_rfl)) h
def Nhx:Fun:=fun avs H=>
 match avs,H with
 |[.dat (.list (.pair (.int .i64) (.pair (.int .i64) (.pair (.int .i64) .unit)))) a,.dat (.list (.pair (.int .i64) (.pair (.int .i64) (.pair (.int .i64) .unit)))) b],[]=>⟨_,N2t a b,fun(t:Bool)=>(dB t,[]),[],none⟩
 |_,_=>Ans.no
theorem N146:Sound Tryz.prog 7 Nhx:=by
 refine fn_sound' (C:=N4j) (c:=bodyOf Tryz.f7) (cok_of tys_ok (alln) (alln) (by kernel_rfl)) Tryz.func7 (by kernel_rfl) LL N1o ?_
 intro avs H r H' h
 unfold Nhx at h
 split at h
 ·refine Awp.cast ?_ ?_ ?_ (Npj _ _ h)<;>kernel_rfl
 ·simp[Ans.no,Ans.run] at h
def Nd4:Ann:=(.seq (.leaf [0,2]) (.seq (.seq (.leaf [0,2,6]) (.cond (.seq (.leaf [2,3]) (.leafF [⟨0,2,false,some 0,some (.int .i64)⟩] [2,3])) (.leaf [0,2]))) (.seq (.leaf [2,3]) (.leaf [2,3]))))
noncomputable def Nde:Ctx:=⟨tlook tys,olook [(27,N16)],ioF,0,false,[]⟩
theorem Nq2 (a:List Int):Link Nde LL (bodyOf Tryz.f48) Nd4 ⟨mkE 12 0 [(0,dL a)],[]⟩ (N6b a) (fun(t:Bool×(List Int))=>(Exit.ret,⟨mkE 12 0 [(2,.ptr 0 0),(3,dB t.1)],[some (.box [.slc 1,.nils]),some (sI t.2)]⟩)):= .of fun K h=>by
 simp only[N6b,wpW] at h
 exact .of (by kernel_rfl) h
theorem Nwr (a:List Int) {r:AV} {H':Heap} (h:(Ans.mk _ (N3p a) (fun(t:Bool×(List Int))=>(.tup [.agg [.slc 1,.nils],dB t.1],[some (.box [.slc 1,.nils]),some (sI t.2)])) [] none).run=some (r,H')):Awp Nde LL (bodyOf Tryz.f48) Nd4 ⟨mkE 12 0 [(0,dL a)],[]⟩ (Ret (tlook tys) Tryz.f48.results.toList r H'):=
 ret_of' (Nq2 a) (by unfold N3p;kernel_rfl) (by
 intro t
 exact ret_mk [.agg [.slc 1,.nils],dB t.1] (by kernel_rfl) (by kernel_rfl) (by kernel_rfl) (by kernel_rfl)) h
def Ne3:Fun:=fun avs H=>
 match avs,H with
 |[.dat (.list (.int .i64)) a],[]=>⟨_,N3p a,fun(t:Bool×(List Int))=>(.tup [.agg [.slc 1,.nils],dB t.1],[some (.box [.slc 1,.nils]),some (sI t.2)]),[],none⟩
 |_,_=>Ans.no
theorem N139:Sound Tryz.prog 48 Ne3:=by
 refine fn_sound' (C:=Nde) (c:=bodyOf Tryz.f48) (cok_of tys_ok (allc N2f alln) (allc Tryz.call27 alln) (by kernel_rfl)) Tryz.func48 (by kernel_rfl) LL Nd4 ?_
 intro avs H r H' h
 unfold Ne3 at h
 split at h
 ·refine Awp.cast ?_ ?_ ?_ (Nwr _ h)<;>kernel_rfl
 ·simp[Ans.no,Ans.run] at h
def N51:Ann:=(.seq (.leaf [1]) (.seq (.seq (.leaf [1,3]) (.block (.loop (.seq (.seq (.leaf [1,3,8]) (.cond (.leaf [1,3]) (.leaf [1]))) (.seq (.block (.seq (.leaf [1,3,17]) (.cond (.seq (.leaf [2]) (.leaf [2])) (.leaf [1,3])))) (.leaf [1,3])))))) (.seq (.leaf [2]) (.leaf [2]))))
noncomputable def N5a:Ctx:=⟨tlook tys,olook [(27,N16)],ioF,0,false,[]⟩
theorem Nz4 (a:List Int) (b:List (List Int)):Link N5a LL (cq [0] (bodyOf Tryz.f9)) (aq [0] N51) ⟨mkE 27 0 [(0,.agg [dL a,.dat (.list (.list (.int .i64))) b])],[]⟩ (Nbh) (fun(t:Unit)=>(Exit.normal,⟨mkE 27 0 [(1,.ptr 0 0)],[some (.box [dL a,.dat (.list (.list (.int .i64))) b])]⟩)):= .of fun K h=>by
 simp only[Nbh,wpW] at h
 exact .of (by kernel_rfl) h
theorem Nrb (a:List Int) (b:List (List Int)):Link N5a LL (cq [0,0,1] (bodyOf Tryz.f9)) (aq [0,0,1] N51) ⟨mkE 27 0 [(1,.ptr 0 0)],[some (.box [dL a,.dat (.list (.list (.int .i64))) b])]⟩ (N87) (fun(t:Unit)=>(Exit.normal,⟨mkE 27 0 [(1,.ptr 0 0),(3,dI 0)],[some (.box [dL a,.dat (.list (.list (.int .i64))) b])]⟩)):= .of fun K h=>by
 simp only[N87,wpW] at h
 exact .of (by kernel_rfl) h
theorem Nph (a:Int) (b:List Int) (c:List (List Int)):Link N5a LL (cq [0,0,1,0,1] (bodyOf Tryz.f9)) (aq [0,0,1,0,1] N51) ⟨mkE 27 0 [(1,.ptr 0 0),(3,dI a)],[some (.box [dL b,.dat (.list (.list (.int .i64))) c])]⟩ (N43 a c) (Sum.elim (fun(t:Int)=>(Exit.normal,⟨mkE 27 0 [(1,.ptr 0 0),(3,dI t)],[some (.box [dL b,.dat (.list (.list (.int .i64))) c])]⟩)) (Sum.elim (fun(t:Bool)=>(Exit.ret,⟨mkE 27 0 [(2,dB t)],[]⟩)) (fun(t:Unit)=>((Exit.exit 0),⟨mkE 27 0 [(1,.ptr 0 0)],[some (.box [dL b,.dat (.list (.list (.int .i64))) c])]⟩)))):= .of fun K h=>by
 simp only[N43,wpW] at h
 exact .of (by kernel_rfl) h
theorem Nsy (a:List Int) (b:List (List Int)):Link N5a LL (cq [1,1] (bodyOf Tryz.f9)) (aq [1,1] N51) ⟨mkE 27 0 [(1,.ptr 0 0)],[some (.box [dL a,.dat (.list (.list (.int .i64))) b])]⟩ (N89 a b) (fun(t:Bool)=>(Exit.ret,⟨mkE 27 0 [(2,dB t)],[]⟩)):= .of fun K h=>by
 simp only[N89,wpW] at h
 exact .of (by kernel_rfl) h
theorem Nwd (a:List Int) (b:List (List Int)) {r:AV} {H':Heap} (h:(Ans.mk _ (Nu a b) (fun(t:Bool)=>(dB t,[])) [] none).run=some (r,H')):Awp N5a LL (bodyOf Tryz.f9) N51 ⟨mkE 27 0 [(0,.agg [dL a,.dat (.list (.list (.int .i64))) b])],[]⟩ (Ret (tlook tys) Tryz.f9.results.toList r H'):=
 ret_of' (Link.cast (by kernel_rfl) (by kernel_rfl) (link_seq (Nz4 a b) (fun(t:Unit)=>(link_seq2 (link_seq (Nrb a b) (fun(t:Unit)=>(link_block (fin2:=(Sum.elim (fun(t:Unit)=>(Exit.normal,⟨mkE 27 0 [(1,.ptr 0 0)],[some (.box [dL a,.dat (.list (.list (.int .i64))) b])]⟩)) (fun(t:Bool)=>(Exit.ret,⟨mkE 27 0 [(2,dB t)],[]⟩)))) (id:=0) (link_loop (mk:=fun(s:Int)=>⟨mkE 27 0 [(1,.ptr 0 0),(3,dI s)],[some (.box [dL a,.dat (.list (.list (.int .i64))) b])]⟩) (fin:=(Sum.elim (fun(t:Bool)=>(Exit.ret,⟨mkE 27 0 [(2,dB t)],[]⟩)) (fun(t:Unit)=>((Exit.exit 0),⟨mkE 27 0 [(1,.ptr 0 0)],[some (.box [dL a,.dat (.list (.list (.int .i64))) b])]⟩)))) (by
 rintro(t|t) f K h
 ·exact h
 ·exact h) (fun s=>link_map (Nph s a b) (Sum.elim (fun(t:Int)=>Sum.inl t) (Sum.elim (fun(t:Bool)=>Sum.inr (Sum.inl t)) (fun(t:Unit)=>Sum.inr (Sum.inr t)))) (by
 rintro(t|t|t)
 ·kernel_rfl
 ·kernel_rfl
 ·kernel_rfl)) 0) (Sum.elim (fun(t:Bool)=>(Sum.inr t)) (fun(t:Unit)=>(Sum.inl ()))) (by
 rintro(t|t) K h
 ·exact Eq.mp (by kernel_rfl) h
 ·exact Eq.mp (by kernel_rfl) h)))) (fun(t:Unit)=>(Nsy a b)) (fun(t:Bool)=>t) (by
 rintro t
 ·kernel_rfl) (by
 rintro t f K h
 ·exact h))))) (by unfold Nu;kernel_rfl) (by
 intro t
 exact ret_mk [dB t] (by kernel_rfl) (by kernel_rfl) (by kernel_rfl) (by kernel_rfl)) h
def Nae:Fun:=fun avs H=>
 match avs,H with
 |[.agg [.dat (.list (.int .i64)) a,.dat (.list (.list (.int .i64))) b]],[]=>⟨_,Nu a b,fun(t:Bool)=>(dB t,[]),[],none⟩
 |_,_=>Ans.no
theorem Nly:Sound Tryz.prog 9 Nae:=by
 refine fn_sound' (C:=N5a) (c:=bodyOf Tryz.f9) (cok_of tys_ok (allc N2f alln) (allc Tryz.call27 alln) (by kernel_rfl)) Tryz.func9 (by kernel_rfl) LL N51 ?_
 intro avs H r H' h
 unfold Nae at h
 split at h
 ·refine Awp.cast ?_ ?_ ?_ (Nwd _ _ h)<;>kernel_rfl
 ·simp[Ans.no,Ans.run] at h
def N1w:Ann:=(.seq (.leaf [1,2]) (.seq (.leaf [1,2,3]) (.seq (.seq (.leafF [⟨1,3,true,some 1,some (.int .i64)⟩] [1,2,3,4]) (.block (.loop (.seq (.seq (.leaf [1,2,3,4,14]) (.cond (.leaf [1,2,3,4]) (.leaf [2,3]))) (.seq (.block (.draw [8,2,100010] [0,1,2,3,4,5,6,7,8,9,10,11,12] [] [1,2,3,4])) (.leaf [1,2,3,4])))))) (.seq (.leaf [2]) (.leaf [2])))))
noncomputable def N4n:Ctx:=⟨tlook tys,olook [],ioF,0,true,[]⟩
theorem Ntg (a:List Int) (b:List (List Int)):Link N4n LL (Code.seq (cq [0] (bodyOf Tryz.f72)) (cq [0,1] (bodyOf Tryz.f72))) (Ann.seq (aq [0] N1w) (aq [0,1] N1w)) ⟨mkE 30 0 [(0,.agg [dL a,.dat (.list (.list (.int .i64))) b])],[]⟩ (N9x a) (fun(t:(List Int))=>(Exit.normal,⟨mkE 30 0 [(1,.ptr 0 0),(2,.ptr 1 0),(3,.ptr 2 0)],[some (.box [dL a,.dat (.list (.list (.int .i64))) b]),some (.box [.nils,.nils]),some (.box [.slc 3,.nils]),some (sI t)]⟩)):= .of fun K h=>by
 simp only[N9x,wpW] at h
 exact .of (by kernel_rfl) h
theorem Ntw (a:List Int) (b:List (List Int)) (c:List Int):Link N4n LL (cq [0,0,1,1] (bodyOf Tryz.f72)) (aq [0,0,1,1] N1w) ⟨mkE 30 0 [(1,.ptr 0 0),(2,.ptr 1 0),(3,.ptr 2 0)],[some (.box [dL a,.dat (.list (.list (.int .i64))) b]),some (.box [.nils,.nils]),some (.box [.slc 3,.nils]),some (sI c)]⟩ (Na7) (fun(t:Unit)=>(Exit.normal,⟨mkE 30 0 [(1,.ptr 0 0),(2,.ptr 1 0),(3,.ptr 2 0),(4,dI 0)],[some (.box [dL a,.dat (.list (.list (.int .i64))) b]),some (.box [.nils,.nils]),some (.box [.slc 3,.slc 4]),some (sI c),some (.nest (.int .i64) ([]:List (List Int)) 0 [])]⟩)):= .of fun K h=>by
 simp only[Na7,wpW] at h
 exact .of (by kernel_rfl) h
theorem Ntj (a:Int) (b:List Int) (c:List (List Int)) (d:List Int) (g:List (List Int)):Link N4n LL (cq [0,0,1,0,1,1] (bodyOf Tryz.f72)) (aq [0,0,1,0,1,1] N1w) ⟨mkE 30 0 [(1,.ptr 0 0),(2,.ptr 1 0),(3,.ptr 2 0),(4,dI a)],[some (.box [dL b,.dat (.list (.list (.int .i64))) c]),some (.box [.nils,.nils]),some (.box [.slc 3,.slc 4]),some (sI d),some (.nest (.int .i64) g 0 [])]⟩ (N53 a c g) (Sum.elim (fun(t:Int×(List (List Int)))=>(Exit.normal,⟨mkE 30 0 [(1,.ptr 0 0),(2,.ptr 1 0),(3,.ptr 2 0),(4,dI t.1)],[some (.box [dL b,.dat (.list (.list (.int .i64))) c]),some (.box [.nils,.nils]),some (.box [.slc 3,.slc 4]),some (sI d),some (.nest (.int .i64) t.2 0 [])]⟩)) (fun(t:(List (List Int)))=>((Exit.exit 0),⟨mkE 30 0 [(2,.ptr 0 0),(3,.ptr 1 0)],[some (.box [.nils,.nils]),some (.box [.slc 2,.slc 3]),some (sI d),some (.nest (.int .i64) t 0 [])]⟩))):= .of fun K h=>by
 simp only[N53,wpW] at h
 exact .of (by kernel_rfl) h
theorem Nyd (a:List Int) (b:List (List Int)):Link N4n LL (cq [1,1,1] (bodyOf Tryz.f72)) (aq [1,1,1] N1w) ⟨mkE 30 0 [(2,.ptr 0 0),(3,.ptr 1 0)],[some (.box [.nils,.nils]),some (.box [.slc 2,.slc 3]),some (sI a),some (.nest (.int .i64) b 0 [])]⟩ (Nc5 a b) (fun(t:(List Int)×(List (List Int)))=>(Exit.ret,⟨mkE 30 0 [(2,.ptr 0 0)],[some (.box [.slc 1,.slc 2]),some (sI t.1),some (.nest (.int .i64) t.2 0 [])]⟩)):= .of fun K h=>by
 simp only[Nc5,wpW] at h
 exact .of (by kernel_rfl) h
theorem N16s (b:List Int) (d:List (List Int)) {r:AV} {H':Heap} (h:(Ans.mk _ (N3u b d) (fun(t:(List Int)×(List (List Int)))=>(.agg [.slc 1,.slc 2],[some (.box [.slc 1,.slc 2]),some (sI t.1),some (.nest (.int .i64) t.2 0 [])])) [] none).run=some (r,H')):Awp N4n LL (bodyOf Tryz.f72) N1w ⟨mkE 30 0 [(0,.agg [dL b,.dat (.list (.list (.int .i64))) d])],[]⟩ (Ret (tlook tys) Tryz.f72.results.toList r H'):=
 ret_of' (Link.cast (by kernel_rfl) (by kernel_rfl) (link_group (c:=(cq [0,1] (bodyOf Tryz.f72))) (a:=(aq [0,1] N1w)) [(cq [0] (bodyOf Tryz.f72))] [(aq [0] N1w)] rfl (link_seq (Ntg b d) (fun(t:(List Int))=>(link_seq (link_seq (Ntw b d t) (fun(t49:Unit)=>(link_block (fin2:=(fun(t49:(List (List Int)))=>(Exit.normal,⟨mkE 30 0 [(2,.ptr 0 0),(3,.ptr 1 0)],[some (.box [.nils,.nils]),some (.box [.slc 2,.slc 3]),some (sI t),some (.nest (.int .i64) t49 0 [])]⟩))) (id:=0) (link_loop (mk:=fun(s:Int×(List (List Int)))=>⟨mkE 30 0 [(1,.ptr 0 0),(2,.ptr 1 0),(3,.ptr 2 0),(4,dI s.1)],[some (.box [dL b,.dat (.list (.list (.int .i64))) d]),some (.box [.nils,.nils]),some (.box [.slc 3,.slc 4]),some (sI t),some (.nest (.int .i64) s.2 0 [])]⟩) (fin:=(fun(t49:(List (List Int)))=>((Exit.exit 0),⟨mkE 30 0 [(2,.ptr 0 0),(3,.ptr 1 0)],[some (.box [.nils,.nils]),some (.box [.slc 2,.slc 3]),some (sI t),some (.nest (.int .i64) t49 0 [])]⟩))) (by
 rintro t49 f K h
 ·exact h) (fun s=>link_map (Ntj s.1 b d t s.2) (Sum.elim (fun(t49:Int×(List (List Int)))=>Sum.inl (t49.1,t49.2)) (fun(t49:(List (List Int)))=>Sum.inr t49)) (by
 rintro(t49|t49)
 ·kernel_rfl
 ·kernel_rfl)) (0,([]:List (List Int)))) (fun(t49:(List (List Int)))=>t49) (by
 rintro t49 K h
 ·exact Eq.mp (by kernel_rfl) h)))) (fun(t49:(List (List Int)))=>(Nyd t t49))))))) (by unfold N3u;kernel_rfl) (by
 intro t
 exact ret_mk [.agg [.slc 1,.slc 2]] (by kernel_rfl) (by kernel_rfl) (by kernel_rfl) (by kernel_rfl)) h
def Nij:Fun:=fun avs H=>
 match avs,H with
 |[.agg [.dat (.list (.int .i64)) a,.dat (.list (.list (.int .i64))) b]],[]=>⟨_,N3u a b,fun(t:(List Int)×(List (List Int)))=>(.agg [.slc 1,.slc 2],[some (.box [.slc 1,.slc 2]),some (sI t.1),some (.nest (.int .i64) t.2 0 [])]),[],none⟩
 |_,_=>Ans.no
theorem Nyv:Sound Tryz.prog 72 Nij:=by
 refine fn_sound' (C:=N4n) (c:=bodyOf Tryz.f72) (cok_of tys_ok (alln) (alln) (by kernel_rfl)) Tryz.func72 (by kernel_rfl) LL N1w ?_
 intro avs H r H' h
 unfold Nij at h
 split at h
 ·refine Awp.cast ?_ ?_ ?_ (N16s _ _ h)<;>kernel_rfl
 ·simp[Ans.no,Ans.run] at h
def Ns:Ann:=(.seq (.leaf [0]) (.seq (.leaf [0,3]) (.seq (.leaf [0,3,4]) (.seq (.seq (.leaf [0,3,4,5]) (.block (.loop (.seq (.seq (.leaf [0,3,4,5,16]) (.cond (.leaf [0,3,4,5]) (.leaf [3]))) (.seq (.block (.seq (.leaf [0,3,4,5,23]) (.cond (.leaf [0,3,4,5]) (.leaf [0,3,4,5])))) (.leaf [0,3,4,5])))))) (.seq (.leaf [2]) (.leaf [2]))))))
noncomputable def N4z:Ctx:=⟨tlook tys,olook [(27,N16)],ioF,0,false,[]⟩
theorem Nr6 (a:List Int):Link N4z LL (Code.seq (cq [0] (bodyOf Tryz.f113)) (Code.seq (cq [0,1] (bodyOf Tryz.f113)) (cq [0,1,1] (bodyOf Tryz.f113)))) (Ann.seq (aq [0] Ns) (Ann.seq (aq [0,1] Ns) (aq [0,1,1] Ns))) ⟨mkE 38 0 [(0,dL a)],[]⟩ (Nco a) (fun(t:Int)=>(Exit.normal,⟨mkE 38 0 [(0,dL a),(3,.slc 0),(4,dI t)],[some (sI ([]:List Int))]⟩)):= .of fun K h=>by
 simp only[Nco,wpW] at h
 exact .of (by kernel_rfl) h
theorem N10h (a:List Int) (b:Int):Link N4z LL (cq [0,0,1,1,1] (bodyOf Tryz.f113)) (aq [0,0,1,1,1] Ns) ⟨mkE 38 0 [(0,dL a),(3,.slc 0),(4,dI b)],[some (sI ([]:List Int))]⟩ (Nbb b) (fun(t:Int)=>(Exit.normal,⟨mkE 38 0 [(0,dL a),(3,.slc 0),(4,dI b),(5,dI t)],[some (sI ([]:List Int))]⟩)):= .of fun K h=>by
 simp only[Nbb,wpW] at h
 exact .of (by kernel_rfl) h
theorem Nwv (a:List Int) (b c:Int) (d:List Int):Link N4z LL (cq [0,0,1,0,1,1,1] (bodyOf Tryz.f113)) (aq [0,0,1,0,1,1,1] Ns) ⟨mkE 38 0 [(0,dL a),(3,.slc 0),(4,dI b),(5,dI c)],[some (sI d)]⟩ (N2o a b c d) (Sum.elim (fun(t:Int×(List Int))=>(Exit.normal,⟨mkE 38 0 [(0,dL a),(3,.slc 0),(4,dI b),(5,dI t.1)],[some (sI t.2)]⟩)) (fun(t:(List Int))=>((Exit.exit 0),⟨mkE 38 0 [(3,.slc 0)],[some (sI t)]⟩))):= .of fun K h=>by
 simp only[N2o,wpW] at h
 exact .of (by kernel_rfl) h
theorem N14u (a:List Int):Link N4z LL (cq [1,1,1,1] (bodyOf Tryz.f113)) (aq [1,1,1,1] Ns) ⟨mkE 38 0 [(3,.slc 0)],[some (sI a)]⟩ (Ncr a) (fun(t:(List Int))=>(Exit.ret,⟨mkE 38 0 [(2,.slc 0)],[some (sI t)]⟩)):= .of fun K h=>by
 simp only[Ncr,wpW] at h
 exact .of (by kernel_rfl) h
theorem N11s (b:List Int) {r:AV} {H':Heap} (h:(Ans.mk _ (N1z b) (fun(t:(List Int))=>(.slc 0,[some (sI t)])) [] none).run=some (r,H')):Awp N4z LL (bodyOf Tryz.f113) Ns ⟨mkE 38 0 [(0,dL b)],[]⟩ (Ret (tlook tys) Tryz.f113.results.toList r H'):=
 ret_of' (Link.cast (by kernel_rfl) (by kernel_rfl) (link_group (c:=(cq [0,1,1] (bodyOf Tryz.f113))) (a:=(aq [0,1,1] Ns)) [(cq [0] (bodyOf Tryz.f113)),(cq [0,1] (bodyOf Tryz.f113))] [(aq [0] Ns),(aq [0,1] Ns)] rfl (link_seq (Nr6 b) (fun(t:Int)=>(link_seq (link_seq (N10h b t) (fun(t50:Int)=>(link_block (fin2:=(fun(t28:(List Int))=>(Exit.normal,⟨mkE 38 0 [(3,.slc 0)],[some (sI t28)]⟩))) (id:=0) (link_loop (mk:=fun(s:Int×(List Int))=>⟨mkE 38 0 [(0,dL b),(3,.slc 0),(4,dI t),(5,dI s.1)],[some (sI s.2)]⟩) (fin:=(fun(t28:(List Int))=>((Exit.exit 0),⟨mkE 38 0 [(3,.slc 0)],[some (sI t28)]⟩))) (by
 rintro t28 f K h
 ·exact h) (fun s=>link_map (Nwv b t s.1 s.2) (Sum.elim (fun(t28:Int×(List Int))=>Sum.inl (t28.1,t28.2)) (fun(t28:(List Int))=>Sum.inr t28)) (by
 rintro(t28|t28)
 ·kernel_rfl
 ·kernel_rfl)) (t50,([]:List Int))) (fun(t28:(List Int))=>t28) (by
 rintro t28 K h
 ·exact Eq.mp (by kernel_rfl) h)))) (fun(t50:(List Int))=>(N14u t50))))))) (by unfold N1z;kernel_rfl) (by
 intro t
 exact ret_mk [.slc 0] (by kernel_rfl) (by kernel_rfl) (by kernel_rfl) (by kernel_rfl)) h
def Nfq:Fun:=fun avs H=>
 match avs,H with
 |[.dat (.list (.int .i64)) a],[]=>⟨_,N1z a,fun(t:(List Int))=>(.slc 0,[some (sI t)]),[],none⟩
 |_,_=>Ans.no
theorem Nro:Sound Tryz.prog 113 Nfq:=by
 refine fn_sound' (C:=N4z) (c:=bodyOf Tryz.f113) (cok_of tys_ok (allc N2f alln) (allc Tryz.call27 alln) (by kernel_rfl)) Tryz.func113 (by kernel_rfl) LL Ns ?_
 intro avs H r H' h
 unfold Nfq at h
 split at h
 ·refine Awp.cast ?_ ?_ ?_ (N11s _ h)<;>kernel_rfl
 ·simp[Ans.no,Ans.run] at h
def N52:Ann:=(.seq (.leaf [0]) (.seq (.seq (.leaf [0,3]) (.block (.loop (.seq (.seq (.leaf [0,3,11]) (.cond (.leaf [0,3]) (.leaf []))) (.seq (.block (.seq (.leaf [0,3,18]) (.cond (.seq (.leaf [2]) (.leaf [2])) (.leaf [0,3])))) (.leaf [0,3])))))) (.seq (.leaf [2]) (.leaf [2]))))
noncomputable def N5s:Ctx:=⟨tlook tys,olook [(27,N16)],ioF,0,false,[]⟩
theorem N17a (a:List Int):Link N5s LL (cq [0] (bodyOf Tryz.f186)) (aq [0] N52) ⟨mkE 21 0 [(0,dL a)],[]⟩ (Nce) (fun(t:Unit)=>(Exit.normal,⟨mkE 21 0 [(0,dL a)],[]⟩)):= .of fun K h=>by
 simp only[Nce,wpW] at h
 exact .of (by kernel_rfl) h
theorem Nx8 (a:List Int):Link N5s LL (cq [0,0,1] (bodyOf Tryz.f186)) (aq [0,0,1] N52) ⟨mkE 21 0 [(0,dL a)],[]⟩ (N8v) (fun(t:Unit)=>(Exit.normal,⟨mkE 21 0 [(0,dL a),(3,dI 0)],[]⟩)):= .of fun K h=>by
 simp only[N8v,wpW] at h
 exact .of (by kernel_rfl) h
theorem N185 (a:List Int) (b:Int):Link N5s LL (cq [0,0,1,0,1] (bodyOf Tryz.f186)) (aq [0,0,1,0,1] N52) ⟨mkE 21 0 [(0,dL a),(3,dI b)],[]⟩ (N30 a b) (Sum.elim (fun(t:Int)=>(Exit.normal,⟨mkE 21 0 [(0,dL a),(3,dI t)],[]⟩)) (Sum.elim (fun(t:Int)=>(Exit.ret,⟨mkE 21 0 [(2,dI t)],[]⟩)) (fun(t:Unit)=>((Exit.exit 0),⟨mkE 21 0 [],[]⟩)))):= .of fun K h=>by
 simp only[N30,wpW] at h
 exact .of (by kernel_rfl) h
theorem N114:Link N5s LL (cq [1,1] (bodyOf Tryz.f186)) (aq [1,1] N52) ⟨mkE 21 0 [],[]⟩ (Nbc) (fun(t:Int)=>(Exit.ret,⟨mkE 21 0 [(2,dI t)],[]⟩)):= .of fun K h=>by
 simp only[Nbc,wpW] at h
 exact .of (by kernel_rfl) h
theorem Ntm (a:List Int) {r:AV} {H':Heap} (h:(Ans.mk _ (N5m a) (fun(t:Int)=>(dI t,[])) [] none).run=some (r,H')):Awp N5s LL (bodyOf Tryz.f186) N52 ⟨mkE 21 0 [(0,dL a)],[]⟩ (Ret (tlook tys) Tryz.f186.results.toList r H'):=
 ret_of' (Link.cast (by kernel_rfl) (by kernel_rfl) (link_seq (N17a a) (fun(t:Unit)=>(link_seq2 (link_seq (Nx8 a) (fun(t:Unit)=>(link_block (fin2:=(Sum.elim (fun(t:Unit)=>(Exit.normal,⟨mkE 21 0 [],[]⟩)) (fun(t:Int)=>(Exit.ret,⟨mkE 21 0 [(2,dI t)],[]⟩)))) (id:=0) (link_loop (mk:=fun(s:Int)=>⟨mkE 21 0 [(0,dL a),(3,dI s)],[]⟩) (fin:=(Sum.elim (fun(t:Int)=>(Exit.ret,⟨mkE 21 0 [(2,dI t)],[]⟩)) (fun(t:Unit)=>((Exit.exit 0),⟨mkE 21 0 [],[]⟩)))) (by
 rintro(t|t) f K h
 ·exact h
 ·exact h) (fun s=>link_map (N185 a s) (Sum.elim (fun(t:Int)=>Sum.inl t) (Sum.elim (fun(t:Int)=>Sum.inr (Sum.inl t)) (fun(t:Unit)=>Sum.inr (Sum.inr t)))) (by
 rintro(t|t|t)
 ·kernel_rfl
 ·kernel_rfl
 ·kernel_rfl)) 0) (Sum.elim (fun(t:Int)=>(Sum.inr t)) (fun(t:Unit)=>(Sum.inl ()))) (by
 rintro(t|t) K h
 ·exact Eq.mp (by kernel_rfl) h
 ·exact Eq.mp (by kernel_rfl) h)))) (fun(t:Unit)=>(N114)) (fun(t:Int)=>t) (by
 rintro t
 ·kernel_rfl) (by
 rintro t f K h
 ·exact h))))) (by unfold N5m;kernel_rfl) (by
 intro t
 exact ret_mk [dI t] (by kernel_rfl) (by kernel_rfl) (by kernel_rfl) (by kernel_rfl)) h
def Ngp:Fun:=fun avs H=>
 match avs,H with
 |[.dat (.list (.int .i64)) a],[]=>⟨_,N5m a,fun(t:Int)=>(dI t,[]),[],none⟩
 |_,_=>Ans.no
theorem N130:Sound Tryz.prog 186 Ngp:=by
 refine fn_sound' (C:=N5s) (c:=bodyOf Tryz.f186) (cok_of tys_ok (allc N2f alln) (allc Tryz.call27 alln) (by kernel_rfl)) Tryz.func186 (by kernel_rfl) LL N52 ?_
 intro avs H r H' h
 unfold Ngp at h
 split at h
 ·refine Awp.cast ?_ ?_ ?_ (Ntm _ h)<;>kernel_rfl
 ·simp[Ans.no,Ans.run] at h
def Nn:Ann:=(.seq (.leaf [0,1]) (.seq (.leaf [0,1,5]) (.seq (.seq (.leaf [0,1,5,6]) (.block (.loop (.seq (.seq (.leaf [0,1,5,6,11]) (.cond (.leaf [0,1,5,6]) (.leaf [0,1,5]))) (.seq (.block (.seq (.leaf [0,1,5,6,20]) (.cond (.leaf [0,1,5,6]) (.leaf [0,1,5,6])))) (.leaf [0,1,5,6])))))) (.seq (.leaf [0,1,5]) (.seq (.seq (.leaf [0,1,5,7]) (.block (.loop (.seq (.seq (.leaf [0,1,5,7,35]) (.cond (.leaf [0,1,5,7]) (.leaf [5]))) (.seq (.block (.seq (.leaf [0,1,5,7,44]) (.cond (.leaf [0,1,5,7]) (.leaf [0,1,5,7])))) (.leaf [0,1,5,7])))))) (.seq (.leaf [4]) (.leaf [4])))))))
def N2a (n:Nat):Fun:=fun avs H=>
 match avs,H with
 |[.dat (.list (.int .i64)) a,.dat (.int .i64) b],[]=>⟨_,Nd n a b,fun(t:(List Int))=>(.slc 0,[some (sI t)]),[],none⟩
 |_,_=>Ans.no
noncomputable def N21 (n:Nat):Ctx:=⟨tlook tys,olook [(185,N2a n)],ioF,0,false,[]⟩
theorem N11q (n:Nat) (a:List Int) (b:Int):Link (N21 n) LL (Code.seq (cq [0] (bodyOf Tryz.f185)) (cq [0,1] (bodyOf Tryz.f185))) (Ann.seq (aq [0] Nn) (aq [0,1] Nn)) ⟨mkE 51 0 [(0,dL a),(1,dI b)],[]⟩ (Nbl (Nd n)) (fun(t:Unit)=>(Exit.normal,⟨mkE 51 0 [(0,dL a),(1,dI b),(5,.slc 0)],[some (sI ([]:List Int))]⟩)):= .of fun K h=>by
 simp only[Nbl,wpW] at h
 exact .of (by kernel_rfl) h
theorem N104 (n:Nat) (a:List Int) (b:Int):Link (N21 n) LL (cq [0,0,1,1] (bodyOf Tryz.f185)) (aq [0,0,1,1] Nn) ⟨mkE 51 0 [(0,dL a),(1,dI b),(5,.slc 0)],[some (sI ([]:List Int))]⟩ (Nbf (Nd n)) (fun(t:Unit)=>(Exit.normal,⟨mkE 51 0 [(0,dL a),(1,dI b),(5,.slc 0),(6,dI 1)],[some (sI ([]:List Int))]⟩)):= .of fun K h=>by
 simp only[Nbf,wpW] at h
 exact .of (by kernel_rfl) h
theorem N17f (n:Nat) (a:List Int) (b c:Int) (d:List Int):Link (N21 n) LL (cq [0,0,1,0,1,1] (bodyOf Tryz.f185)) (aq [0,0,1,0,1,1] Nn) ⟨mkE 51 0 [(0,dL a),(1,dI b),(5,.slc 0),(6,dI c)],[some (sI d)]⟩ (N5e (Nd n) a b c d) (Sum.elim (fun(t:Int×(List Int))=>(Exit.normal,⟨mkE 51 0 [(0,dL a),(1,dI b),(5,.slc 0),(6,dI t.1)],[some (sI t.2)]⟩)) (fun(t:(List Int))=>((Exit.exit 0),⟨mkE 51 0 [(0,dL a),(1,dI b),(5,.slc 0)],[some (sI t)]⟩))):= .of fun K h=>by
 simp only[N5e,wpW] at h
 exact .of (by kernel_rfl) h
theorem N12b (n:Nat) (a:List Int) (b:Int) (c:List Int):Link (N21 n) LL (cq [0,1,1,1] (bodyOf Tryz.f185)) (aq [0,1,1,1] Nn) ⟨mkE 51 0 [(0,dL a),(1,dI b),(5,.slc 0)],[some (sI c)]⟩ (N88 (Nd n) b c) (fun(t:(List Int))=>(Exit.normal,⟨mkE 51 0 [(0,dL a),(1,dI b),(5,.slc 0)],[some (sI t)]⟩)):= .of fun K h=>by
 simp only[N88,wpW] at h
 exact .of (by kernel_rfl) h
theorem N15c (n:Nat) (a:List Int) (b:Int) (c:List Int):Link (N21 n) LL (cq [0,0,1,1,1,1] (bodyOf Tryz.f185)) (aq [0,0,1,1,1,1] Nn) ⟨mkE 51 0 [(0,dL a),(1,dI b),(5,.slc 0)],[some (sI c)]⟩ (Na8 (Nd n) b) (fun(t:Int)=>(Exit.normal,⟨mkE 51 0 [(0,dL a),(1,dI b),(5,.slc 0),(7,dI t)],[some (sI c)]⟩)):= .of fun K h=>by
 simp only[Na8,wpW] at h
 exact .of (by kernel_rfl) h
theorem N16p (n:Nat) (a:List Int) (b c:Int) (d:List Int):Link (N21 n) LL (cq [0,0,1,0,1,1,1,1] (bodyOf Tryz.f185)) (aq [0,0,1,0,1,1,1,1] Nn) ⟨mkE 51 0 [(0,dL a),(1,dI b),(5,.slc 0),(7,dI c)],[some (sI d)]⟩ (N65 (Nd n) a b c d) (Sum.elim (fun(t:Int×(List Int))=>(Exit.normal,⟨mkE 51 0 [(0,dL a),(1,dI b),(5,.slc 0),(7,dI t.1)],[some (sI t.2)]⟩)) (fun(t:(List Int))=>((Exit.exit 2),⟨mkE 51 0 [(5,.slc 0)],[some (sI t)]⟩))):= .of fun K h=>by
 simp only[N65,wpW] at h
 exact .of (by kernel_rfl) h
theorem N17j (n:Nat) (a:List Int):Link (N21 n) LL (cq [1,1,1,1,1] (bodyOf Tryz.f185)) (aq [1,1,1,1,1] Nn) ⟨mkE 51 0 [(5,.slc 0)],[some (sI a)]⟩ (N9c (Nd n) a) (fun(t:(List Int))=>(Exit.ret,⟨mkE 51 0 [(4,.slc 0)],[some (sI t)]⟩)):= .of fun K h=>by
 simp only[N9c,wpW] at h
 exact .of (by kernel_rfl) h
theorem N18c (n:Nat) (b:List Int) (d:Int) {r:AV} {H':Heap} (h:(Ans.mk _ (Nd (n+1) b d) (fun(t:(List Int))=>(.slc 0,[some (sI t)])) [] none).run=some (r,H')):Awp (N21 n) LL (bodyOf Tryz.f185) Nn ⟨mkE 51 0 [(0,dL b),(1,dI d)],[]⟩ (Ret (tlook tys) Tryz.f185.results.toList r H'):=
 ret_of' (Link.cast (by kernel_rfl) (by kernel_rfl) (link_group (c:=(cq [0,1] (bodyOf Tryz.f185))) (a:=(aq [0,1] Nn)) [(cq [0] (bodyOf Tryz.f185))] [(aq [0] Nn)] rfl (link_seq (N11q n b d) (fun(t:Unit)=>(link_seq (link_seq (N104 n b d) (fun(t:Unit)=>(link_block (fin2:=(fun(t:(List Int))=>(Exit.normal,⟨mkE 51 0 [(0,dL b),(1,dI d),(5,.slc 0)],[some (sI t)]⟩))) (id:=0) (link_loop (mk:=fun(s:Int×(List Int))=>⟨mkE 51 0 [(0,dL b),(1,dI d),(5,.slc 0),(6,dI s.1)],[some (sI s.2)]⟩) (fin:=(fun(t:(List Int))=>((Exit.exit 0),⟨mkE 51 0 [(0,dL b),(1,dI d),(5,.slc 0)],[some (sI t)]⟩))) (by
 rintro t f K h
 ·exact h) (fun s=>link_map (N17f n b d s.1 s.2) (Sum.elim (fun(t:Int×(List Int))=>Sum.inl (t.1,t.2)) (fun(t:(List Int))=>Sum.inr t)) (by
 rintro(t|t)
 ·kernel_rfl
 ·kernel_rfl)) (1,([]:List Int))) (fun(t:(List Int))=>t) (by
 rintro t K h
 ·exact Eq.mp (by kernel_rfl) h)))) (fun(t:(List Int))=>(link_seq (N12b n b d t) (fun(t57:(List Int))=>(link_seq (link_seq (N15c n b d t57) (fun(t51:Int)=>(link_block (fin2:=(fun(t29:(List Int))=>(Exit.normal,⟨mkE 51 0 [(5,.slc 0)],[some (sI t29)]⟩))) (id:=2) (link_loop (mk:=fun(s:Int×(List Int))=>⟨mkE 51 0 [(0,dL b),(1,dI d),(5,.slc 0),(7,dI s.1)],[some (sI s.2)]⟩) (fin:=(fun(t29:(List Int))=>((Exit.exit 2),⟨mkE 51 0 [(5,.slc 0)],[some (sI t29)]⟩))) (by
 rintro t29 f K h
 ·exact h) (fun s=>link_map (N16p n b d s.1 s.2) (Sum.elim (fun(t29:Int×(List Int))=>Sum.inl (t29.1,t29.2)) (fun(t29:(List Int))=>Sum.inr t29)) (by
 rintro(t29|t29)
 ·kernel_rfl
 ·kernel_rfl)) (t51,t57)) (fun(t29:(List Int))=>t29) (by
 rintro t29 K h
 ·exact Eq.mp (by kernel_rfl) h)))) (fun(t51:(List Int))=>(N17j n t51))))))))))) (by(show _=_);kernel_rfl) (by
 intro t
 exact ret_mk [.slc 0] (by kernel_rfl) (by kernel_rfl) (by kernel_rfl) (by kernel_rfl)) h
theorem N13x (n:Nat) (h185:Sound Tryz.prog 185 (N2a n)):Sound Tryz.prog 185 (N2a (n+1)):=by
 refine fn_sound' (C:=N21 n) (c:=bodyOf Tryz.f185) (cok_of tys_ok (allc h185 alln) (allc Tryz.call185 alln) (by kernel_rfl)) Tryz.func185 (by kernel_rfl) LL Nn ?_
 intro avs H r H' h
 unfold N2a at h
 split at h
 ·refine Awp.cast ?_ ?_ ?_ (N18c n _ _ h)<;>kernel_rfl
 ·simp[Ans.no,Ans.run] at h
theorem Nwx:Sound Tryz.prog 185 (N2a 0):=by
 intro avs H r H' h
 unfold N2a at h
 split at h
 ·simp[Nd,N3c,Ans.run] at h
 ·simp[Ans.no,Ans.run] at h
theorem Nlr: ∀n,Sound Tryz.prog 185 (N2a n)
 |0=>Nwx
 |n+1=>by
  have h185:=Nlr n
  exact N13x n h185
def N7t:Fun:=fun avs H=>
 match avs,H with
 |[.dat (.list (.int .i64)) a,.dat (.int .i64) b],[]=>⟨_,N7d a b,fun(t:(List Int))=>(.slc 0,[some (sI t)]),[],none⟩
 |_,_=>Ans.no
theorem N14t:Sound Tryz.prog 185 N7t:=by
 have e:N7t=N2a RR:=by
  funext avs H
  unfold N7t N2a
  split<;>first|rfl|(simp only[N7d])
 rw[e]
 exact(Nlr RR)
def Nex:Ann:=(.seq (.leaf [0]) (.seq (.seq (.leaf [0,5]) (.cond (.seq (.leaf [2]) (.leaf [2])) (.leaf [0]))) (.seq (.leaf [2]) (.leaf [2]))))
noncomputable def Nis:Ctx:=⟨tlook tys,olook [(27,N16),(186,Ngp),(185,N7t)],ioF,0,false,[]⟩
theorem Nyx (a:List Int):Link Nis LL (bodyOf Tryz.f149) Nex ⟨mkE 11 0 [(0,dL a)],[]⟩ (Nbx a) (fun(t:(List Int))=>(Exit.ret,⟨mkE 11 0 [(2,.slc 0)],[some (sI t)]⟩)):= .of fun K h=>by
 simp only[Nbx,wpW] at h
 exact .of (by kernel_rfl) h
theorem Nul (a:List Int) {r:AV} {H':Heap} (h:(Ans.mk _ (N5z a) (fun(t:(List Int))=>(.slc 0,[some (sI t)])) [] none).run=some (r,H')):Awp Nis LL (bodyOf Tryz.f149) Nex ⟨mkE 11 0 [(0,dL a)],[]⟩ (Ret (tlook tys) Tryz.f149.results.toList r H'):=
 ret_of' (Nyx a) (by unfold N5z;kernel_rfl) (by
 intro t
 exact ret_mk [.slc 0] (by kernel_rfl) (by kernel_rfl) (by kernel_rfl) (by kernel_rfl)) h
def Ncz:Fun:=fun avs H=>
 match avs,H with
 |[.dat (.list (.int .i64)) a],[]=>⟨_,N5z a,fun(t:(List Int))=>(.slc 0,[some (sI t)]),[],none⟩
 |_,_=>Ans.no
theorem N13c:Sound Tryz.prog 149 Ncz:=by
 refine fn_sound' (C:=Nis) (c:=bodyOf Tryz.f149) (cok_of tys_ok (allc N2f (allc N130 (allc N14t alln))) (allc Tryz.call27 (allc Tryz.call186 (allc Tryz.call185 alln))) (by kernel_rfl)) Tryz.func149 (by kernel_rfl) LL Nex ?_
 intro avs H r H' h
 unfold Ncz at h
 split at h
 ·refine Awp.cast ?_ ?_ ?_ (Nul _ h)<;>kernel_rfl
 ·simp[Ans.no,Ans.run] at h
def Nhw:Ann:=(.seq (.leaf [0]) (.seq (.leaf [3]) (.seq (.leaf [2]) (.leaf [2]))))
noncomputable def Ng6:Ctx:=⟨tlook tys,olook [(149,Ncz),(65,Nc6)],ioF,0,false,[]⟩
theorem N14b (a:List Int):Link Ng6 LL (bodyOf Tryz.f114) Nhw ⟨mkE 13 0 [(0,dL a)],[]⟩ (N9n a) (fun(t:(List Int))=>(Exit.ret,⟨mkE 13 0 [(2,.slc 0)],[some (sI t)]⟩)):= .of fun K h=>by
 simp only[N9n,wpW] at h
 exact .of (by kernel_rfl) h
theorem Nub (a:List Int) {r:AV} {H':Heap} (h:(Ans.mk _ (N2l a) (fun(t:(List Int))=>(.slc 0,[some (sI t)])) [] none).run=some (r,H')):Awp Ng6 LL (bodyOf Tryz.f114) Nhw ⟨mkE 13 0 [(0,dL a)],[]⟩ (Ret (tlook tys) Tryz.f114.results.toList r H'):=
 ret_of' (N14b a) (by unfold N2l;kernel_rfl) (by
 intro t
 exact ret_mk [.slc 0] (by kernel_rfl) (by kernel_rfl) (by kernel_rfl) (by kernel_rfl)) h
def Nf5:Fun:=fun avs H=>
 match avs,H with
 |[.dat (.list (.int .i64)) a],[]=>⟨_,N2l a,fun(t:(List Int))=>(.slc 0,[some (sI t)]),[],none⟩
 |_,_=>Ans.no
theorem N116:Sound Tryz.prog 114 Nf5:=by
 refine fn_sound' (C:=Ng6) (c:=bodyOf Tryz.f114) (cok_of tys_ok (allc N13c (allc Nol alln)) (allc Tryz.call149 (allc Tryz.call65 alln)) (by kernel_rfl)) Tryz.func114 (by kernel_rfl) LL Nhw ?_
 intro avs H r H' h
 unfold Nf5 at h
 split at h
 ·refine Awp.cast ?_ ?_ ?_ (Nub _ h)<;>kernel_rfl
 ·simp[Ans.no,Ans.run] at h
end Go.Rv
