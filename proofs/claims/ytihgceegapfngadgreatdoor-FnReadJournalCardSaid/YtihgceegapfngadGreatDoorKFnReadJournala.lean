/-
  The checked code answers as the plain functions do; written by program. Conditions: none.
-/
import Derived.Test.YtihgceegapfngadGreatDoorGFnReadJournal
import Derived.Test.YtihgceegapfngadGreatDoorFB
import Derived.Test.YtihgceegapfngadGreatDoorFB
import Derived.Test.YtihgceegapfngadGreatDoorFB
import Derived.Test.YtihgceegapfngadGreatDoorProg
set_option linter.unusedVariables false
set_option linter.unusedSimpArgs false
set_option linter.defProp false
set_option maxRecDepth 100000
namespace Go.Rv
open Go.Proofs
theorem ty3:TIOk Tryz.prog 3 ⟨.int .i64,1,8,some (.int .i64),[.int .i64 0],false⟩:=⟨⟨infoOf (Tryz.prog.info? 3),by kernel_rfl,by kernel_rfl,by kernel_rfl,.int .i64 0,by kernel_rfl,by kernel_rfl⟩,(by kernel_rfl:Tryz.prog.underlying 3=some (.int .i64)),no_eq⟩
theorem ty4:TIOk Tryz.prog 4 ⟨.bool,1,1,some .bool,[.bool false],false⟩:=⟨⟨infoOf (Tryz.prog.info? 4),by kernel_rfl,by kernel_rfl,by kernel_rfl,.bool false,by kernel_rfl,by kernel_rfl⟩,(by kernel_rfl:Tryz.prog.underlying 4=some .bool),no_eq⟩
theorem ty5:TIOk Tryz.prog 5 ⟨.int .u8,1,1,some (.int .u8),[.int .u8 0],false⟩:=⟨⟨infoOf (Tryz.prog.info? 5),by kernel_rfl,by kernel_rfl,by kernel_rfl,.int .u8 0,by kernel_rfl,by kernel_rfl⟩,(by kernel_rfl:Tryz.prog.underlying 5=some (.int .u8)),no_eq⟩
theorem ty9:TIOk Tryz.prog 9 ⟨.str,1,16,some .str,[.string ByteArray.empty],false⟩:=⟨⟨infoOf (Tryz.prog.info? 9),by kernel_rfl,by kernel_rfl,by kernel_rfl,.string ByteArray.empty,by kernel_rfl,by kernel_rfl⟩,(by kernel_rfl:Tryz.prog.underlying 9=some .string),no_eq⟩
theorem ty22:TIOk Tryz.prog 22 ⟨.slice 5,1,24,some (.list (.int .u8)),[.slice none 0 0],false⟩:=⟨⟨infoOf (Tryz.prog.info? 22),by kernel_rfl,by kernel_rfl,by kernel_rfl,.slice none 0 0,by kernel_rfl,by kernel_rfl⟩,(by kernel_rfl:Tryz.prog.underlying 22=some (.slice 5)),no_eq⟩
theorem ty24:TIOk Tryz.prog 24 ⟨.slice 39,1,24,some (.list (.pair (.int .i64) (.pair (.int .i64) (.pair (.int .i64) .unit)))),[.slice none 0 0],false⟩:=⟨⟨infoOf (Tryz.prog.info? 24),by kernel_rfl,by kernel_rfl,by kernel_rfl,.slice none 0 0,by kernel_rfl,by kernel_rfl⟩,(by kernel_rfl:Tryz.prog.underlying 24=some (.slice 39)),no_eq⟩
theorem ty28:TIOk Tryz.prog 28 ⟨.slice 3,1,24,some (.list (.int .i64)),[.slice none 0 0],false⟩:=⟨⟨infoOf (Tryz.prog.info? 28),by kernel_rfl,by kernel_rfl,by kernel_rfl,.slice none 0 0,by kernel_rfl,by kernel_rfl⟩,(by kernel_rfl:Tryz.prog.underlying 28=some (.slice 3)),no_eq⟩
theorem ty29:TIOk Tryz.prog 29 ⟨.slice 28,1,24,some (.list (.list (.int .i64))),[.slice none 0 0],false⟩:=⟨⟨infoOf (Tryz.prog.info? 29),by kernel_rfl,by kernel_rfl,by kernel_rfl,.slice none 0 0,by kernel_rfl,by kernel_rfl⟩,(by kernel_rfl:Tryz.prog.underlying 29=some (.slice 28)),no_eq⟩
theorem ty31:TIOk Tryz.prog 31 ⟨.strct [(0,28),(1,29)],2,48,some (.pair (.list (.int .i64)) (.pair (.list (.list (.int .i64))) .unit)),[.slice none 0 0,.slice none 0 0],false⟩:=⟨⟨infoOf (Tryz.prog.info? 31),by kernel_rfl,by kernel_rfl,by kernel_rfl,.agg #[.slice none 0 0,.slice none 0 0],by kernel_rfl,by kernel_rfl⟩,⟨fieldsOf (Tryz.prog.underlying 31),by kernel_rfl,by kernel_rfl⟩,no_eq⟩
theorem ty39:TIOk Tryz.prog 39 ⟨.strct [(0,3),(1,3),(2,3)],3,24,some (.pair (.int .i64) (.pair (.int .i64) (.pair (.int .i64) .unit))),[.int .i64 0,.int .i64 0,.int .i64 0],true⟩:=⟨⟨infoOf (Tryz.prog.info? 39),by kernel_rfl,by kernel_rfl,by kernel_rfl,.agg #[.int .i64 0,.int .i64 0,.int .i64 0],by kernel_rfl,by kernel_rfl⟩,⟨fieldsOf (Tryz.prog.underlying 39),by kernel_rfl,by kernel_rfl⟩,fun _=>by kernel_rfl⟩
theorem ty63:TIOk Tryz.prog 63 ⟨.arr 6 9,6,96,none,[.string ByteArray.empty,.string ByteArray.empty,.string ByteArray.empty,.string ByteArray.empty,.string ByteArray.empty,.string ByteArray.empty],false⟩:=⟨⟨infoOf (Tryz.prog.info? 63),by kernel_rfl,by kernel_rfl,by kernel_rfl,.agg #[.string ByteArray.empty,.string ByteArray.empty,.string ByteArray.empty,.string ByteArray.empty,.string ByteArray.empty,.string ByteArray.empty],by kernel_rfl,by kernel_rfl⟩,(by kernel_rfl:Tryz.prog.underlying 63=some (.array 6 9)),no_eq⟩
theorem ty76:TIOk Tryz.prog 76 ⟨.strct [(0,22),(1,3)],2,32,some (.pair (.list (.int .u8)) (.pair (.int .i64) .unit)),[.slice none 0 0,.int .i64 0],false⟩:=⟨⟨infoOf (Tryz.prog.info? 76),by kernel_rfl,by kernel_rfl,by kernel_rfl,.agg #[.slice none 0 0,.int .i64 0],by kernel_rfl,by kernel_rfl⟩,⟨fieldsOf (Tryz.prog.underlying 76),by kernel_rfl,by kernel_rfl⟩,no_eq⟩
theorem ty78:TIOk Tryz.prog 78 ⟨.slice 9,1,24,some (.list .str),[.slice none 0 0],false⟩:=⟨⟨infoOf (Tryz.prog.info? 78),by kernel_rfl,by kernel_rfl,by kernel_rfl,.slice none 0 0,by kernel_rfl,by kernel_rfl⟩,(by kernel_rfl:Tryz.prog.underlying 78=some (.slice 9)),no_eq⟩
theorem ty111:TIOk Tryz.prog 111 ⟨.strct [(0,28),(1,3),(2,3)],3,40,some (.pair (.list (.int .i64)) (.pair (.int .i64) (.pair (.int .i64) .unit))),[.slice none 0 0,.int .i64 0,.int .i64 0],false⟩:=⟨⟨infoOf (Tryz.prog.info? 111),by kernel_rfl,by kernel_rfl,by kernel_rfl,.agg #[.slice none 0 0,.int .i64 0,.int .i64 0],by kernel_rfl,by kernel_rfl⟩,⟨fieldsOf (Tryz.prog.underlying 111),by kernel_rfl,by kernel_rfl⟩,no_eq⟩
theorem ty128:TIOk Tryz.prog 128 ⟨.int .u64,1,8,some (.int .u64),[.int .u64 0],false⟩:=⟨⟨infoOf (Tryz.prog.info? 128),by kernel_rfl,by kernel_rfl,by kernel_rfl,.int .u64 0,by kernel_rfl,by kernel_rfl⟩,(by kernel_rfl:Tryz.prog.underlying 128=some (.int .u64)),no_eq⟩
theorem ty133:TIOk Tryz.prog 133 ⟨.int .u64,1,8,some (.int .u64),[.int .u64 0],false⟩:=⟨⟨infoOf (Tryz.prog.info? 133),by kernel_rfl,by kernel_rfl,by kernel_rfl,.int .u64 0,by kernel_rfl,by kernel_rfl⟩,(by kernel_rfl:Tryz.prog.underlying 133=some (.int .u64)),no_eq⟩
theorem ty229:TIOk Tryz.prog 229 ⟨.arr 9 4,9,9,none,[.bool false,.bool false,.bool false,.bool false,.bool false,.bool false,.bool false,.bool false,.bool false],false⟩:=⟨⟨infoOf (Tryz.prog.info? 229),by kernel_rfl,by kernel_rfl,by kernel_rfl,.agg #[.bool false,.bool false,.bool false,.bool false,.bool false,.bool false,.bool false,.bool false,.bool false],by kernel_rfl,by kernel_rfl⟩,(by kernel_rfl:Tryz.prog.underlying 229=some (.array 9 4)),no_eq⟩
theorem ty238:TIOk Tryz.prog 238 ⟨.arr 64 5,64,64,none,[.int .u8 0,.int .u8 0,.int .u8 0,.int .u8 0,.int .u8 0,.int .u8 0,.int .u8 0,.int .u8 0,.int .u8 0,.int .u8 0,.int .u8 0,.int .u8 0,.int .u8 0,.int .u8 0,.int .u8 0,.int .u8 0,.int .u8 0,.int .u8 0,.int .u8 0,.int .u8 0,.int .u8 0,.int .u8 0,.int .u8 0,.int .u8 0,.int .u8 0,.int .u8 0,.int .u8 0,.int .u8 0,.int .u8 0,.int .u8 0,.int .u8 0,.int .u8 0,.int .u8 0,.int .u8 0,.int .u8 0,.int .u8 0,.int .u8 0,.int .u8 0,.int .u8 0,.int .u8 0,.int .u8 0,.int .u8 0,.int .u8 0,.int .u8 0,.int .u8 0,.int .u8 0,.int .u8 0,.int .u8 0,.int .u8 0,.int .u8 0,.int .u8 0,.int .u8 0,.int .u8 0,.int .u8 0,.int .u8 0,.int .u8 0,.int .u8 0,.int .u8 0,.int .u8 0,.int .u8 0,.int .u8 0,.int .u8 0,.int .u8 0,.int .u8 0],false⟩:=⟨⟨infoOf (Tryz.prog.info? 238),by kernel_rfl,by kernel_rfl,by kernel_rfl,.agg #[.int .u8 0,.int .u8 0,.int .u8 0,.int .u8 0,.int .u8 0,.int .u8 0,.int .u8 0,.int .u8 0,.int .u8 0,.int .u8 0,.int .u8 0,.int .u8 0,.int .u8 0,.int .u8 0,.int .u8 0,.int .u8 0,.int .u8 0,.int .u8 0,.int .u8 0,.int .u8 0,.int .u8 0,.int .u8 0,.int .u8 0,.int .u8 0,.int .u8 0,.int .u8 0,.int .u8 0,.int .u8 0,.int .u8 0,.int .u8 0,.int .u8 0,.int .u8 0,.int .u8 0,.int .u8 0,.int .u8 0,.int .u8 0,.int .u8 0,.int .u8 0,.int .u8 0,.int .u8 0,.int .u8 0,.int .u8 0,.int .u8 0,.int .u8 0,.int .u8 0,.int .u8 0,.int .u8 0,.int .u8 0,.int .u8 0,.int .u8 0,.int .u8 0,.int .u8 0,.int .u8 0,.int .u8 0,.int .u8 0,.int .u8 0,.int .u8 0,.int .u8 0,.int .u8 0,.int .u8 0,.int .u8 0,.int .u8 0,.int .u8 0,.int .u8 0],by kernel_rfl,by kernel_rfl⟩,(by kernel_rfl:Tryz.prog.underlying 238=some (.array 64 5)),no_eq⟩
def tys:List (TypeId×TI):=[(3,⟨.int .i64,1,8,some (.int .i64),[.int .i64 0],false⟩),(4,⟨.bool,1,1,some .bool,[.bool false],false⟩),(5,⟨.int .u8,1,1,some (.int .u8),[.int .u8 0],false⟩),(9,⟨.str,1,16,some .str,[.string ByteArray.empty],false⟩),(22,⟨.slice 5,1,24,some (.list (.int .u8)),[.slice none 0 0],false⟩),(24,⟨.slice 39,1,24,some (.list (.pair (.int .i64) (.pair (.int .i64) (.pair (.int .i64) .unit)))),[.slice none 0 0],false⟩),(28,⟨.slice 3,1,24,some (.list (.int .i64)),[.slice none 0 0],false⟩),(29,⟨.slice 28,1,24,some (.list (.list (.int .i64))),[.slice none 0 0],false⟩),(31,⟨.strct [(0,28),(1,29)],2,48,some (.pair (.list (.int .i64)) (.pair (.list (.list (.int .i64))) .unit)),[.slice none 0 0,.slice none 0 0],false⟩),(39,⟨.strct [(0,3),(1,3),(2,3)],3,24,some (.pair (.int .i64) (.pair (.int .i64) (.pair (.int .i64) .unit))),[.int .i64 0,.int .i64 0,.int .i64 0],true⟩),(63,⟨.arr 6 9,6,96,none,[.string ByteArray.empty,.string ByteArray.empty,.string ByteArray.empty,.string ByteArray.empty,.string ByteArray.empty,.string ByteArray.empty],false⟩),(76,⟨.strct [(0,22),(1,3)],2,32,some (.pair (.list (.int .u8)) (.pair (.int .i64) .unit)),[.slice none 0 0,.int .i64 0],false⟩),(78,⟨.slice 9,1,24,some (.list .str),[.slice none 0 0],false⟩),(111,⟨.strct [(0,28),(1,3),(2,3)],3,40,some (.pair (.list (.int .i64)) (.pair (.int .i64) (.pair (.int .i64) .unit))),[.slice none 0 0,.int .i64 0,.int .i64 0],false⟩),(128,⟨.int .u64,1,8,some (.int .u64),[.int .u64 0],false⟩),(133,⟨.int .u64,1,8,some (.int .u64),[.int .u64 0],false⟩),(229,⟨.arr 9 4,9,9,none,[.bool false,.bool false,.bool false,.bool false,.bool false,.bool false,.bool false,.bool false,.bool false],false⟩),(238,⟨.arr 64 5,64,64,none,[.int .u8 0,.int .u8 0,.int .u8 0,.int .u8 0,.int .u8 0,.int .u8 0,.int .u8 0,.int .u8 0,.int .u8 0,.int .u8 0,.int .u8 0,.int .u8 0,.int .u8 0,.int .u8 0,.int .u8 0,.int .u8 0,.int .u8 0,.int .u8 0,.int .u8 0,.int .u8 0,.int .u8 0,.int .u8 0,.int .u8 0,.int .u8 0,.int .u8 0,.int .u8 0,.int .u8 0,.int .u8 0,.int .u8 0,.int .u8 0,.int .u8 0,.int .u8 0,.int .u8 0,.int .u8 0,.int .u8 0,.int .u8 0,.int .u8 0,.int .u8 0,.int .u8 0,.int .u8 0,.int .u8 0,.int .u8 0,.int .u8 0,.int .u8 0,.int .u8 0,.int .u8 0,.int .u8 0,.int .u8 0,.int .u8 0,.int .u8 0,.int .u8 0,.int .u8 0,.int .u8 0,.int .u8 0,.int .u8 0,.int .u8 0,.int .u8 0,.int .u8 0,.int .u8 0,.int .u8 0,.int .u8 0,.int .u8 0,.int .u8 0,.int .u8 0],false⟩)]
theorem tys_ok:TOk Tryz.prog (tlook tys):=tok_of (allc ty3 (allc ty4 (allc ty5 (allc ty9 (allc ty22 (allc ty24 (allc ty28 (allc ty29 (allc ty31 (allc ty39 (allc ty63 (allc ty76 (allc ty78 (allc ty111 (allc ty128 (allc ty133 (allc ty229 (allc ty238 alln))))))))))))))))))
def ioF (f:FuncId) (i:Nat):Bool:=[(100,1),(150,0),(173,0),(188,0),(30,1000),(105,1000),(106,1000)].any fun(p:Nat×Nat)=>Nat.beq p.1 f&&Nat.beq p.2 i
def Nfq:Ann:=(.seq (.leaf [0]) (.seq (.seq (.leaf [0,5]) (.cond (.leaf [0]) (.leaf [0]))) (.seq (.leaf [2]) (.leaf [2]))))
noncomputable def Nes:Ctx:=⟨tlook tys,olook [],ioF,0,false,[]⟩
theorem Nyp (a:List Int):Link Nes LL (bodyOf Tryz.f16) Nfq ⟨mkE 11 0 [(0,dV a)],[]⟩ (Nbw a) (fun(t:(List Int))=>(Exit.ret,⟨mkE 11 0 [(2,.ptr 0 0)],[some (.box [dV t,dI 0])]⟩)):= .of fun K h=>by
 simp only[Nbw,wpW] at h
 exact .of (by kernel_rfl) h
theorem Nyf (a:List Int) {r:AV} {H':Heap} (h:(Ans.mk _ (N3r a) (fun(t:(List Int))=>(.ptr 0 0,[some (.box [dV t,dI 0])])) [] none).run=some (r,H')):Awp Nes LL (bodyOf Tryz.f16) Nfq ⟨mkE 11 0 [(0,dV a)],[]⟩ (Ret (tlook tys) Tryz.f16.results.toList r H'):=
 ret_of' (Nyp a) (by unfold N3r;kernel_rfl) (by
 intro t
 exact ret_mk [.ptr 0 0] (by kernel_rfl) (by kernel_rfl) (by kernel_rfl) (by kernel_rfl)) h
def N8x:Fun:=fun avs H=>
 match avs,H with
 |[.dat (.list (.int .u8)) a],[]=>⟨_,N3r a,fun(t:(List Int))=>(.ptr 0 0,[some (.box [dV t,dI 0])]),[],none⟩
 |_,_=>Ans.no
theorem Nn6:Sound Tryz.prog 16 N8x:=by
 refine fn_sound' (C:=Nes) (c:=bodyOf Tryz.f16) (cok_of tys_ok (alln) (alln) (by kernel_rfl)) Tryz.func16 (by kernel_rfl) LL Nfq ?_
 intro avs H r H' h
 unfold N8x at h
 split at h
 ·refine Awp.cast ?_ ?_ ?_ (Nyf _ h)<;>kernel_rfl
 ·simp[Ans.no,Ans.run] at h
def Ngn:Ann:=(.seq (.leaf [0,1]) (.seq (.leaf [0,1]) (.seq (.seq (.leaf [0,1,24]) (.cond (.seq (.leaf [4]) (.leaf [4])) (.leaf [0,1]))) (.seq (.leaf [0,1,5]) (.seq (.seq (.leaf [0,1,5,36]) (.cond (.seq (.leaf [4]) (.leaf [4])) (.leaf [0,1,5]))) (.seq (.draw [] [0,1,2,3,4,5,6,7,8,9,10,11,12,13,14,15,16,17,18,19,20,21,22,23,24,25,26,27,28,29,30,31,32,33,34,35,36,37,38,39,40,41,42,43,44,45] [] [1,6]) (.seq (.leaf [1,6]) (.seq (.leaf [4]) (.leaf [4])))))))))
noncomputable def Ng1:Ctx:=⟨tlook tys,olook [],ioF,1,false,[]⟩
theorem Nz8 (a:Int) (b:List Int) (c:Int):Link Ng1 LL (bodyOf Tryz.f19) Ngn ⟨mkE 99 0 [(0,.ptr 0 0),(1,dI a)],[some (.box [dV b,dI c])]⟩ (N9j a b c) (fun(t:Int×Int)=>(Exit.ret,⟨mkE 99 0 [(4,dI t.1)],[some (.box [dV b,dI t.2])]⟩)):= .of fun K h=>by
 simp only[N9j,wpW] at h
 exact .of (by kernel_rfl) h
theorem Nvz (a:Int) (b:List Int) (c:Int) {r:AV} {H':Heap} (h:(Ans.mk _ (N0 a b c) (fun(t:Int×Int)=>(dI t.1,[some (.box [dV b,dI t.2])])) [] none).run=some (r,H')):Awp Ng1 LL (bodyOf Tryz.f19) Ngn ⟨mkE 99 0 [(0,.ptr 0 0),(1,dI a)],[some (.box [dV b,dI c])]⟩ (Ret (tlook tys) Tryz.f19.results.toList r H'):=
 ret_of' (Nz8 a b c) (by unfold N0;kernel_rfl) (by
 intro t
 exact ret_mk [dI t.1] (by kernel_rfl) (by kernel_rfl) (by kernel_rfl) (by kernel_rfl)) h
def Ni:Fun:=fun avs H=>
 match avs,H with
 |[.ptr 0 0,.dat (.int .i64) a],[some (.box [.dat (.list (.int .u8)) b,.dat (.int .i64) c])]=>⟨_,N0 a b c,fun(t:Int×Int)=>(dI t.1,[some (.box [dV b,dI t.2])]),[],none⟩
 |_,_=>Ans.no
theorem Nz:Sound Tryz.prog 19 Ni:=by
 refine fn_sound' (C:=Ng1) (c:=bodyOf Tryz.f19) (cok_of tys_ok (alln) (alln) (by kernel_rfl)) Tryz.func19 (by kernel_rfl) LL Ngn ?_
 intro avs H r H' h
 unfold Ni at h
 split at h
 ·refine Awp.cast ?_ ?_ ?_ (Nvz _ _ _ h)<;>kernel_rfl
 ·simp[Ans.no,Ans.run] at h
def Ns:Ann:=(.seq (.leaf [0,1]) (.seq (.leaf [0,1,5]) (.seq (.leaf [0,1,5,6]) (.seq (.seq (.leaf [0,1,5,6,7]) (.block (.loop (.seq (.seq (.leaf [0,1,5,6,7,15]) (.cond (.leaf [0,1,5,6,7]) (.leaf [5]))) (.seq (.block (.seq (.leaf [0,1,5,6,7,8]) (.seq (.seq (.leaf [0,1,5,6,7,8,26]) (.cond (.leaf [0,1,5,6,7,8]) (.leaf [0,1,5,6,7,8]))) (.seq (.leaf [0,1,5,6,7,8,9]) (.seq (.leaf [0,1,5,6,7,8,9]) (.leaf [0,1,5,6,7])))))) (.leaf [0,1,5,6,7])))))) (.seq (.leaf [4]) (.leaf [4]))))))
noncomputable def N4f:Ctx:=⟨tlook tys,olook [(19,Ni)],ioF,1,false,[]⟩
theorem Nt5 (a:Int) (b:List Int) (c:Int):Link N4f LL (Code.seq (cq [0] (bodyOf Tryz.f66)) (Code.seq (cq [0,1] (bodyOf Tryz.f66)) (cq [0,1,1] (bodyOf Tryz.f66)))) (Ann.seq (aq [0] Ns) (Ann.seq (aq [0,1] Ns) (aq [0,1,1] Ns))) ⟨mkE 45 0 [(0,.ptr 0 0),(1,dI a)],[some (.box [dV b,dI c])]⟩ (N9z b c) (fun(t:Int×Int)=>(Exit.normal,⟨mkE 45 0 [(0,.ptr 0 0),(1,dI a),(5,.slc 1),(6,dI t.1)],[some (.box [dV b,dI t.2]),some (sI ([]:List Int))]⟩)):= .of fun K h=>by
 simp only[N9z,wpW] at h
 exact .of (by kernel_rfl) h
theorem Ns2 (a b:Int) (c:List Int) (d:Int):Link N4f LL (cq [0,0,1,1,1] (bodyOf Tryz.f66)) (aq [0,0,1,1,1] Ns) ⟨mkE 45 0 [(0,.ptr 0 0),(1,dI a),(5,.slc 1),(6,dI b)],[some (.box [dV c,dI d]),some (sI ([]:List Int))]⟩ (N8g) (fun(t:Unit)=>(Exit.normal,⟨mkE 45 0 [(0,.ptr 0 0),(1,dI a),(5,.slc 1),(6,dI b),(7,dI 1)],[some (.box [dV c,dI d]),some (sI ([]:List Int))]⟩)):= .of fun K h=>by
 simp only[N8g,wpW] at h
 exact .of (by kernel_rfl) h
theorem N113 (a b c:Int) (d:List Int) (g:Int) (i:List Int):Link N4f LL (cq [0,0,1,0,1,1,1] (bodyOf Tryz.f66)) (aq [0,0,1,0,1,1,1] Ns) ⟨mkE 45 0 [(0,.ptr 0 0),(1,dI a),(5,.slc 1),(6,dI b),(7,dI c)],[some (.box [dV d,dI g]),some (sI i)]⟩ (N6h a b c d g i) (Sum.elim (fun(t:Int×Int×(List Int))=>(Exit.normal,⟨mkE 45 0 [(0,.ptr 0 0),(1,dI a),(5,.slc 1),(6,dI b),(7,dI t.1)],[some (.box [dV d,dI t.2.1]),some (sI t.2.2)]⟩)) (fun(t:Int×(List Int))=>((Exit.exit 0),⟨mkE 45 0 [(5,.slc 1)],[some (.box [dV d,dI t.1]),some (sI t.2)]⟩))):= .of fun K h=>by
 simp only[N6h,wpW] at h
 exact .of (by kernel_rfl) h
theorem Nue (a:List Int) (b:Int) (c:List Int):Link N4f LL (cq [1,1,1,1] (bodyOf Tryz.f66)) (aq [1,1,1,1] Ns) ⟨mkE 45 0 [(5,.slc 1)],[some (.box [dV a,dI b]),some (sI c)]⟩ (Nf8 b c) (fun(t:Int×(List Int))=>(Exit.ret,⟨mkE 45 0 [(4,.slc 1)],[some (.box [dV a,dI t.1]),some (sI t.2)]⟩)):= .of fun K h=>by
 simp only[Nf8,wpW] at h
 exact .of (by kernel_rfl) h
theorem N10o (b:Int) (d:List Int) (g:Int) {r:AV} {H':Heap} (h:(Ans.mk _ (N3h b d g) (fun(t:Int×(List Int))=>(.slc 1,[some (.box [dV d,dI t.1]),some (sI t.2)])) [] none).run=some (r,H')):Awp N4f LL (bodyOf Tryz.f66) Ns ⟨mkE 45 0 [(0,.ptr 0 0),(1,dI b)],[some (.box [dV d,dI g])]⟩ (Ret (tlook tys) Tryz.f66.results.toList r H'):=
 ret_of' (Link.cast (by kernel_rfl) (by kernel_rfl) (link_group (c:=(cq [0,1,1] (bodyOf Tryz.f66))) (a:=(aq [0,1,1] Ns)) [(cq [0] (bodyOf Tryz.f66)),(cq [0,1] (bodyOf Tryz.f66))] [(aq [0] Ns),(aq [0,1] Ns)] rfl (link_seq (Nt5 b d g) (fun(t:Int×Int)=>(link_seq (link_seq (Ns2 b t.1 d t.2) (fun(t40:Unit)=>(link_block (fin2:=(fun(t40:Int×(List Int))=>(Exit.normal,⟨mkE 45 0 [(5,.slc 1)],[some (.box [dV d,dI t40.1]),some (sI t40.2)]⟩))) (id:=0) (link_loop (mk:=fun(s:Int×Int×(List Int))=>⟨mkE 45 0 [(0,.ptr 0 0),(1,dI b),(5,.slc 1),(6,dI t.1),(7,dI s.1)],[some (.box [dV d,dI s.2.1]),some (sI s.2.2)]⟩) (fin:=(fun(t40:Int×(List Int))=>((Exit.exit 0),⟨mkE 45 0 [(5,.slc 1)],[some (.box [dV d,dI t40.1]),some (sI t40.2)]⟩))) (by
 rintro t40 f K h
 ·exact h) (fun s=>link_map (N113 b t.1 s.1 d s.2.1 s.2.2) (Sum.elim (fun(t40:Int×Int×(List Int))=>Sum.inl (t40.1,t40.2.1,t40.2.2)) (fun(t40:Int×(List Int))=>Sum.inr t40)) (by
 rintro(t40|t40)
 ·kernel_rfl
 ·kernel_rfl)) (1,t.2,([]:List Int))) (fun(t40:Int×(List Int))=>(t40.1,t40.2)) (by
 rintro t40 K h
 ·exact Eq.mp (by kernel_rfl) h)))) (fun(t40:Int×(List Int))=>(Nue d t40.1 t40.2))))))) (by unfold N3h;kernel_rfl) (by
 intro t
 exact ret_mk [.slc 1] (by kernel_rfl) (by kernel_rfl) (by kernel_rfl) (by kernel_rfl)) h
def Nci:Fun:=fun avs H=>
 match avs,H with
 |[.ptr 0 0,.dat (.int .i64) a],[some (.box [.dat (.list (.int .u8)) b,.dat (.int .i64) c])]=>⟨_,N3h a b c,fun(t:Int×(List Int))=>(.slc 1,[some (.box [dV b,dI t.1]),some (sI t.2)]),[],none⟩
 |_,_=>Ans.no
theorem Nkm:Sound Tryz.prog 66 Nci:=by
 refine fn_sound' (C:=N4f) (c:=bodyOf Tryz.f66) (cok_of tys_ok (allc Nz alln) (allc Tryz.call19 alln) (by kernel_rfl)) Tryz.func66 (by kernel_rfl) LL Ns ?_
 intro avs H r H' h
 unfold Nci at h
 split at h
 ·refine Awp.cast ?_ ?_ ?_ (N10o _ _ _ h)<;>kernel_rfl
 ·simp[Ans.no,Ans.run] at h
def Nie:Ann:=(.seq (.leaf [0,1]) (.seq (.leaf [4]) (.leaf [4])))
noncomputable def Nfh:Ctx:=⟨tlook tys,olook [(19,Ni)],ioF,1,false,[]⟩
theorem N14g (a:Int) (b:List Int) (c:Int):Link Nfh LL (bodyOf Tryz.f25) Nie ⟨mkE 15 0 [(0,.ptr 0 0),(1,dI a)],[some (.box [dV b,dI c])]⟩ (N9u a b c) (fun(t:Bool×Int)=>(Exit.ret,⟨mkE 15 0 [(4,dB t.1)],[some (.box [dV b,dI t.2])]⟩)):= .of fun K h=>by
 simp only[N9u,wpW] at h
 exact .of (by kernel_rfl) h
theorem Nst (a:Int) (b:List Int) (c:Int) {r:AV} {H':Heap} (h:(Ans.mk _ (Nl a b c) (fun(t:Bool×Int)=>(dB t.1,[some (.box [dV b,dI t.2])])) [] none).run=some (r,H')):Awp Nfh LL (bodyOf Tryz.f25) Nie ⟨mkE 15 0 [(0,.ptr 0 0),(1,dI a)],[some (.box [dV b,dI c])]⟩ (Ret (tlook tys) Tryz.f25.results.toList r H'):=
 ret_of' (N14g a b c) (by unfold Nl;kernel_rfl) (by
 intro t
 exact ret_mk [dB t.1] (by kernel_rfl) (by kernel_rfl) (by kernel_rfl) (by kernel_rfl)) h
def N5p:Fun:=fun avs H=>
 match avs,H with
 |[.ptr 0 0,.dat (.int .i64) a],[some (.box [.dat (.list (.int .u8)) b,.dat (.int .i64) c])]=>⟨_,Nl a b c,fun(t:Bool×Int)=>(dB t.1,[some (.box [dV b,dI t.2])]),[],none⟩
 |_,_=>Ans.no
theorem Nae:Sound Tryz.prog 25 N5p:=by
 refine fn_sound' (C:=Nfh) (c:=bodyOf Tryz.f25) (cok_of tys_ok (allc Nz alln) (allc Tryz.call19 alln) (by kernel_rfl)) Tryz.func25 (by kernel_rfl) LL Nie ?_
 intro avs H r H' h
 unfold N5p at h
 split at h
 ·refine Awp.cast ?_ ?_ ?_ (Nst _ _ _ h)<;>kernel_rfl
 ·simp[Ans.no,Ans.run] at h
def Nb:Ann:=(.seq (.leaf [0,1]) (.seq (.leaf [0,1,5]) (.seq (.leaf [0,1,5,6]) (.seq (.leaf [0,1,5,6,7]) (.seq (.leaf [0,1,5,6,7,8]) (.seq (.seq (.leaf [0,1,5,6,7,8,9]) (.block (.loop (.seq (.seq (.leaf [0,1,5,6,7,8,9,23]) (.cond (.leaf [0,1,5,6,7,8,9]) (.leaf [0,1,5,7]))) (.seq (.block (.seq (.leaf [0,1,5,6,7,8,9,10]) (.seq (.seq (.leaf [0,1,5,6,7,8,9,10,35]) (.cond (.leaf [0,1,5,6,7,8,9,10]) (.leaf [0,1,5,6,7,8,9,10]))) (.draw [] [0,1,2,3,4,5,6,7,8,9,10,11] [] [0,1,5,6,7,8,9])))) (.leaf [0,1,5,6,7,8,9])))))) (.seq (.seq (.leaf [0,5,7,51]) (.cond (.seq (.leaf [0,5,7,53]) (.block (.seq (.leaf [0,5,7,53,63]) (.cond (.seq (.leaf [4]) (.leaf [4])) (.seq (.leaf [0,5,7,53,66]) (.cond (.seq (.leaf [4]) (.leaf [4])) (.seq (.leaf [0,5,7,69]) (.cond (.seq (.leaf [7]) (.seq (.leaf [4]) (.leaf [4]))) (.leaf [7]))))))))) (.leaf [7]))) (.seq (.leaf [4]) (.leaf [4])))))))))
noncomputable def N5m:Ctx:=⟨tlook tys,olook [(19,Ni),(66,Nci),(25,N5p)],ioF,1,false,[]⟩
theorem Npm (a:Int) (b:List Int) (c:Int):Link N5m LL (Code.seq (cq [0] (bodyOf Tryz.f64)) (Code.seq (cq [0,1] (bodyOf Tryz.f64)) (Code.seq (cq [0,1,1] (bodyOf Tryz.f64)) (Code.seq (cq [0,1,1,1] (bodyOf Tryz.f64)) (cq [0,1,1,1,1] (bodyOf Tryz.f64)))))) (Ann.seq (aq [0] Nb) (Ann.seq (aq [0,1] Nb) (Ann.seq (aq [0,1,1] Nb) (Ann.seq (aq [0,1,1,1] Nb) (aq [0,1,1,1,1] Nb))))) ⟨mkE 80 0 [(0,.ptr 0 0),(1,dI a)],[some (.box [dV b,dI c])]⟩ (Nco b c) (fun(t:Int×Int×Int×(List Int)×(List Int))=>(Exit.normal,⟨mkE 80 0 [(0,.ptr 0 0),(1,dI a),(5,dI t.1),(6,.slc 1),(7,.slc 2),(8,dI t.2.1)],[some (.box [dV b,dI t.2.2.1]),some (sI t.2.2.2.1),some (sI t.2.2.2.2)]⟩)):= .of fun K h=>by
 simp only[Nco,wpW] at h
 exact .of (by kernel_rfl) h
theorem N14j (a b c:Int) (d:List Int) (g:Int) (i j:List Int):Link N5m LL (cq [0,0,1,1,1,1,1] (bodyOf Tryz.f64)) (aq [0,0,1,1,1,1,1] Nb) ⟨mkE 80 0 [(0,.ptr 0 0),(1,dI a),(5,dI b),(6,.slc 1),(7,.slc 2),(8,dI c)],[some (.box [dV d,dI g]),some (sI i),some (sI j)]⟩ (Nbg) (fun(t:Unit)=>(Exit.normal,⟨mkE 80 0 [(0,.ptr 0 0),(1,dI a),(5,dI b),(6,.slc 1),(7,.slc 2),(8,dI c),(9,dI 1)],[some (.box [dV d,dI g]),some (sI i),some (sI j)]⟩)):= .of fun K h=>by
 simp only[Nbg,wpW] at h
 exact .of (by kernel_rfl) h
theorem N119 (a b c d:Int) (g:List Int) (i:Int) (j k:List Int):Link N5m LL (cq [0,0,1,0,1,1,1,1,1] (bodyOf Tryz.f64)) (aq [0,0,1,0,1,1,1,1,1] Nb) ⟨mkE 80 0 [(0,.ptr 0 0),(1,dI a),(5,dI b),(6,.slc 1),(7,.slc 2),(8,dI c),(9,dI d)],[some (.box [dV g,dI i]),some (sI j),some (sI k)]⟩ (N6w b c d g i j k) (Sum.elim (fun(t:Int×Int×(List Int))=>(Exit.normal,⟨mkE 80 0 [(0,.ptr 0 0),(1,dI a),(5,dI b),(6,.slc 1),(7,.slc 2),(8,dI c),(9,dI t.1)],[some (.box [dV g,dI t.2.1]),some (sI j),some (sI t.2.2)]⟩)) (fun(t:Int×(List Int))=>((Exit.exit 0),⟨mkE 80 0 [(0,.ptr 0 0),(1,dI a),(5,dI b),(7,.slc 1)],[some (.box [dV g,dI t.1]),some (sI t.2)]⟩))):= .of fun K h=>by
 simp only[N6w,wpW] at h
 exact .of (by kernel_rfl) h
theorem Nwj (a b:Int) (c:List Int) (d:Int) (g:List Int):Link N5m LL (cq [1,1,1,1,1,1] (bodyOf Tryz.f64)) (aq [1,1,1,1,1,1] Nb) ⟨mkE 80 0 [(0,.ptr 0 0),(1,dI a),(5,dI b),(7,.slc 1)],[some (.box [dV c,dI d]),some (sI g)]⟩ (Nbc a b c d g) (fun(t:Int×(List Int))=>(Exit.ret,⟨mkE 80 0 [(4,.slc 1)],[some (.box [dV c,dI t.1]),some (sI t.2)]⟩)):= .of fun K h=>by
 simp only[Nbc,wpW] at h
 exact .of (by kernel_rfl) h
theorem Nzn (b:Int) (d:List Int) (g:Int) {r:AV} {H':Heap} (h:(Ans.mk _ (N3m b d g) (fun(t:Int×(List Int))=>(.slc 1,[some (.box [dV d,dI t.1]),some (sI t.2)])) [] none).run=some (r,H')):Awp N5m LL (bodyOf Tryz.f64) Nb ⟨mkE 80 0 [(0,.ptr 0 0),(1,dI b)],[some (.box [dV d,dI g])]⟩ (Ret (tlook tys) Tryz.f64.results.toList r H'):=
 ret_of' (Link.cast (by kernel_rfl) (by kernel_rfl) (link_group (c:=(cq [0,1,1,1,1] (bodyOf Tryz.f64))) (a:=(aq [0,1,1,1,1] Nb)) [(cq [0] (bodyOf Tryz.f64)),(cq [0,1] (bodyOf Tryz.f64)),(cq [0,1,1] (bodyOf Tryz.f64)),(cq [0,1,1,1] (bodyOf Tryz.f64))] [(aq [0] Nb),(aq [0,1] Nb),(aq [0,1,1] Nb),(aq [0,1,1,1] Nb)] rfl (link_seq (Npm b d g) (fun(t:Int×Int×Int×(List Int)×(List Int))=>(link_seq (link_seq (N14j b t.1 t.2.1 d t.2.2.1 t.2.2.2.1 t.2.2.2.2) (fun(t41:Unit)=>(link_block (fin2:=(fun(t41:Int×(List Int))=>(Exit.normal,⟨mkE 80 0 [(0,.ptr 0 0),(1,dI b),(5,dI t.1),(7,.slc 1)],[some (.box [dV d,dI t41.1]),some (sI t41.2)]⟩))) (id:=0) (link_loop (mk:=fun(s:Int×Int×(List Int))=>⟨mkE 80 0 [(0,.ptr 0 0),(1,dI b),(5,dI t.1),(6,.slc 1),(7,.slc 2),(8,dI t.2.1),(9,dI s.1)],[some (.box [dV d,dI s.2.1]),some (sI t.2.2.2.1),some (sI s.2.2)]⟩) (fin:=(fun(t41:Int×(List Int))=>((Exit.exit 0),⟨mkE 80 0 [(0,.ptr 0 0),(1,dI b),(5,dI t.1),(7,.slc 1)],[some (.box [dV d,dI t41.1]),some (sI t41.2)]⟩))) (by
 rintro t41 f K h
 ·exact h) (fun s=>link_map (N119 b t.1 t.2.1 s.1 d s.2.1 t.2.2.2.1 s.2.2) (Sum.elim (fun(t41:Int×Int×(List Int))=>Sum.inl (t41.1,t41.2.1,t41.2.2)) (fun(t41:Int×(List Int))=>Sum.inr t41)) (by
 rintro(t41|t41)
 ·kernel_rfl
 ·kernel_rfl)) (1,t.2.2.1,t.2.2.2.2)) (fun(t41:Int×(List Int))=>(t41.1,t41.2)) (by
 rintro t41 K h
 ·exact Eq.mp (by kernel_rfl) h)))) (fun(t41:Int×(List Int))=>(Nwj b t.1 d t41.1 t41.2))))))) (by unfold N3m;kernel_rfl) (by
 intro t
 exact ret_mk [.slc 1] (by kernel_rfl) (by kernel_rfl) (by kernel_rfl) (by kernel_rfl)) h
def Nbi:Fun:=fun avs H=>
 match avs,H with
 |[.ptr 0 0,.dat (.int .i64) a],[some (.box [.dat (.list (.int .u8)) b,.dat (.int .i64) c])]=>⟨_,N3m a b c,fun(t:Int×(List Int))=>(.slc 1,[some (.box [dV b,dI t.1]),some (sI t.2)]),[],none⟩
 |_,_=>Ans.no
theorem Nja:Sound Tryz.prog 64 Nbi:=by
 refine fn_sound' (C:=N5m) (c:=bodyOf Tryz.f64) (cok_of tys_ok (allc Nz (allc Nkm (allc Nae alln))) (allc Tryz.call19 (allc Tryz.call66 (allc Tryz.call25 alln))) (by kernel_rfl)) Tryz.func64 (by kernel_rfl) LL Nb ?_
 intro avs H r H' h
 unfold Nbi at h
 split at h
 ·refine Awp.cast ?_ ?_ ?_ (Nzn _ _ _ h)<;>kernel_rfl
 ·simp[Ans.no,Ans.run] at h
def Nic:Ann:=(.seq (.leaf [0,1,2]) (.seq (.leaf [6]) (.leaf [6])))
noncomputable def Nfx:Ctx:=⟨tlook tys,olook [],ioF,0,false,[]⟩
theorem Nx2 (a b c:Int):Link Nfx LL (bodyOf Tryz.f51) Nic ⟨mkE 15 0 [(0,dI a),(1,dI b),(2,dI c)],[]⟩ (N9h a b c) (fun(t:Bool)=>(Exit.ret,⟨mkE 15 0 [(6,dB t)],[]⟩)):= .of fun K h=>by
 simp only[N9h,wpW] at h
 exact .of (by kernel_rfl) h
theorem N12o (a b c:Int) {r:AV} {H':Heap} (h:(Ans.mk _ (N7 a b c) (fun(t:Bool)=>(dB t,[])) [] none).run=some (r,H')):Awp Nfx LL (bodyOf Tryz.f51) Nic ⟨mkE 15 0 [(0,dI a),(1,dI b),(2,dI c)],[]⟩ (Ret (tlook tys) Tryz.f51.results.toList r H'):=
 ret_of' (Nx2 a b c) (by unfold N7;kernel_rfl) (by
 intro t
 exact ret_mk [dB t] (by kernel_rfl) (by kernel_rfl) (by kernel_rfl) (by kernel_rfl)) h
def N2v:Fun:=fun avs H=>
 match avs,H with
 |[.dat (.int .i64) a,.dat (.int .i64) b,.dat (.int .i64) c],[]=>⟨_,N7 a b c,fun(t:Bool)=>(dB t,[]),[],none⟩
 |_,_=>Ans.no
theorem N77:Sound Tryz.prog 51 N2v:=by
 refine fn_sound' (C:=Nfx) (c:=bodyOf Tryz.f51) (cok_of tys_ok (alln) (alln) (by kernel_rfl)) Tryz.func51 (by kernel_rfl) LL Nic ?_
 intro avs H r H' h
 unfold N2v at h
 split at h
 ·refine Awp.cast ?_ ?_ ?_ (N12o _ _ _ h)<;>kernel_rfl
 ·simp[Ans.no,Ans.run] at h
def N1:Ann:=(.seq (.leaf [0]) (.seq (.leaf [0,3]) (.seq (.seq (.leaf [0,3,12]) (.cond (.seq (.leaf [2]) (.leaf [2])) (.leaf [0,3]))) (.seq (.leaf [0,3,4]) (.seq (.seq (.leaf [0,3,4,5]) (.block (.loop (.seq (.seq (.leaf [0,3,4,5,15]) (.cond (.leaf [0,3,4,5]) (.leaf [4]))) (.seq (.block (.seq (.seq (.leaf [0,3,4,5,33]) (.cond (.seq (.leaf [2]) (.leaf [2])) (.leaf [0,3,4,5]))) (.seq (.seq (.leaf [0,3,4,5,38]) (.cond (.leaf [0,3,4,5]) (.leaf [0,3,4,5]))) (.seq (.leaf [0,3,4,5,6]) (.seq (.seq (.leaf [0,3,4,5,6,7]) (.block (.loop (.seq (.seq (.leaf [0,3,4,5,6,7,49]) (.cond (.leaf [0,3,4,5,6,7]) (.leaf [0,3,4,5,6]))) (.seq (.block (.seq (.leaf [0,3,4,5,6,7]) (.seq (.leaf [0,3,4,5,6,7,60]) (.cond (.seq (.leaf [2]) (.leaf [2])) (.leaf [0,3,4,5,6,7]))))) (.leaf [0,3,4,5,6,7])))))) (.seq (.leaf [0,3,4,5,62]) (.cond (.seq (.leaf [2]) (.leaf [2])) (.leaf [0,3,4,5])))))))) (.leaf [0,3,4,5])))))) (.seq (.leaf [2]) (.leaf [2])))))))
noncomputable def N14:Ctx:=⟨tlook tys,olook [(51,N2v)],ioF,0,false,[]⟩
theorem Nya (a:List Int):Link N14 LL (Code.seq (cq [0] (bodyOf Tryz.f27)) (Code.seq (cq [0,1] (bodyOf Tryz.f27)) (Code.seq (cq [0,1,1] (bodyOf Tryz.f27)) (cq [0,1,1,1] (bodyOf Tryz.f27))))) (Ann.seq (aq [0] N1) (Ann.seq (aq [0,1] N1) (Ann.seq (aq [0,1,1] N1) (aq [0,1,1,1] N1)))) ⟨mkE 65 0 [(0,dL a)],[]⟩ (N8q a) (Sum.elim (fun(t:Int)=>(Exit.normal,⟨mkE 65 0 [(0,dL a),(3,dI t),(4,dI 0)],[]⟩)) (fun(t:Bool)=>(Exit.ret,⟨mkE 65 0 [(2,dB t)],[]⟩))):= .of fun K h=>by
 simp only[N8q,wpW] at h
 exact .of (by kernel_rfl) h
theorem N10e (a:List Int) (b:Int):Link N14 LL (cq [0,0,1,1,1,1] (bodyOf Tryz.f27)) (aq [0,0,1,1,1,1] N1) ⟨mkE 65 0 [(0,dL a),(3,dI b),(4,dI 0)],[]⟩ (Na4) (fun(t:Unit)=>(Exit.normal,⟨mkE 65 0 [(0,dL a),(3,dI b),(4,dI 0),(5,dI 0)],[]⟩)):= .of fun K h=>by
 simp only[Na4,wpW] at h
 exact .of (by kernel_rfl) h
theorem N176 (a:List Int) (b c d:Int):Link N14 LL (cq [0,0,0,1,0,1,1,1,1] (bodyOf Tryz.f27)) (aq [0,0,0,1,0,1,1,1,1] N1) ⟨mkE 65 0 [(0,dL a),(3,dI b),(4,dI c),(5,dI d)],[]⟩ (N7h b c d) (Sum.elim (fun(t:Unit)=>(Exit.normal,⟨mkE 65 0 [(0,dL a),(3,dI b),(4,dI c),(5,dI d)],[]⟩)) (fun(t:Int)=>((Exit.exit 0),⟨mkE 65 0 [(4,dI t)],[]⟩))):= .of fun K h=>by
 simp only[N7h,wpW] at h
 exact .of (by kernel_rfl) h
theorem Nu1 (a:List Int) (b c d:Int):Link N14 LL (Code.seq (cq [0,0,0,1,0,0,1,0,1,1,1,1] (bodyOf Tryz.f27)) (Code.seq (cq [0,1,0,0,1,0,0,1,0,1,1,1,1] (bodyOf Tryz.f27)) (cq [0,1,1,0,0,1,0,0,1,0,1,1,1,1] (bodyOf Tryz.f27)))) (Ann.seq (aq [0,0,0,1,0,0,1,0,1,1,1,1] N1) (Ann.seq (aq [0,1,0,0,1,0,0,1,0,1,1,1,1] N1) (aq [0,1,1,0,0,1,0,0,1,0,1,1,1,1] N1))) ⟨mkE 65 0 [(0,dL a),(3,dI b),(4,dI c),(5,dI d)],[]⟩ (Nbu a b c d) (Sum.elim (fun(t:Int×Int)=>(Exit.normal,⟨mkE 65 0 [(0,dL a),(3,dI b),(4,dI t.1),(5,dI d),(6,dI t.2)],[]⟩)) (fun(t:Bool)=>(Exit.ret,⟨mkE 65 0 [(2,dB t)],[]⟩))):= .of fun K h=>by
 simp only[Nbu,wpW] at h
 exact .of (by kernel_rfl) h
theorem Nua (a:List Int) (b c d g:Int):Link N14 LL (cq [0,0,1,1,1,0,0,1,0,0,1,0,1,1,1,1] (bodyOf Tryz.f27)) (aq [0,0,1,1,1,0,0,1,0,0,1,0,1,1,1,1] N1) ⟨mkE 65 0 [(0,dL a),(3,dI b),(4,dI c),(5,dI d),(6,dI g)],[]⟩ (Nas) (fun(t:Unit)=>(Exit.normal,⟨mkE 65 0 [(0,dL a),(3,dI b),(4,dI c),(5,dI d),(6,dI g),(7,dI 0)],[]⟩)):= .of fun K h=>by
 simp only[Nas,wpW] at h
 exact .of (by kernel_rfl) h
theorem N13w (a:List Int) (b c d g i:Int):Link N14 LL (cq [0,0,1,0,1,1,1,0,0,1,0,0,1,0,1,1,1,1] (bodyOf Tryz.f27)) (aq [0,0,1,0,1,1,1,0,0,1,0,0,1,0,1,1,1,1] N1) ⟨mkE 65 0 [(0,dL a),(3,dI b),(4,dI c),(5,dI d),(6,dI g),(7,dI i)],[]⟩ (N7f a b g i) (Sum.elim (fun(t:Int×Int)=>(Exit.normal,⟨mkE 65 0 [(0,dL a),(3,dI b),(4,dI c),(5,dI d),(6,dI t.1),(7,dI t.2)],[]⟩)) (Sum.elim (fun(t:Bool)=>(Exit.ret,⟨mkE 65 0 [(2,dB t)],[]⟩)) (fun(t:Int)=>((Exit.exit 2),⟨mkE 65 0 [(0,dL a),(3,dI b),(4,dI c),(5,dI d),(6,dI t)],[]⟩)))):= .of fun K h=>by
 simp only[N7f,wpW] at h
 exact .of (by kernel_rfl) h
theorem N112 (a:List Int) (b c d g:Int):Link N14 LL (cq [1,1,1,1,0,0,1,0,0,1,0,1,1,1,1] (bodyOf Tryz.f27)) (aq [1,1,1,1,0,0,1,0,0,1,0,1,1,1,1] N1) ⟨mkE 65 0 [(0,dL a),(3,dI b),(4,dI c),(5,dI d),(6,dI g)],[]⟩ (N9l g) (Sum.elim (fun(t:Unit)=>(Exit.normal,⟨mkE 65 0 [(0,dL a),(3,dI b),(4,dI c),(5,dI d)],[]⟩)) (fun(t:Bool)=>(Exit.ret,⟨mkE 65 0 [(2,dB t)],[]⟩))):= .of fun K h=>by
 simp only[N9l,wpW] at h
 exact .of (by kernel_rfl) h
theorem N17f (a:List Int) (b c d:Int):Link N14 LL (cq [1,1,0,0,1,0,1,1,1,1] (bodyOf Tryz.f27)) (aq [1,1,0,0,1,0,1,1,1,1] N1) ⟨mkE 65 0 [(0,dL a),(3,dI b),(4,dI c),(5,dI d)],[]⟩ (N7x d) (fun(t:Int)=>(Exit.normal,⟨mkE 65 0 [(0,dL a),(3,dI b),(4,dI c),(5,dI t)],[]⟩)):= .of fun K h=>by
 simp only[N7x,wpW] at h
 exact .of (by kernel_rfl) h
theorem Nwz (a:Int):Link N14 LL (cq [1,1,1,1,1] (bodyOf Tryz.f27)) (aq [1,1,1,1,1] N1) ⟨mkE 65 0 [(4,dI a)],[]⟩ (Nc6 a) (fun(t:Bool)=>(Exit.ret,⟨mkE 65 0 [(2,dB t)],[]⟩)):= .of fun K h=>by
 simp only[Nc6,wpW] at h
 exact .of (by kernel_rfl) h
theorem N15s (b:List Int) {r:AV} {H':Heap} (h:(Ans.mk _ (N9 b) (fun(t:Bool)=>(dB t,[])) [] none).run=some (r,H')):Awp N14 LL (bodyOf Tryz.f27) N1 ⟨mkE 65 0 [(0,dL b)],[]⟩ (Ret (tlook tys) Tryz.f27.results.toList r H'):=
 ret_of' (Link.cast (by kernel_rfl) (by kernel_rfl) (link_group (c:=(cq [0,1,1,1] (bodyOf Tryz.f27))) (a:=(aq [0,1,1,1] N1)) [(cq [0] (bodyOf Tryz.f27)),(cq [0,1] (bodyOf Tryz.f27)),(cq [0,1,1] (bodyOf Tryz.f27))] [(aq [0] N1),(aq [0,1] N1),(aq [0,1,1] N1)] rfl (link_seq2 (Nya b) (fun(t:Int)=>(link_seq2 (link_seq (N10e b t) (fun(t43:Unit)=>(link_block (fin2:=(Sum.elim (fun(t43:Int)=>(Exit.normal,⟨mkE 65 0 [(4,dI t43)],[]⟩)) (fun(t43:Bool)=>(Exit.ret,⟨mkE 65 0 [(2,dB t43)],[]⟩)))) (id:=0) (link_loop (mk:=fun(s:Int×Int)=>⟨mkE 65 0 [(0,dL b),(3,dI t),(4,dI s.1),(5,dI s.2)],[]⟩) (fin:=(Sum.elim (fun(t43:Bool)=>(Exit.ret,⟨mkE 65 0 [(2,dB t43)],[]⟩)) (fun(t43:Int)=>((Exit.exit 0),⟨mkE 65 0 [(4,dI t43)],[]⟩)))) (by
 rintro(t43|t43) f K h
 ·exact h
 ·exact h) (fun s=>link_map (link_seq2 (N176 b t s.1 s.2) (fun(t54:Unit)=>(link_map (fin2:=(Sum.elim (fun(t54:Int×Int)=>(Exit.normal,⟨mkE 65 0 [(0,dL b),(3,dI t),(4,dI t54.1),(5,dI t54.2)],[]⟩)) (Sum.elim (fun(t54:Bool)=>(Exit.ret,⟨mkE 65 0 [(2,dB t54)],[]⟩)) (fun(t54:Int)=>((Exit.exit 0),⟨mkE 65 0 [(4,dI t54)],[]⟩))))) (link_seq2 (link_block (fin2:=(Sum.elim (fun(t54:Int)=>(Exit.normal,⟨mkE 65 0 [(0,dL b),(3,dI t),(4,dI t54),(5,dI s.2)],[]⟩)) (fun(t54:Bool)=>(Exit.ret,⟨mkE 65 0 [(2,dB t54)],[]⟩)))) (id:=1) (link_group (c:=(cq [0,1,1,0,0,1,0,0,1,0,1,1,1,1] (bodyOf Tryz.f27))) (a:=(aq [0,1,1,0,0,1,0,0,1,0,1,1,1,1] N1)) [(cq [0,0,0,1,0,0,1,0,1,1,1,1] (bodyOf Tryz.f27)),(cq [0,1,0,0,1,0,0,1,0,1,1,1,1] (bodyOf Tryz.f27))] [(aq [0,0,0,1,0,0,1,0,1,1,1,1] N1),(aq [0,1,0,0,1,0,0,1,0,1,1,1,1] N1)] rfl (link_seq2 (Nu1 b t s.1 s.2) (fun(t54:Int×Int)=>(link_map (fin2:=(Sum.elim (fun(t54:Int)=>(Exit.normal,⟨mkE 65 0 [(0,dL b),(3,dI t),(4,dI t54),(5,dI s.2)],[]⟩)) (fun(t54:Bool)=>(Exit.ret,⟨mkE 65 0 [(2,dB t54)],[]⟩)))) (link_seq2 (link_seq (Nua b t t54.1 s.2 t54.2) (fun(t42:Unit)=>(link_block (fin2:=(Sum.elim (fun(t42:Int)=>(Exit.normal,⟨mkE 65 0 [(0,dL b),(3,dI t),(4,dI t54.1),(5,dI s.2),(6,dI t42)],[]⟩)) (fun(t42:Bool)=>(Exit.ret,⟨mkE 65 0 [(2,dB t42)],[]⟩)))) (id:=2) (link_loop (mk:=fun(s53:Int×Int)=>⟨mkE 65 0 [(0,dL b),(3,dI t),(4,dI t54.1),(5,dI s.2),(6,dI s53.1),(7,dI s53.2)],[]⟩) (fin:=(Sum.elim (fun(t42:Bool)=>(Exit.ret,⟨mkE 65 0 [(2,dB t42)],[]⟩)) (fun(t42:Int)=>((Exit.exit 2),⟨mkE 65 0 [(0,dL b),(3,dI t),(4,dI t54.1),(5,dI s.2),(6,dI t42)],[]⟩)))) (by
 rintro(t42|t42) f K h
 ·exact h
 ·exact h) (fun s53=>link_map (N13w b t t54.1 s.2 s53.1 s53.2) (Sum.elim (fun(t42:Int×Int)=>Sum.inl (t42.1,t42.2)) (Sum.elim (fun(t42:Bool)=>Sum.inr (Sum.inl t42)) (fun(t42:Int)=>Sum.inr (Sum.inr t42)))) (by
 rintro(t42|t42|t42)
 ·kernel_rfl
 ·kernel_rfl
 ·kernel_rfl)) (t54.2,0)) (Sum.elim (fun(t42:Bool)=>(Sum.inr t42)) (fun(t42:Int)=>(Sum.inl t42))) (by
 rintro(t42|t42) K h
 ·exact Eq.mp (by kernel_rfl) h
 ·exact Eq.mp (by kernel_rfl) h)))) (fun(t42:Int)=>(N112 b t t54.1 s.2 t42)) (fun(t42:Bool)=>(Sum.inr t42)) (by
 rintro t42
 ·kernel_rfl) (by
 rintro t42 f K h
 ·exact h)) (Sum.elim (fun(u:Unit)=>(Sum.inl t54.1)) (fun(u:Bool)=>(Sum.inr u))) (by
 rintro(t54|t54)
 ·kernel_rfl
 ·kernel_rfl))) (fun(t54:Bool)=>(Sum.inr t54)) (by
 rintro t54
 ·kernel_rfl) (by
 rintro t54 f K h
 ·exact h))) (Sum.elim (fun(t54:Int)=>(Sum.inl t54)) (fun(t54:Bool)=>(Sum.inr t54))) (by
 rintro(t54|t54) K h
 ·exact Eq.mp (by kernel_rfl) h
 ·exact Eq.mp (by kernel_rfl) h)) (fun(t54:Int)=>(link_map (fin2:=(Sum.elim (fun(t54:Int×Int)=>(Exit.normal,⟨mkE 65 0 [(0,dL b),(3,dI t),(4,dI t54.1),(5,dI t54.2)],[]⟩)) (fun(t54:Bool)=>(Exit.ret,⟨mkE 65 0 [(2,dB t54)],[]⟩)))) (N17f b t t54 s.2) (fun(u:Int)=>(Sum.inl (t54,u))) (by
 rintro t54
 ·kernel_rfl))) (fun(t54:Bool)=>(Sum.inr t54)) (by
 rintro t54
 ·kernel_rfl) (by
 rintro t54 f K h
 ·exact h)) (Sum.elim (fun(t54:Int×Int)=>(Sum.inl (t54.1,t54.2))) (fun(t54:Bool)=>(Sum.inr (Sum.inl t54)))) (by
 rintro(t54|t54)
 ·kernel_rfl
 ·kernel_rfl))) (fun(t54:Int)=>(Sum.inr (Sum.inr t54))) (by
 rintro t54
 ·kernel_rfl) (by
 rintro t54 f K h
 ·exact h)) (Sum.elim (fun(t43:Int×Int)=>Sum.inl (t43.1,t43.2)) (Sum.elim (fun(t43:Bool)=>Sum.inr (Sum.inl t43)) (fun(t43:Int)=>Sum.inr (Sum.inr t43)))) (by
 rintro(t43|t43|t43)
 ·kernel_rfl
 ·kernel_rfl
 ·kernel_rfl)) (0,0)) (Sum.elim (fun(t43:Bool)=>(Sum.inr t43)) (fun(t43:Int)=>(Sum.inl t43))) (by
 rintro(t43|t43) K h
 ·exact Eq.mp (by kernel_rfl) h
 ·exact Eq.mp (by kernel_rfl) h)))) (fun(t43:Int)=>(Nwz t43)) (fun(t43:Bool)=>t43) (by
 rintro t43
 ·kernel_rfl) (by
 rintro t43 f K h
 ·exact h))) (fun(t:Bool)=>t) (by
 rintro t
 ·kernel_rfl) (by
 rintro t f K h
 ·exact h)))) (by unfold N9;kernel_rfl) (by
 intro t
 exact ret_mk [dB t] (by kernel_rfl) (by kernel_rfl) (by kernel_rfl) (by kernel_rfl)) h
def N19:Fun:=fun avs H=>
 match avs,H with
 |[.dat (.list (.int .i64)) a],[]=>⟨_,N9 a,fun(t:Bool)=>(dB t,[]),[],none⟩
 |_,_=>Ans.no
theorem N2j:Sound Tryz.prog 27 N19:=by
 refine fn_sound' (C:=N14) (c:=bodyOf Tryz.f27) (cok_of tys_ok (allc N77 alln) (allc Tryz.call51 alln) (by kernel_rfl)) Tryz.func27 (by kernel_rfl) LL N1 ?_
 intro avs H r H' h
 unfold N19 at h
 split at h
 ·refine Awp.cast ?_ ?_ ?_ (N15s _ h)<;>kernel_rfl
 ·simp[Ans.no,Ans.run] at h
def Nq:Ann:=(.seq (.leaf [0,1]) (.seq (.seq (.leaf [0,1,5]) (.block (.loop (.seq (.seq (.leaf [0,1,5,10]) (.cond (.leaf [0,1,5]) (.leaf [0,1]))) (.seq (.block (.seq (.seq (.leaf [0,1,5,19]) (.cond (.seq (.leaf [4]) (.leaf [4])) (.leaf [0,1,5]))) (.seq (.leaf [0,1,5,6]) (.block (.loop (.seq (.seq (.leaf [0,1,5,6,22]) (.cond (.leaf [0,1,5,6]) (.leaf [0,1,5]))) (.seq (.block (.seq (.draw [] [0,1,2,3,4,5,6,7,8] [] [0,1,5,6,33]) (.cond (.seq (.leaf [4]) (.leaf [4])) (.leaf [0,1,5,6])))) (.leaf [0,1,5,6])))))))) (.leaf [0,1,5])))))) (.seq (.leaf [4]) (.leaf [4]))))
noncomputable def N1j:Ctx:=⟨tlook tys,olook [(51,N2v)],ioF,0,false,[]⟩
theorem Nxf (a:List Int) (b:Int):Link N1j LL (cq [0] (bodyOf Tryz.f99)) (aq [0] Nq) ⟨mkE 42 0 [(0,dL a),(1,dI b)],[]⟩ (Nar) (fun(t:Unit)=>(Exit.normal,⟨mkE 42 0 [(0,dL a),(1,dI b)],[]⟩)):= .of fun K h=>by
 simp only[Nar,wpW] at h
 exact .of (by kernel_rfl) h
theorem N115 (a:List Int) (b:Int):Link N1j LL (cq [0,0,1] (bodyOf Tryz.f99)) (aq [0,0,1] Nq) ⟨mkE 42 0 [(0,dL a),(1,dI b)],[]⟩ (N8j) (fun(t:Unit)=>(Exit.normal,⟨mkE 42 0 [(0,dL a),(1,dI b),(5,dI 0)],[]⟩)):= .of fun K h=>by
 simp only[N8j,wpW] at h
 exact .of (by kernel_rfl) h
theorem Nw2 (a:List Int) (b c:Int):Link N1j LL (cq [0,0,0,1,0,1] (bodyOf Tryz.f99)) (aq [0,0,0,1,0,1] Nq) ⟨mkE 42 0 [(0,dL a),(1,dI b),(5,dI c)],[]⟩ (N7v a c) (Sum.elim (fun(t:Unit)=>(Exit.normal,⟨mkE 42 0 [(0,dL a),(1,dI b),(5,dI c)],[]⟩)) (fun(t:Unit)=>((Exit.exit 0),⟨mkE 42 0 [(0,dL a),(1,dI b)],[]⟩))):= .of fun K h=>by
 simp only[N7v,wpW] at h
 exact .of (by kernel_rfl) h
theorem N149 (a:List Int) (b c:Int):Link N1j LL (Code.seq (cq [0,0,0,1,0,0,1,0,1] (bodyOf Tryz.f99)) (cq [0,1,0,0,1,0,0,1,0,1] (bodyOf Tryz.f99))) (Ann.seq (aq [0,0,0,1,0,0,1,0,1] Nq) (aq [0,1,0,0,1,0,0,1,0,1] Nq)) ⟨mkE 42 0 [(0,dL a),(1,dI b),(5,dI c)],[]⟩ (N8e a b c) (Sum.elim (fun(t:Unit)=>(Exit.normal,⟨mkE 42 0 [(0,dL a),(1,dI b),(5,dI c),(6,dI 0)],[]⟩)) (fun(t:Bool)=>(Exit.ret,⟨mkE 42 0 [(4,dB t)],[]⟩))):= .of fun K h=>by
 simp only[N8e,wpW] at h
 exact .of (by kernel_rfl) h
theorem Nvq (a:List Int) (b c d:Int):Link N1j LL (cq [0,0,1,1,0,0,1,0,0,1,0,1] (bodyOf Tryz.f99)) (aq [0,0,1,1,0,0,1,0,0,1,0,1] Nq) ⟨mkE 42 0 [(0,dL a),(1,dI b),(5,dI c),(6,dI d)],[]⟩ (N71 a c d) (Sum.elim (fun(t:Int)=>(Exit.normal,⟨mkE 42 0 [(0,dL a),(1,dI b),(5,dI c),(6,dI t)],[]⟩)) (Sum.elim (fun(t:Bool)=>(Exit.ret,⟨mkE 42 0 [(4,dB t)],[]⟩)) (fun(t:Unit)=>((Exit.exit 2),⟨mkE 42 0 [(0,dL a),(1,dI b),(5,dI c)],[]⟩)))):= .of fun K h=>by
 simp only[N71,wpW] at h
 exact .of (by kernel_rfl) h
theorem N114 (a:List Int) (b c:Int):Link N1j LL (cq [1,1,0,0,1,0,1] (bodyOf Tryz.f99)) (aq [1,1,0,0,1,0,1] Nq) ⟨mkE 42 0 [(0,dL a),(1,dI b),(5,dI c)],[]⟩ (N90 c) (fun(t:Int)=>(Exit.normal,⟨mkE 42 0 [(0,dL a),(1,dI b),(5,dI t)],[]⟩)):= .of fun K h=>by
 simp only[N90,wpW] at h
 exact .of (by kernel_rfl) h
theorem Nsz (a:List Int) (b:Int):Link N1j LL (cq [1,1] (bodyOf Tryz.f99)) (aq [1,1] Nq) ⟨mkE 42 0 [(0,dL a),(1,dI b)],[]⟩ (Nc8 a b) (fun(t:Bool)=>(Exit.ret,⟨mkE 42 0 [(4,dB t)],[]⟩)):= .of fun K h=>by
 simp only[Nc8,wpW] at h
 exact .of (by kernel_rfl) h
theorem N10z (b:List Int) (d:Int) {r:AV} {H':Heap} (h:(Ans.mk _ (N4j b d) (fun(t:Bool)=>(dB t,[])) [] none).run=some (r,H')):Awp N1j LL (bodyOf Tryz.f99) Nq ⟨mkE 42 0 [(0,dL b),(1,dI d)],[]⟩ (Ret (tlook tys) Tryz.f99.results.toList r H'):=
 ret_of' (Link.cast (by kernel_rfl) (by kernel_rfl) (link_seq (Nxf b d) (fun(t:Unit)=>(link_seq2 (link_seq (N115 b d) (fun(t:Unit)=>(link_block (fin2:=(Sum.elim (fun(t:Unit)=>(Exit.normal,⟨mkE 42 0 [(0,dL b),(1,dI d)],[]⟩)) (fun(t:Bool)=>(Exit.ret,⟨mkE 42 0 [(4,dB t)],[]⟩)))) (id:=0) (link_loop (mk:=fun(s:Int)=>⟨mkE 42 0 [(0,dL b),(1,dI d),(5,dI s)],[]⟩) (fin:=(Sum.elim (fun(t:Bool)=>(Exit.ret,⟨mkE 42 0 [(4,dB t)],[]⟩)) (fun(t:Unit)=>((Exit.exit 0),⟨mkE 42 0 [(0,dL b),(1,dI d)],[]⟩)))) (by
 rintro(t|t) f K h
 ·exact h
 ·exact h) (fun s=>link_map (link_seq2 (Nw2 b d s) (fun(t:Unit)=>(link_map (fin2:=(Sum.elim (fun(t:Int)=>(Exit.normal,⟨mkE 42 0 [(0,dL b),(1,dI d),(5,dI t)],[]⟩)) (Sum.elim (fun(t:Bool)=>(Exit.ret,⟨mkE 42 0 [(4,dB t)],[]⟩)) (fun(t:Unit)=>((Exit.exit 0),⟨mkE 42 0 [(0,dL b),(1,dI d)],[]⟩))))) (link_seq2 (link_block (fin2:=(Sum.elim (fun(t:Unit)=>(Exit.normal,⟨mkE 42 0 [(0,dL b),(1,dI d),(5,dI s)],[]⟩)) (fun(t:Bool)=>(Exit.ret,⟨mkE 42 0 [(4,dB t)],[]⟩)))) (id:=1) (link_group (c:=(cq [0,1,0,0,1,0,0,1,0,1] (bodyOf Tryz.f99))) (a:=(aq [0,1,0,0,1,0,0,1,0,1] Nq)) [(cq [0,0,0,1,0,0,1,0,1] (bodyOf Tryz.f99))] [(aq [0,0,0,1,0,0,1,0,1] Nq)] rfl (link_seq2 (N149 b d s) (fun(t:Unit)=>(link_block (fin2:=(Sum.elim (fun(t:Unit)=>(Exit.normal,⟨mkE 42 0 [(0,dL b),(1,dI d),(5,dI s)],[]⟩)) (fun(t:Bool)=>(Exit.ret,⟨mkE 42 0 [(4,dB t)],[]⟩)))) (id:=2) (link_loop (mk:=fun(s44:Int)=>⟨mkE 42 0 [(0,dL b),(1,dI d),(5,dI s),(6,dI s44)],[]⟩) (fin:=(Sum.elim (fun(t:Bool)=>(Exit.ret,⟨mkE 42 0 [(4,dB t)],[]⟩)) (fun(t:Unit)=>((Exit.exit 2),⟨mkE 42 0 [(0,dL b),(1,dI d),(5,dI s)],[]⟩)))) (by
 rintro(t|t) f K h
 ·exact h
 ·exact h) (fun s44=>link_map (Nvq b d s s44) (Sum.elim (fun(t:Int)=>Sum.inl t) (Sum.elim (fun(t:Bool)=>Sum.inr (Sum.inl t)) (fun(t:Unit)=>Sum.inr (Sum.inr t)))) (by
 rintro(t|t|t)
 ·kernel_rfl
 ·kernel_rfl
 ·kernel_rfl)) 0) (Sum.elim (fun(t:Bool)=>(Sum.inr t)) (fun(t:Unit)=>(Sum.inl ()))) (by
 rintro(t|t) K h
 ·exact Eq.mp (by kernel_rfl) h
 ·exact Eq.mp (by kernel_rfl) h))) (fun(t:Bool)=>(Sum.inr t)) (by
 rintro t
 ·kernel_rfl) (by
 rintro t f K h
 ·exact h))) (Sum.elim (fun(t:Unit)=>(Sum.inl ())) (fun(t:Bool)=>(Sum.inr t))) (by
 rintro(t|t) K h
 ·exact Eq.mp (by kernel_rfl) h
 ·exact Eq.mp (by kernel_rfl) h)) (fun(t:Unit)=>(link_map (fin2:=(Sum.elim (fun(t:Int)=>(Exit.normal,⟨mkE 42 0 [(0,dL b),(1,dI d),(5,dI t)],[]⟩)) (fun(t:Bool)=>(Exit.ret,⟨mkE 42 0 [(4,dB t)],[]⟩)))) (N114 b d s) (fun(t:Int)=>(Sum.inl t)) (by
 rintro t
 ·kernel_rfl))) (fun(t:Bool)=>(Sum.inr t)) (by
 rintro t
 ·kernel_rfl) (by
 rintro t f K h
 ·exact h)) (Sum.elim (fun(t:Int)=>(Sum.inl t)) (fun(t:Bool)=>(Sum.inr (Sum.inl t)))) (by
 rintro(t|t)
 ·kernel_rfl
 ·kernel_rfl))) (fun(t:Unit)=>(Sum.inr (Sum.inr t))) (by
 rintro t
 ·kernel_rfl) (by
 rintro t f K h
 ·exact h)) (Sum.elim (fun(t:Int)=>Sum.inl t) (Sum.elim (fun(t:Bool)=>Sum.inr (Sum.inl t)) (fun(t:Unit)=>Sum.inr (Sum.inr t)))) (by
 rintro(t|t|t)
 ·kernel_rfl
 ·kernel_rfl
 ·kernel_rfl)) 0) (Sum.elim (fun(t:Bool)=>(Sum.inr t)) (fun(t:Unit)=>(Sum.inl ()))) (by
 rintro(t|t) K h
 ·exact Eq.mp (by kernel_rfl) h
 ·exact Eq.mp (by kernel_rfl) h)))) (fun(t:Unit)=>(Nsz b d)) (fun(t:Bool)=>t) (by
 rintro t
 ·kernel_rfl) (by
 rintro t f K h
 ·exact h))))) (by unfold N4j;kernel_rfl) (by
 intro t
 exact ret_mk [dB t] (by kernel_rfl) (by kernel_rfl) (by kernel_rfl) (by kernel_rfl)) h
def Nfd:Fun:=fun avs H=>
 match avs,H with
 |[.dat (.list (.int .i64)) a,.dat (.int .i64) b],[]=>⟨_,N4j a b,fun(t:Bool)=>(dB t,[]),[],none⟩
 |_,_=>Ans.no
theorem Nx5:Sound Tryz.prog 99 Nfd:=by
 refine fn_sound' (C:=N1j) (c:=bodyOf Tryz.f99) (cok_of tys_ok (allc N77 alln) (allc Tryz.call51 alln) (by kernel_rfl)) Tryz.func99 (by kernel_rfl) LL Nq ?_
 intro avs H r H' h
 unfold Nfd at h
 split at h
 ·refine Awp.cast ?_ ?_ ?_ (N10z _ _ h)<;>kernel_rfl
 ·simp[Ans.no,Ans.run] at h
def Nf:Ann:=(.seq (.leaf [0,1]) (.seq (.seq (.leaf [0,1,19]) (.cond (.seq (.leaf [4,5]) (.leaf [4,5])) (.leaf [0,1]))) (.seq (.leaf [0,1,6]) (.seq (.seq (.leaf [0,1,6,7]) (.block (.loop (.seq (.seq (.leaf [0,1,6,7,28]) (.cond (.leaf [0,1,6,7]) (.leaf [0,1,6]))) (.seq (.block (.leaf [0,1,6,7])) (.leaf [0,1,6,7])))))) (.seq (.leaf [0,1,6,8]) (.seq (.seq (.leaf [0,1,6,8,9]) (.block (.loop (.seq (.seq (.leaf [0,1,6,8,9,43]) (.cond (.leaf [0,1,6,8,9]) (.leaf [8]))) (.seq (.block (.leaf [0,1,6,8,9])) (.leaf [0,1,6,8,9])))))) (.seq (.leaf [4,5]) (.leaf [4,5]))))))))
noncomputable def N1s:Ctx:=⟨tlook tys,olook [(27,N19),(99,Nfd)],ioF,0,false,[]⟩
theorem Ntw (a b:List Int):Link N1s LL (Code.seq (cq [0] (bodyOf Tryz.f65)) (Code.seq (cq [0,1] (bodyOf Tryz.f65)) (cq [0,1,1] (bodyOf Tryz.f65)))) (Ann.seq (aq [0] Nf) (Ann.seq (aq [0,1] Nf) (aq [0,1,1] Nf))) ⟨mkE 61 0 [(0,dL a),(1,dL b)],[]⟩ (Ncq a b) (Sum.elim (fun(t:(List Int))=>(Exit.normal,⟨mkE 61 0 [(0,dL a),(1,dL b),(6,.slc 0)],[some (sI t)]⟩)) (fun(t:Bool×(List Int))=>(Exit.ret,⟨mkE 61 0 [(4,.slc 0),(5,dB t.1)],[some (sI t.2)]⟩))):= .of fun K h=>by
 simp only[Ncq,wpW] at h
 exact .of (by kernel_rfl) h
theorem N15u (a b c:List Int):Link N1s LL (cq [0,0,1,1,1] (bodyOf Tryz.f65)) (aq [0,0,1,1,1] Nf) ⟨mkE 61 0 [(0,dL a),(1,dL b),(6,.slc 0)],[some (sI c)]⟩ (N9v) (fun(t:Unit)=>(Exit.normal,⟨mkE 61 0 [(0,dL a),(1,dL b),(6,.slc 0),(7,dI 0)],[some (sI c)]⟩)):= .of fun K h=>by
 simp only[N9v,wpW] at h
 exact .of (by kernel_rfl) h
theorem N12n (a b:List Int) (c:Int) (d:List Int):Link N1s LL (cq [0,0,1,0,1,1,1] (bodyOf Tryz.f65)) (aq [0,0,1,0,1,1,1] Nf) ⟨mkE 61 0 [(0,dL a),(1,dL b),(6,.slc 0),(7,dI c)],[some (sI d)]⟩ (N5y b c d) (Sum.elim (fun(t:Int×(List Int))=>(Exit.normal,⟨mkE 61 0 [(0,dL a),(1,dL b),(6,.slc 0),(7,dI t.1)],[some (sI t.2)]⟩)) (fun(t:(List Int))=>((Exit.exit 0),⟨mkE 61 0 [(0,dL a),(1,dL b),(6,.slc 0)],[some (sI t)]⟩))):= .of fun K h=>by
 simp only[N5y,wpW] at h
 exact .of (by kernel_rfl) h
theorem Nun (a b c:List Int):Link N1s LL (cq [0,1,1,1,1] (bodyOf Tryz.f65)) (aq [0,1,1,1,1] Nf) ⟨mkE 61 0 [(0,dL a),(1,dL b),(6,.slc 0)],[some (sI c)]⟩ (Nc0) (fun(t:Unit)=>(Exit.normal,⟨mkE 61 0 [(0,dL a),(1,dL b),(6,.slc 0),(8,.slc 1)],[some (sI c),some (sI ([]:List Int))]⟩)):= .of fun K h=>by
 simp only[Nc0,wpW] at h
 exact .of (by kernel_rfl) h
theorem Nxh (a b c:List Int):Link N1s LL (cq [0,0,1,1,1,1,1] (bodyOf Tryz.f65)) (aq [0,0,1,1,1,1,1] Nf) ⟨mkE 61 0 [(0,dL a),(1,dL b),(6,.slc 0),(8,.slc 1)],[some (sI c),some (sI ([]:List Int))]⟩ (Nbd) (fun(t:Unit)=>(Exit.normal,⟨mkE 61 0 [(0,dL a),(1,dL b),(6,.slc 0),(8,.slc 1),(9,dI 0)],[some (sI c),some (sI ([]:List Int))]⟩)):= .of fun K h=>by
 simp only[Nbd,wpW] at h
 exact .of (by kernel_rfl) h
theorem N144 (a b:List Int) (c:Int) (d g:List Int):Link N1s LL (cq [0,0,1,0,1,1,1,1,1] (bodyOf Tryz.f65)) (aq [0,0,1,0,1,1,1,1,1] Nf) ⟨mkE 61 0 [(0,dL a),(1,dL b),(6,.slc 0),(8,.slc 1),(9,dI c)],[some (sI d),some (sI g)]⟩ (N74 a b c d g) (Sum.elim (fun(t:Int×(List Int))=>(Exit.normal,⟨mkE 61 0 [(0,dL a),(1,dL b),(6,.slc 0),(8,.slc 1),(9,dI t.1)],[some (sI d),some (sI t.2)]⟩)) (fun(t:(List Int))=>((Exit.exit 2),⟨mkE 61 0 [(8,.slc 0)],[some (sI t)]⟩))):= .of fun K h=>by
 simp only[N74,wpW] at h
 exact .of (by kernel_rfl) h
theorem Npl (a:List Int):Link N1s LL (cq [1,1,1,1,1,1] (bodyOf Tryz.f65)) (aq [1,1,1,1,1,1] Nf) ⟨mkE 61 0 [(8,.slc 0)],[some (sI a)]⟩ (N98 a) (fun(t:Bool×(List Int))=>(Exit.ret,⟨mkE 61 0 [(4,.slc 0),(5,dB t.1)],[some (sI t.2)]⟩)):= .of fun K h=>by
 simp only[N98,wpW] at h
 exact .of (by kernel_rfl) h
theorem N10b (b d:List Int) {r:AV} {H':Heap} (h:(Ans.mk _ (N42 b d) (fun(t:Bool×(List Int))=>(.tup [.slc 0,dB t.1],[some (sI t.2)])) [] none).run=some (r,H')):Awp N1s LL (bodyOf Tryz.f65) Nf ⟨mkE 61 0 [(0,dL b),(1,dL d)],[]⟩ (Ret (tlook tys) Tryz.f65.results.toList r H'):=
 ret_of' (Link.cast (by kernel_rfl) (by kernel_rfl) (link_group (c:=(cq [0,1,1] (bodyOf Tryz.f65))) (a:=(aq [0,1,1] Nf)) [(cq [0] (bodyOf Tryz.f65)),(cq [0,1] (bodyOf Tryz.f65))] [(aq [0] Nf),(aq [0,1] Nf)] rfl (link_seq2 (Ntw b d) (fun(t:(List Int))=>(link_seq (link_seq (N15u b d t) (fun(t45:Unit)=>(link_block (fin2:=(fun(t45:(List Int))=>(Exit.normal,⟨mkE 61 0 [(0,dL b),(1,dL d),(6,.slc 0)],[some (sI t45)]⟩))) (id:=0) (link_loop (mk:=fun(s:Int×(List Int))=>⟨mkE 61 0 [(0,dL b),(1,dL d),(6,.slc 0),(7,dI s.1)],[some (sI s.2)]⟩) (fin:=(fun(t45:(List Int))=>((Exit.exit 0),⟨mkE 61 0 [(0,dL b),(1,dL d),(6,.slc 0)],[some (sI t45)]⟩))) (by
 rintro t45 f K h
 ·exact h) (fun s=>link_map (N12n b d s.1 s.2) (Sum.elim (fun(t45:Int×(List Int))=>Sum.inl (t45.1,t45.2)) (fun(t45:(List Int))=>Sum.inr t45)) (by
 rintro(t45|t45)
 ·kernel_rfl
 ·kernel_rfl)) (0,t)) (fun(t45:(List Int))=>t45) (by
 rintro t45 K h
 ·exact Eq.mp (by kernel_rfl) h)))) (fun(t45:(List Int))=>(link_seq (Nun b d t45) (fun(t:Unit)=>(link_seq (link_seq (Nxh b d t45) (fun(t:Unit)=>(link_block (fin2:=(fun(t:(List Int))=>(Exit.normal,⟨mkE 61 0 [(8,.slc 0)],[some (sI t)]⟩))) (id:=2) (link_loop (mk:=fun(s:Int×(List Int))=>⟨mkE 61 0 [(0,dL b),(1,dL d),(6,.slc 0),(8,.slc 1),(9,dI s.1)],[some (sI t45),some (sI s.2)]⟩) (fin:=(fun(t:(List Int))=>((Exit.exit 2),⟨mkE 61 0 [(8,.slc 0)],[some (sI t)]⟩))) (by
 rintro t f K h
 ·exact h) (fun s=>link_map (N144 b d s.1 t45 s.2) (Sum.elim (fun(t:Int×(List Int))=>Sum.inl (t.1,t.2)) (fun(t:(List Int))=>Sum.inr t)) (by
 rintro(t|t)
 ·kernel_rfl
 ·kernel_rfl)) (0,([]:List Int))) (fun(t:(List Int))=>t) (by
 rintro t K h
 ·exact Eq.mp (by kernel_rfl) h)))) (fun(t:(List Int))=>(Npl t)))))))) (fun(t:Bool×(List Int))=>t) (by
 rintro t
 ·kernel_rfl) (by
 rintro t f K h
 ·exact h)))) (by unfold N42;kernel_rfl) (by
 intro t
 exact ret_mk [.slc 0,dB t.1] (by kernel_rfl) (by kernel_rfl) (by kernel_rfl) (by kernel_rfl)) h
def Nb9:Fun:=fun avs H=>
 match avs,H with
 |[.dat (.list (.int .i64)) a,.dat (.list (.int .i64)) b],[]=>⟨_,N42 a b,fun(t:Bool×(List Int))=>(.tup [.slc 0,dB t.1],[some (sI t.2)]),[],none⟩
 |_,_=>Ans.no
theorem Nog:Sound Tryz.prog 65 Nb9:=by
 refine fn_sound' (C:=N1s) (c:=bodyOf Tryz.f65) (cok_of tys_ok (allc N2j (allc Nx5 alln)) (allc Tryz.call27 (allc Tryz.call99 alln)) (by kernel_rfl)) Tryz.func65 (by kernel_rfl) LL Nf ?_
 intro avs H r H' h
 unfold Nb9 at h
 split at h
 ·refine Awp.cast ?_ ?_ ?_ (N10b _ _ h)<;>kernel_rfl
 ·simp[Ans.no,Ans.run] at h
def Nh:Ann:=(.seq (.seq (.leaf [0,1,2,3,4,16]) (.cond (.leaf []) (.leaf [0,1,2,3,4]))) (.seq (.leaf [0,1,2,3,4,10]) (.seq (.leaf [0,1,2,3,10]) (.seq (.leaf [0,1,3,10,11]) (.seq (.block (.loop (.seq (.seq (.leaf [0,1,3,10,11,33]) (.cond (.leaf [0,1,3,10,11]) (.leaf [0,1,3,10]))) (.block (.seq (.leaf [0,1,3,10,11,12]) (.seq (.leaf [0,1,3,10,12]) (.leaf [0,1,3,10,11]))))))) (.seq (.leaf [0,1,3,10,11]) (.block (.loop (.seq (.seq (.leaf [0,1,3,10,11,53]) (.cond (.leaf [0,1,3,10,11]) (.leaf []))) (.block (.seq (.leaf [0,1,3,10,11,13]) (.seq (.leaf [0,1,3,10,13]) (.leaf [0,1,3,10,11])))))))))))))
def N1t (n:Nat):Fun:=fun avs H=>
 match avs,H with
 |[.ptr 0 0,.slc 1,.dat (.int .i64) a,.dat (.int .i64) b,.dat (.int .i64) c],[some (.box [.dat (.list (.int .u8)) d,.dat (.int .i64) g]),some (.seq (.int .i64) i)]=>⟨_,N1d n a b c d g i,fun(t:Int×(List Int))=>(.tup [],[some (.box [dV d,dI t.1]),some (sI t.2)]),[],none⟩
 |_,_=>Ans.no
noncomputable def N4m (n:Nat):Ctx:=⟨tlook tys,olook [(19,Ni),(100,N1t n)],ioF,2,false,[]⟩
theorem Nwy (n:Nat) (a b c:Int) (d:List Int) (g:Int) (i:List Int):Link (N4m n) LL (Code.seq (cq [0] (bodyOf Tryz.f100)) (Code.seq (cq [0,1] (bodyOf Tryz.f100)) (Code.seq (cq [0,1,1] (bodyOf Tryz.f100)) (cq [0,1,1,1] (bodyOf Tryz.f100))))) (Ann.seq (aq [0] Nh) (Ann.seq (aq [0,1] Nh) (Ann.seq (aq [0,1,1] Nh) (aq [0,1,1,1] Nh)))) ⟨mkE 70 0 [(0,.ptr 0 0),(1,.slc 1),(2,dI a),(3,dI b),(4,dI c)],[some (.box [dV d,dI g]),some (sI i)]⟩ (Nch (N1d n) a b c d g i) (Sum.elim (fun(t:Int×Int×(List Int))=>(Exit.normal,⟨mkE 70 0 [(0,.ptr 0 0),(1,.slc 1),(3,dI b),(10,dI t.1),(11,dI a)],[some (.box [dV d,dI t.2.1]),some (sI t.2.2)]⟩)) (fun(t:Int×(List Int))=>(Exit.ret,⟨mkE 70 0 [],[some (.box [dV d,dI t.1]),some (sI t.2)]⟩))):= .of fun K h=>by
 simp only[Nch,wpW] at h
 exact .of (by kernel_rfl) h
theorem Nqd (n:Nat) (a b c:Int) (d:List Int) (g:Int) (i:List Int):Link (N4m n) LL (cq [0,0,0,1,1,1,1] (bodyOf Tryz.f100)) (aq [0,0,0,1,1,1,1] Nh) ⟨mkE 70 0 [(0,.ptr 0 0),(1,.slc 1),(3,dI a),(10,dI b),(11,dI c)],[some (.box [dV d,dI g]),some (sI i)]⟩ (N6k (N1d n) b c d g i) (Sum.elim (fun(t:Int×Int×(List Int))=>(Exit.normal,⟨mkE 70 0 [(0,.ptr 0 0),(1,.slc 1),(3,dI a),(10,dI b),(11,dI t.1)],[some (.box [dV d,dI t.2.1]),some (sI t.2.2)]⟩)) (fun(t:Int×(List Int))=>((Exit.exit 0),⟨mkE 70 0 [(0,.ptr 0 0),(1,.slc 1),(3,dI a),(10,dI b)],[some (.box [dV d,dI t.1]),some (sI t.2)]⟩))):= .of fun K h=>by
 simp only[N6k,wpW] at h
 exact .of (by kernel_rfl) h
theorem Nql (n:Nat) (a b:Int) (c:List Int) (d:Int) (g:List Int):Link (N4m n) LL (cq [0,1,1,1,1,1] (bodyOf Tryz.f100)) (aq [0,1,1,1,1,1] Nh) ⟨mkE 70 0 [(0,.ptr 0 0),(1,.slc 1),(3,dI a),(10,dI b)],[some (.box [dV c,dI d]),some (sI g)]⟩ (Na2 (N1d n) b) (fun(t:Int)=>(Exit.normal,⟨mkE 70 0 [(0,.ptr 0 0),(1,.slc 1),(3,dI a),(10,dI b),(11,dI t)],[some (.box [dV c,dI d]),some (sI g)]⟩)):= .of fun K h=>by
 simp only[Na2,wpW] at h
 exact .of (by kernel_rfl) h
theorem N14y (n:Nat) (a b c:Int) (d:List Int) (g:Int) (i:List Int):Link (N4m n) LL (cq [0,0,1,1,1,1,1,1] (bodyOf Tryz.f100)) (aq [0,0,1,1,1,1,1,1] Nh) ⟨mkE 70 0 [(0,.ptr 0 0),(1,.slc 1),(3,dI a),(10,dI b),(11,dI c)],[some (.box [dV d,dI g]),some (sI i)]⟩ (N6z (N1d n) a b c d g i) (Sum.elim (fun(t:Int×Int×(List Int))=>(Exit.normal,⟨mkE 70 0 [(0,.ptr 0 0),(1,.slc 1),(3,dI a),(10,dI b),(11,dI t.1)],[some (.box [dV d,dI t.2.1]),some (sI t.2.2)]⟩)) (fun(t:Int×(List Int))=>((Exit.exit 2),⟨mkE 70 0 [],[some (.box [dV d,dI t.1]),some (sI t.2)]⟩))):= .of fun K h=>by
 simp only[N6z,wpW] at h
 exact .of (by kernel_rfl) h
theorem Nt2 (n:Nat) (b d g:Int) (i:List Int) (j:Int) (k:List Int) {r:AV} {H':Heap} (h:(Ans.mk _ (N1d (n+1) b d g i j k) (fun(t:Int×(List Int))=>(.tup [],[some (.box [dV i,dI t.1]),some (sI t.2)])) [] none).run=some (r,H')):Awp (N4m n) LL (bodyOf Tryz.f100) Nh ⟨mkE 70 0 [(0,.ptr 0 0),(1,.slc 1),(2,dI b),(3,dI d),(4,dI g)],[some (.box [dV i,dI j]),some (sI k)]⟩ (Ret (tlook tys) Tryz.f100.results.toList r H'):=
 ret_of (Link.cast (by kernel_rfl) (by kernel_rfl) (link_group (c:=(cq [0,1,1,1] (bodyOf Tryz.f100))) (a:=(aq [0,1,1,1] Nh)) [(cq [0] (bodyOf Tryz.f100)),(cq [0,1] (bodyOf Tryz.f100)),(cq [0,1,1] (bodyOf Tryz.f100))] [(aq [0] Nh),(aq [0,1] Nh),(aq [0,1,1] Nh)] rfl (link_seq2 (Nwy n b d g i j k) (fun(t:Int×Int×(List Int))=>(link_map (fin2:=(Sum.elim (fun(t:Int×(List Int))=>(Exit.normal,⟨mkE 70 0 [],[some (.box [dV i,dI t.1]),some (sI t.2)]⟩)) (fun(t:Int×(List Int))=>(Exit.ret,⟨mkE 70 0 [],[some (.box [dV i,dI t.1]),some (sI t.2)]⟩)))) (link_seq (link_block (fin2:=(fun(t55:Int×(List Int))=>(Exit.normal,⟨mkE 70 0 [(0,.ptr 0 0),(1,.slc 1),(3,dI d),(10,dI t.1)],[some (.box [dV i,dI t55.1]),some (sI t55.2)]⟩))) (id:=0) (link_loop (mk:=fun(s:Int×Int×(List Int))=>⟨mkE 70 0 [(0,.ptr 0 0),(1,.slc 1),(3,dI d),(10,dI t.1),(11,dI s.1)],[some (.box [dV i,dI s.2.1]),some (sI s.2.2)]⟩) (fin:=(fun(t55:Int×(List Int))=>((Exit.exit 0),⟨mkE 70 0 [(0,.ptr 0 0),(1,.slc 1),(3,dI d),(10,dI t.1)],[some (.box [dV i,dI t55.1]),some (sI t55.2)]⟩))) (by
 rintro t55 f K h
 ·exact h) (fun s=>link_map (Nqd n d t.1 s.1 i s.2.1 s.2.2) (Sum.elim (fun(t55:Int×Int×(List Int))=>Sum.inl (t55.1,t55.2.1,t55.2.2)) (fun(t55:Int×(List Int))=>Sum.inr t55)) (by
 rintro(t55|t55)
 ·kernel_rfl
 ·kernel_rfl)) (b,t.2.1,t.2.2)) (fun(t55:Int×(List Int))=>(t55.1,t55.2)) (by
 rintro t55 K h
 ·exact Eq.mp (by kernel_rfl) h)) (fun(t55:Int×(List Int))=>(link_seq (Nql n d t.1 i t55.1 t55.2) (fun(t4:Int)=>(link_block (fin2:=(fun(t46:Int×(List Int))=>(Exit.normal,⟨mkE 70 0 [],[some (.box [dV i,dI t46.1]),some (sI t46.2)]⟩))) (id:=2) (link_loop (mk:=fun(s:Int×Int×(List Int))=>⟨mkE 70 0 [(0,.ptr 0 0),(1,.slc 1),(3,dI d),(10,dI t.1),(11,dI s.1)],[some (.box [dV i,dI s.2.1]),some (sI s.2.2)]⟩) (fin:=(fun(t46:Int×(List Int))=>((Exit.exit 2),⟨mkE 70 0 [],[some (.box [dV i,dI t46.1]),some (sI t46.2)]⟩))) (by
 rintro t46 f K h
 ·exact h) (fun s=>link_map (N14y n d t.1 s.1 i s.2.1 s.2.2) (Sum.elim (fun(t46:Int×Int×(List Int))=>Sum.inl (t46.1,t46.2.1,t46.2.2)) (fun(t46:Int×(List Int))=>Sum.inr t46)) (by
 rintro(t46|t46)
 ·kernel_rfl
 ·kernel_rfl)) (t4,t55.1,t55.2)) (fun(t46:Int×(List Int))=>(t46.1,t46.2)) (by
 rintro t46 K h
 ·exact Eq.mp (by kernel_rfl) h)))))) (fun(u:Int×(List Int))=>(Sum.inl (u.1,u.2))) (by
 rintro t
 ·kernel_rfl))) (fun(t:Int×(List Int))=>(Sum.inr t)) (by
 rintro t
 ·kernel_rfl) (by
 rintro t f K h
 ·exact h)))) (Sum.elim (fun(t:Int×(List Int))=>(t.1,t.2)) (fun(t:Int×(List Int))=>t)) (by(show _=_);kernel_rfl) (by
 rintro(t|t)
 ·exact ret_mk [] (by kernel_rfl) (by kernel_rfl) (by kernel_rfl) (by kernel_rfl)
 ·exact ret_mk [] (by kernel_rfl) (by kernel_rfl) (by kernel_rfl) (by kernel_rfl)) h
theorem Nza (n:Nat) (h100:Sound Tryz.prog 100 (N1t n)):Sound Tryz.prog 100 (N1t (n+1)):=by
 refine fn_sound' (C:=N4m n) (c:=bodyOf Tryz.f100) (cok_of tys_ok (allc Nz (allc h100 alln)) (allc Tryz.call19 (allc Tryz.call100 alln)) (by kernel_rfl)) Tryz.func100 (by kernel_rfl) LL Nh ?_
 intro avs H r H' h
 unfold N1t at h
 split at h
 ·refine Awp.cast ?_ ?_ ?_ (Nt2 n _ _ _ _ _ _ h)<;>kernel_rfl
 ·simp[Ans.no,Ans.run] at h
theorem N11t:Sound Tryz.prog 100 (N1t 0):=by
 intro avs H r H' h
 unfold N1t at h
 split at h
 ·simp[N1d,N3l,Ans.run] at h
 ·simp[Ans.no,Ans.run] at h
theorem Nk6: ∀n,Sound Tryz.prog 100 (N1t n)
 |0=>N11t
 |n+1=>by
  have h100:=Nk6 n
  exact Nza n h100
def N7s:Fun:=fun avs H=>
 match avs,H with
 |[.ptr 0 0,.slc 1,.dat (.int .i64) a,.dat (.int .i64) b,.dat (.int .i64) c],[some (.box [.dat (.list (.int .u8)) d,.dat (.int .i64) g]),some (.seq (.int .i64) i)]=>⟨_,N7i a b c d g i,fun(t:Int×(List Int))=>(.tup [],[some (.box [dV d,dI t.1]),some (sI t.2)]),[],none⟩
 |_,_=>Ans.no
theorem Nw4:Sound Tryz.prog 100 N7s:=by
 have e:N7s=N1t RR:=by
  funext avs H
  unfold N7s N1t
  split<;>first|rfl|(simp only[N7i])
 rw[e]
 exact(Nk6 RR)
def Ne6:Ann:=(.seq (.leaf [0,1]) (.seq (.seq (.leaf [0,1,9]) (.cond (.seq (.leaf [4]) (.leaf [4])) (.leaf [0]))) (.seq (.leaf [0,5]) (.seq (.leaf [0,5,6]) (.seq (.leaf [6]) (.seq (.leaf [4]) (.leaf [4])))))))
noncomputable def Ne7:Ctx:=⟨tlook tys,olook [(19,Ni),(64,Nbi),(100,N7s)],ioF,1,false,[]⟩
theorem Nvg (a:Int) (b:List Int) (c:Int):Link Ne7 LL (bodyOf Tryz.f67) Ne6 ⟨mkE 23 0 [(0,.ptr 0 0),(1,dI a)],[some (.box [dV b,dI c])]⟩ (N78 a b c) (fun(t:Int×(List Int))=>(Exit.ret,⟨mkE 23 0 [(4,.slc 1)],[some (.box [dV b,dI t.1]),some (sI t.2)]⟩)):= .of fun K h=>by
 simp only[N78,wpW] at h
 exact .of (by kernel_rfl) h
theorem Nzv (a:Int) (b:List Int) (c:Int) {r:AV} {H':Heap} (h:(Ans.mk _ (N1x a b c) (fun(t:Int×(List Int))=>(.slc 1,[some (.box [dV b,dI t.1]),some (sI t.2)])) [] none).run=some (r,H')):Awp Ne7 LL (bodyOf Tryz.f67) Ne6 ⟨mkE 23 0 [(0,.ptr 0 0),(1,dI a)],[some (.box [dV b,dI c])]⟩ (Ret (tlook tys) Tryz.f67.results.toList r H'):=
 ret_of' (Nvg a b c) (by unfold N1x;kernel_rfl) (by
 intro t
 exact ret_mk [.slc 1] (by kernel_rfl) (by kernel_rfl) (by kernel_rfl) (by kernel_rfl)) h
def Nhv:Fun:=fun avs H=>
 match avs,H with
 |[.ptr 0 0,.dat (.int .i64) a],[some (.box [.dat (.list (.int .u8)) b,.dat (.int .i64) c])]=>⟨_,N1x a b c,fun(t:Int×(List Int))=>(.slc 1,[some (.box [dV b,dI t.1]),some (sI t.2)]),[],none⟩
 |_,_=>Ans.no
theorem Nqm:Sound Tryz.prog 67 Nhv:=by
 refine fn_sound' (C:=Ne7) (c:=bodyOf Tryz.f67) (cok_of tys_ok (allc Nz (allc Nja (allc Nw4 alln))) (allc Tryz.call19 (allc Tryz.call64 (allc Tryz.call100 alln))) (by kernel_rfl)) Tryz.func67 (by kernel_rfl) LL Ne6 ?_
 intro avs H r H' h
 unfold Nhv at h
 split at h
 ·refine Awp.cast ?_ ?_ ?_ (Nzv _ _ _ h)<;>kernel_rfl
 ·simp[Ans.no,Ans.run] at h
def Nh0:Ann:=(.seq (.leaf [0,1]) (.seq (.leaf [0,1,5]) (.seq (.seq (.leaf [0,1,5,17]) (.cond (.seq (.leaf [6]) (.seq (.leaf [4]) (.leaf [4]))) (.leaf [0,1,5]))) (.seq (.seq (.leaf [0,1,5,30]) (.cond (.seq (.leaf [4]) (.leaf [4])) (.leaf [5]))) (.seq (.leaf [4]) (.leaf [4]))))))
noncomputable def Ncv:Ctx:=⟨tlook tys,olook [(64,Nbi),(19,Ni),(27,N19),(66,Nci),(65,Nb9),(67,Nhv)],ioF,1,false,[]⟩
theorem Nzs (a:Int) (b:List Int) (c:Int):Link Ncv LL (bodyOf Tryz.f41) Nh0 ⟨mkE 35 0 [(0,.ptr 0 0),(1,dI a)],[some (.box [dV b,dI c])]⟩ (N6x a b c) (fun(t:Int×(List Int))=>(Exit.ret,⟨mkE 35 0 [(4,.slc 1)],[some (.box [dV b,dI t.1]),some (sI t.2)]⟩)):= .of fun K h=>by
 simp only[N6x,wpW] at h
 exact .of (by kernel_rfl) h
theorem Nzl (a:Int) (b:List Int) (c:Int) {r:AV} {H':Heap} (h:(Ans.mk _ (N2u a b c) (fun(t:Int×(List Int))=>(.slc 1,[some (.box [dV b,dI t.1]),some (sI t.2)])) [] none).run=some (r,H')):Awp Ncv LL (bodyOf Tryz.f41) Nh0 ⟨mkE 35 0 [(0,.ptr 0 0),(1,dI a)],[some (.box [dV b,dI c])]⟩ (Ret (tlook tys) Tryz.f41.results.toList r H'):=
 ret_of' (Nzs a b c) (by unfold N2u;kernel_rfl) (by
 intro t
 exact ret_mk [.slc 1] (by kernel_rfl) (by kernel_rfl) (by kernel_rfl) (by kernel_rfl)) h
def Nan:Fun:=fun avs H=>
 match avs,H with
 |[.ptr 0 0,.dat (.int .i64) a],[some (.box [.dat (.list (.int .u8)) b,.dat (.int .i64) c])]=>⟨_,N2u a b c,fun(t:Int×(List Int))=>(.slc 1,[some (.box [dV b,dI t.1]),some (sI t.2)]),[],none⟩
 |_,_=>Ans.no
theorem Nj7:Sound Tryz.prog 41 Nan:=by
 refine fn_sound' (C:=Ncv) (c:=bodyOf Tryz.f41) (cok_of tys_ok (allc Nja (allc Nz (allc N2j (allc Nkm (allc Nog (allc Nqm alln)))))) (allc Tryz.call64 (allc Tryz.call19 (allc Tryz.call27 (allc Tryz.call66 (allc Tryz.call65 (allc Tryz.call67 alln)))))) (by kernel_rfl)) Tryz.func41 (by kernel_rfl) LL Nh0 ?_
 intro avs H r H' h
 unfold Nan at h
 split at h
 ·refine Awp.cast ?_ ?_ ?_ (Nzl _ _ _ h)<;>kernel_rfl
 ·simp[Ans.no,Ans.run] at h
def Ndl:Ann:=(.seq (.leaf [0,1,4]) (.seq (.draw [0,3,4] [0,1,5,2,3,4,6,7,8,9,10,11,12] [] [0,1,4,5]) (.seq (.seq (.leaf [0,1,4,5,18]) (.block (.seq (.leaf [0,1,4,5,18,19]) (.cond (.seq (.leaf [0,1,4,5]) (.leaf [0,4,5])) (.seq (.leaf [0,1,4,5,34]) (.cond (.leaf [0,4,5]) (.leaf [0,4,5]))))))) (.seq (.seq (.leaf [0,4,5,47]) (.cond (.leaf [4,5]) (.leaf [4,5]))) (.seq (.leaf [4]) (.leaf [4]))))))
noncomputable def Ne2:Ctx:=⟨tlook tys,olook [(19,Ni),(25,N5p)],ioF,1,false,[]⟩
theorem Npw (a b:List Int) (c:Int):Link Ne2 LL (bodyOf Tryz.f50) Ndl ⟨mkE 55 0 [(0,.ptr 0 0),(1,dL a)],[some (.box [dV b,dI c])]⟩ (N6e a b c) (fun(t:Int×Int×Int×Int)=>(Exit.ret,⟨mkE 55 0 [(4,.ptr 1 0)],[some (.box [dV b,dI t.1]),some (.box [dI t.2.1,dI t.2.2.1,dI t.2.2.2])]⟩)):= .of fun K h=>by
 simp only[N6e,wpW] at h
 exact .of (by kernel_rfl) h
theorem Nr8 (a b:List Int) (c:Int) {r:AV} {H':Heap} (h:(Ans.mk _ (N1m a b c) (fun(t:Int×Int×Int×Int)=>(.agg [dI t.2.1,dI t.2.2.1,dI t.2.2.2],[some (.box [dV b,dI t.1]),some (.box [dI t.2.1,dI t.2.2.1,dI t.2.2.2])])) [] none).run=some (r,H')):Awp Ne2 LL (bodyOf Tryz.f50) Ndl ⟨mkE 55 0 [(0,.ptr 0 0),(1,dL a)],[some (.box [dV b,dI c])]⟩ (Ret (tlook tys) Tryz.f50.results.toList r H'):=
 ret_of' (Npw a b c) (by unfold N1m;kernel_rfl) (by
 intro t
 exact ret_mk [.agg [dI t.2.1,dI t.2.2.1,dI t.2.2.2]] (by kernel_rfl) (by kernel_rfl) (by kernel_rfl) (by kernel_rfl)) h
def N8a:Fun:=fun avs H=>
 match avs,H with
 |[.ptr 0 0,.dat (.list (.int .i64)) a],[some (.box [.dat (.list (.int .u8)) b,.dat (.int .i64) c])]=>⟨_,N1m a b c,fun(t:Int×Int×Int×Int)=>(.agg [dI t.2.1,dI t.2.2.1,dI t.2.2.2],[some (.box [dV b,dI t.1]),some (.box [dI t.2.1,dI t.2.2.1,dI t.2.2.2])]),[],none⟩
 |_,_=>Ans.no
theorem Nn7:Sound Tryz.prog 50 N8a:=by
 refine fn_sound' (C:=Ne2) (c:=bodyOf Tryz.f50) (cok_of tys_ok (allc Nz (allc Nae alln)) (allc Tryz.call19 (allc Tryz.call25 alln)) (by kernel_rfl)) Tryz.func50 (by kernel_rfl) LL Ndl ?_
 intro avs H r H' h
 unfold N8a at h
 split at h
 ·refine Awp.cast ?_ ?_ ?_ (Nr8 _ _ _ h)<;>kernel_rfl
 ·simp[Ans.no,Ans.run] at h
def N1y:Ann:=(.seq (.leaf [0,1]) (.seq (.leaf [0,1,5]) (.seq (.seq (.leaf [0,1,5,6]) (.block (.loop (.seq (.seq (.leaf [0,1,5,6,11]) (.cond (.leaf [0,1,5,6]) (.leaf [5]))) (.seq (.block (.leaf [0,1,5,6])) (.leaf [0,1,5,6])))))) (.seq (.leaf [4]) (.leaf [4])))))
noncomputable def N58:Ctx:=⟨tlook tys,olook [(19,Ni),(50,N8a)],ioF,1,false,[]⟩
theorem N11z (a b:List Int) (c:Int):Link N58 LL (Code.seq (cq [0] (bodyOf Tryz.f26)) (cq [0,1] (bodyOf Tryz.f26))) (Ann.seq (aq [0] N1y) (aq [0,1] N1y)) ⟨mkE 21 0 [(0,.ptr 0 0),(1,dL a)],[some (.box [dV b,dI c])]⟩ (Nbs) (fun(t:Unit)=>(Exit.normal,⟨mkE 21 0 [(0,.ptr 0 0),(1,dL a),(5,.slc 1)],[some (.box [dV b,dI c]),some (.seq (.pair (.int .i64) (.pair (.int .i64) (.pair (.int .i64) .unit))) ([]:List (Int×Int×Int×Unit)))]⟩)):= .of fun K h=>by
 simp only[Nbs,wpW] at h
 exact .of (by kernel_rfl) h
theorem N10w (a b:List Int) (c:Int):Link N58 LL (cq [0,0,1,1] (bodyOf Tryz.f26)) (aq [0,0,1,1] N1y) ⟨mkE 21 0 [(0,.ptr 0 0),(1,dL a),(5,.slc 1)],[some (.box [dV b,dI c]),some (.seq (.pair (.int .i64) (.pair (.int .i64) (.pair (.int .i64) .unit))) ([]:List (Int×Int×Int×Unit)))]⟩ (Nap b c) (fun(t:Int×Int)=>(Exit.normal,⟨mkE 21 0 [(0,.ptr 0 0),(1,dL a),(5,.slc 1),(6,dI t.1)],[some (.box [dV b,dI t.2]),some (.seq (.pair (.int .i64) (.pair (.int .i64) (.pair (.int .i64) .unit))) ([]:List (Int×Int×Int×Unit)))]⟩)):= .of fun K h=>by
 simp only[Nap,wpW] at h
 exact .of (by kernel_rfl) h
theorem Nrn (a:List Int) (b:Int) (c:List Int) (d:Int) (g:List (Int×Int×Int×Unit)):Link N58 LL (cq [0,0,1,0,1,1] (bodyOf Tryz.f26)) (aq [0,0,1,0,1,1] N1y) ⟨mkE 21 0 [(0,.ptr 0 0),(1,dL a),(5,.slc 1),(6,dI b)],[some (.box [dV c,dI d]),some (.seq (.pair (.int .i64) (.pair (.int .i64) (.pair (.int .i64) .unit))) g)]⟩ (N6v a b c d g) (Sum.elim (fun(t:Int×Int×(List (Int×Int×Int×Unit)))=>(Exit.normal,⟨mkE 21 0 [(0,.ptr 0 0),(1,dL a),(5,.slc 1),(6,dI t.1)],[some (.box [dV c,dI t.2.1]),some (.seq (.pair (.int .i64) (.pair (.int .i64) (.pair (.int .i64) .unit))) t.2.2)]⟩)) (fun(t:Int×(List (Int×Int×Int×Unit)))=>((Exit.exit 0),⟨mkE 21 0 [(5,.slc 1)],[some (.box [dV c,dI t.1]),some (.seq (.pair (.int .i64) (.pair (.int .i64) (.pair (.int .i64) .unit))) t.2)]⟩))):= .of fun K h=>by
 simp only[N6v,wpW] at h
 exact .of (by kernel_rfl) h
theorem Nyi (a:List Int) (b:Int) (c:List (Int×Int×Int×Unit)):Link N58 LL (cq [1,1,1] (bodyOf Tryz.f26)) (aq [1,1,1] N1y) ⟨mkE 21 0 [(5,.slc 1)],[some (.box [dV a,dI b]),some (.seq (.pair (.int .i64) (.pair (.int .i64) (.pair (.int .i64) .unit))) c)]⟩ (Nct b c) (fun(t:Int×(List (Int×Int×Int×Unit)))=>(Exit.ret,⟨mkE 21 0 [(4,.slc 1)],[some (.box [dV a,dI t.1]),some (.seq (.pair (.int .i64) (.pair (.int .i64) (.pair (.int .i64) .unit))) t.2)]⟩)):= .of fun K h=>by
 simp only[Nct,wpW] at h
 exact .of (by kernel_rfl) h
theorem N152 (b d:List Int) (g:Int) {r:AV} {H':Heap} (h:(Ans.mk _ (N2p b d g) (fun(t:Int×(List (Int×Int×Int×Unit)))=>(.slc 1,[some (.box [dV d,dI t.1]),some (.seq (.pair (.int .i64) (.pair (.int .i64) (.pair (.int .i64) .unit))) t.2)])) [] none).run=some (r,H')):Awp N58 LL (bodyOf Tryz.f26) N1y ⟨mkE 21 0 [(0,.ptr 0 0),(1,dL b)],[some (.box [dV d,dI g])]⟩ (Ret (tlook tys) Tryz.f26.results.toList r H'):=
 ret_of' (Link.cast (by kernel_rfl) (by kernel_rfl) (link_group (c:=(cq [0,1] (bodyOf Tryz.f26))) (a:=(aq [0,1] N1y)) [(cq [0] (bodyOf Tryz.f26))] [(aq [0] N1y)] rfl (link_seq (N11z b d g) (fun(t:Unit)=>(link_seq (link_seq (N10w b d g) (fun(t:Int×Int)=>(link_block (fin2:=(fun(t23:Int×(List (Int×Int×Int×Unit)))=>(Exit.normal,⟨mkE 21 0 [(5,.slc 1)],[some (.box [dV d,dI t23.1]),some (.seq (.pair (.int .i64) (.pair (.int .i64) (.pair (.int .i64) .unit))) t23.2)]⟩))) (id:=0) (link_loop (mk:=fun(s:Int×Int×(List (Int×Int×Int×Unit)))=>⟨mkE 21 0 [(0,.ptr 0 0),(1,dL b),(5,.slc 1),(6,dI s.1)],[some (.box [dV d,dI s.2.1]),some (.seq (.pair (.int .i64) (.pair (.int .i64) (.pair (.int .i64) .unit))) s.2.2)]⟩) (fin:=(fun(t23:Int×(List (Int×Int×Int×Unit)))=>((Exit.exit 0),⟨mkE 21 0 [(5,.slc 1)],[some (.box [dV d,dI t23.1]),some (.seq (.pair (.int .i64) (.pair (.int .i64) (.pair (.int .i64) .unit))) t23.2)]⟩))) (by
 rintro t23 f K h
 ·exact h) (fun s=>link_map (Nrn b s.1 d s.2.1 s.2.2) (Sum.elim (fun(t23:Int×Int×(List (Int×Int×Int×Unit)))=>Sum.inl (t23.1,t23.2.1,t23.2.2)) (fun(t23:Int×(List (Int×Int×Int×Unit)))=>Sum.inr t23)) (by
 rintro(t23|t23)
 ·kernel_rfl
 ·kernel_rfl)) (t.1,t.2,([]:List (Int×Int×Int×Unit)))) (fun(t23:Int×(List (Int×Int×Int×Unit)))=>(t23.1,t23.2)) (by
 rintro t23 K h
 ·exact Eq.mp (by kernel_rfl) h)))) (fun(t:Int×(List (Int×Int×Int×Unit)))=>(Nyi d t.1 t.2))))))) (by unfold N2p;kernel_rfl) (by
 intro t
 exact ret_mk [.slc 1] (by kernel_rfl) (by kernel_rfl) (by kernel_rfl) (by kernel_rfl)) h
def Nbb:Fun:=fun avs H=>
 match avs,H with
 |[.ptr 0 0,.dat (.list (.int .i64)) a],[some (.box [.dat (.list (.int .u8)) b,.dat (.int .i64) c])]=>⟨_,N2p a b c,fun(t:Int×(List (Int×Int×Int×Unit)))=>(.slc 1,[some (.box [dV b,dI t.1]),some (.seq (.pair (.int .i64) (.pair (.int .i64) (.pair (.int .i64) .unit))) t.2)]),[],none⟩
 |_,_=>Ans.no
theorem Nlx:Sound Tryz.prog 26 Nbb:=by
 refine fn_sound' (C:=N58) (c:=bodyOf Tryz.f26) (cok_of tys_ok (allc Nz (allc Nn7 alln)) (allc Tryz.call19 (allc Tryz.call50 alln)) (by kernel_rfl)) Tryz.func26 (by kernel_rfl) LL N1y ?_
 intro avs H r H' h
 unfold Nbb at h
 split at h
 ·refine Awp.cast ?_ ?_ ?_ (N152 _ _ _ h)<;>kernel_rfl
 ·simp[Ans.no,Ans.run] at h
def Ndf:Ann:=(.seq (.leaf [0]) (.seq (.seq (.leaf [0,4]) (.cond (.seq (.leafF [⟨5,9,false,none,none⟩] [2]) (.leaf [2])) (.leaf [0]))) (.seq (.draw [2,7] [0,1,3,4,5,6,7,8,2,9,10] [] [2]) (.leaf [2]))))
def N2a (n:Nat):Fun:=fun avs H=>
 match avs,H with
 |[.dat (.int .i64) a],[]=>⟨_,N7l n a,fun(t:ByteArray)=>(dS t,[]),[],none⟩
 |_,_=>Ans.no
noncomputable def Ndc (n:Nat):Ctx:=⟨tlook tys,olook [(63,N2a n)],ioF,0,false,[]⟩
theorem N11f (n:Nat) (a:Int):Link (Ndc n) LL (bodyOf Tryz.f63) Ndf ⟨mkE 21 0 [(0,dI a)],[]⟩ (Ngt (N7l n) a) (fun(t:ByteArray)=>(Exit.ret,⟨mkE 21 0 [(2,dS t)],[]⟩)):= .of fun K h=>by
 simp only[Ngt,wpW] at h
 exact .of (by kernel_rfl) h
theorem N12d (n:Nat) (a:Int) {r:AV} {H':Heap} (h:(Ans.mk _ (N7l (n+1) a) (fun(t:ByteArray)=>(dS t,[])) [] none).run=some (r,H')):Awp (Ndc n) LL (bodyOf Tryz.f63) Ndf ⟨mkE 21 0 [(0,dI a)],[]⟩ (Ret (tlook tys) Tryz.f63.results.toList r H'):=
 ret_of' (N11f n a) (by(show _=_);kernel_rfl) (by
 intro t
 exact ret_mk [dS t] (by kernel_rfl) (by kernel_rfl) (by kernel_rfl) (by kernel_rfl)) h
theorem N133 (n:Nat) (h63:Sound Tryz.prog 63 (N2a n)):Sound Tryz.prog 63 (N2a (n+1)):=by
 refine fn_sound' (C:=Ndc n) (c:=bodyOf Tryz.f63) (cok_of tys_ok (allc h63 alln) (allc Tryz.call63 alln) (by kernel_rfl)) Tryz.func63 (by kernel_rfl) LL Ndf ?_
 intro avs H r H' h
 unfold N2a at h
 split at h
 ·refine Awp.cast ?_ ?_ ?_ (N12d n _ h)<;>kernel_rfl
 ·simp[Ans.no,Ans.run] at h
theorem Nub:Sound Tryz.prog 63 (N2a 0):=by
 intro avs H r H' h
 unfold N2a at h
 split at h
 ·simp[N7l,Nhr,Ans.run] at h
 ·simp[Ans.no,Ans.run] at h
theorem Nn5: ∀n,Sound Tryz.prog 63 (N2a n)
 |0=>Nub
 |n+1=>by
  have h63:=Nn5 n
  exact N133 n h63
def Ncg:Fun:=fun avs H=>
 match avs,H with
 |[.dat (.int .i64) a],[]=>⟨_,Nu a,fun(t:ByteArray)=>(dS t,[]),[],none⟩
 |_,_=>Ans.no
theorem Nzq:Sound Tryz.prog 63 Ncg:=by
 have e:Ncg=N2a RR:=by
  funext avs H
  unfold Ncg N2a
  split<;>first|rfl|(simp only[Nu])
 rw[e]
 exact(Nn5 RR)
def N2l:Ann:=(.seq (.leaf [1]) (.seq (.block (.seq (.leaf [1,3]) (.cond (.seq (.draw [2,7] [0,1,5,6,2,3,4,7,8,9] [] [2]) (.leaf [2])) (.seq (.leaf [1,26]) (.cond (.seq (.leaf [2]) (.leaf [2])) (.seq (.leaf [1,44]) (.cond (.seq (.leaf [2]) (.leaf [2])) (.seq (.leaf [1,48]) (.cond (.seq (.leaf [2]) (.leaf [2])) (.seq (.leaf [1,52]) (.cond (.seq (.leaf [2]) (.leaf [2])) (.seq (.leaf [56]) (.cond (.seq (.leaf [2]) (.leaf [2])) (.leaf [])))))))))))))) (.seq (.leaf [2]) (.leaf [2]))))
noncomputable def N2h:Ctx:=⟨tlook tys,olook [(51,N2v),(63,Ncg)],ioF,0,false,[]⟩
theorem Nu9 (a b c:Int):Link N2h LL (cq [0] (bodyOf Tryz.f40)) (aq [0] N2l) ⟨mkE 60 0 [(0,.agg [dI a,dI b,dI c])],[]⟩ (Nbp) (fun(t:Unit)=>(Exit.normal,⟨mkE 60 0 [(1,.ptr 0 0)],[some (.box [dI a,dI b,dI c])]⟩)):= .of fun K h=>by
 simp only[Nbp,wpW] at h
 exact .of (by kernel_rfl) h
theorem Nwr (a b c:Int):Link N2h LL (cq [0,0,0,1] (bodyOf Tryz.f40)) (aq [0,0,0,1] N2l) ⟨mkE 60 0 [(1,.ptr 0 0)],[some (.box [dI a,dI b,dI c])]⟩ (Ncf a b c) (fun(t:Bool)=>(Exit.normal,⟨mkE 60 0 [(1,.ptr 0 0),(3,dB t)],[some (.box [dI a,dI b,dI c])]⟩)):= .of fun K h=>by
 simp only[Ncf,wpW] at h
 exact .of (by kernel_rfl) h
theorem N124 (a:Bool) (b c d:Int):Link N2h LL (cq [0,1,0,0,1] (bodyOf Tryz.f40)) (aq [0,1,0,0,1] N2l) ⟨mkE 60 0 [(1,.ptr 0 0),(3,dB a)],[some (.box [dI b,dI c,dI d])]⟩ (N9i c d) (fun(t:ByteArray)=>(Exit.ret,⟨mkE 60 0 [(2,dS t)],[]⟩)):= .of fun K h=>by
 simp only[N9i,wpW] at h
 exact .of (by kernel_rfl) h
theorem Nvr (a:Bool) (b c d:Int):Link N2h LL (cq [0,1,1,0,0,1] (bodyOf Tryz.f40)) (aq [0,1,1,0,0,1] N2l) ⟨mkE 60 0 [(1,.ptr 0 0),(3,dB a)],[some (.box [dI b,dI c,dI d])]⟩ (Nai b c d) (fun(t:Bool)=>(Exit.normal,⟨mkE 60 0 [(1,.ptr 0 0),(26,dB t)],[some (.box [dI b,dI c,dI d])]⟩)):= .of fun K h=>by
 simp only[Nai,wpW] at h
 exact .of (by kernel_rfl) h
theorem Nqc (a:Bool) (b c d:Int):Link N2h LL (cq [1,1,1,0,0,1] (bodyOf Tryz.f40)) (aq [1,1,1,0,0,1] N2l) ⟨mkE 60 0 [(1,.ptr 0 0),(26,dB a)],[some (.box [dI b,dI c,dI d])]⟩ (N6c a b c d) (Sum.elim (fun(t:Unit)=>(Exit.normal,⟨mkE 60 0 [],[]⟩)) (fun(t:ByteArray)=>(Exit.ret,⟨mkE 60 0 [(2,dS t)],[]⟩))):= .of fun K h=>by
 simp only[N6c,wpW] at h
 exact .of (by kernel_rfl) h
theorem Nwl:Link N2h LL (cq [1,1] (bodyOf Tryz.f40)) (aq [1,1] N2l) ⟨mkE 60 0 [],[]⟩ (Neo) (fun(t:ByteArray)=>(Exit.ret,⟨mkE 60 0 [(2,dS t)],[]⟩)):= .of fun K h=>by
 simp only[Neo,wpW] at h
 exact .of (by kernel_rfl) h
theorem Nw7 (a b d:Int) {r:AV} {H':Heap} (h:(Ans.mk _ (Ng a b d) (fun(t:ByteArray)=>(dS t,[])) [] none).run=some (r,H')):Awp N2h LL (bodyOf Tryz.f40) N2l ⟨mkE 60 0 [(0,.agg [dI a,dI b,dI d])],[]⟩ (Ret (tlook tys) Tryz.f40.results.toList r H'):=
 ret_of' (Link.cast (by kernel_rfl) (by kernel_rfl) (link_seq (Nu9 a b d) (fun(t:Unit)=>(link_seq2 (link_block (fin2:=(Sum.elim (fun(t:Unit)=>(Exit.normal,⟨mkE 60 0 [],[]⟩)) (fun(t:ByteArray)=>(Exit.ret,⟨mkE 60 0 [(2,dS t)],[]⟩)))) (id:=0) (link_seq (Nwr a b d) (fun(t:Bool)=>(link_cond (c:= .tmp 3) (g:=t) (by kernel_rfl) ((link_map (fin2:=(Sum.elim (fun(t24:Unit)=>(Exit.normal,⟨mkE 60 0 [],[]⟩)) (fun(t24:ByteArray)=>(Exit.ret,⟨mkE 60 0 [(2,dS t24)],[]⟩)))) (N124 t a b d) (fun(t24:ByteArray)=>(Sum.inr t24)) (by
 rintro t24
 ·kernel_rfl))) ((link_seq (Nvr t a b d) (fun(t24:Bool)=>(Nqc t24 a b d))))))) (Sum.elim (fun(t:Unit)=>(Sum.inl ())) (fun(t:ByteArray)=>(Sum.inr t))) (by
 rintro(t|t) K h
 ·exact Eq.mp (by kernel_rfl) h
 ·exact Eq.mp (by kernel_rfl) h)) (fun(t:Unit)=>(Nwl)) (fun(t:ByteArray)=>t) (by
 rintro t
 ·kernel_rfl) (by
 rintro t f K h
 ·exact h))))) (by unfold Ng;kernel_rfl) (by
 intro t
 exact ret_mk [dS t] (by kernel_rfl) (by kernel_rfl) (by kernel_rfl) (by kernel_rfl)) h
def N6g:Fun:=fun avs H=>
 match avs,H with
 |[.agg [.dat (.int .i64) a,.dat (.int .i64) b,.dat (.int .i64) c]],[]=>⟨_,Ng a b c,fun(t:ByteArray)=>(dS t,[]),[],none⟩
 |_,_=>Ans.no
theorem Nf6:Sound Tryz.prog 40 N6g:=by
 refine fn_sound' (C:=N2h) (c:=bodyOf Tryz.f40) (cok_of tys_ok (allc N77 (allc Nzq alln)) (allc Tryz.call51 (allc Tryz.call63 alln)) (by kernel_rfl)) Tryz.func40 (by kernel_rfl) LL N2l ?_
 intro avs H r H' h
 unfold N6g at h
 split at h
 ·refine Awp.cast ?_ ?_ ?_ (Nw7 _ _ _ h)<;>kernel_rfl
 ·simp[Ans.no,Ans.run] at h
def Nx:Ann:=(.seq (.leaf [0]) (.seq (.leaf [0,3]) (.seq (.leafF [⟨3,9,false,none,none⟩] [3,4]) (.seq (.seq (.leaf [3,4,5]) (.block (.loop (.seq (.seq (.leaf [3,4,5,14]) (.cond (.leaf [3,4,5]) (.leaf [3]))) (.seq (.block (.seq (.leaf [3,4,5,22]) (.cond (.leaf [3,4,5]) (.leaf [3,4,5])))) (.leaf [3,4,5])))))) (.seq (.leaf [2]) (.leaf [2]))))))
noncomputable def N4d:Ctx:=⟨tlook tys,olook [(41,Nan),(26,Nbb),(40,N6g)],ioF,1,false,[]⟩
theorem Npp (a:List Int) (b:Int):Link N4d LL (Code.seq (cq [0] (bodyOf Tryz.f18)) (Code.seq (cq [0,1] (bodyOf Tryz.f18)) (cq [0,1,1] (bodyOf Tryz.f18)))) (Ann.seq (aq [0] Nx) (Ann.seq (aq [0,1] Nx) (aq [0,1,1] Nx))) ⟨mkE 31 0 [(0,.ptr 0 0)],[some (.box [dV a,dI b])]⟩ (Nb1 a b) (fun(t:Int×(List (Int×Int×Int×Unit)))=>(Exit.normal,⟨mkE 31 0 [(3,.slc 1),(4,.slc 2)],[some (.box [dV a,dI t.1]),some (.seq (.pair (.int .i64) (.pair (.int .i64) (.pair (.int .i64) .unit))) ([]:List (Int×Int×Int×Unit))),some (.seq (.pair (.int .i64) (.pair (.int .i64) (.pair (.int .i64) .unit))) t.2)]⟩)):= .of fun K h=>by
 simp only[Nb1,wpW] at h
 exact .of (by kernel_rfl) h
theorem N14v (a:List Int) (b:Int) (c:List (Int×Int×Int×Unit)):Link N4d LL (cq [0,0,1,1,1] (bodyOf Tryz.f18)) (aq [0,0,1,1,1] Nx) ⟨mkE 31 0 [(3,.slc 1),(4,.slc 2)],[some (.box [dV a,dI b]),some (.seq (.pair (.int .i64) (.pair (.int .i64) (.pair (.int .i64) .unit))) ([]:List (Int×Int×Int×Unit))),some (.seq (.pair (.int .i64) (.pair (.int .i64) (.pair (.int .i64) .unit))) c)]⟩ (Nbt) (fun(t:Unit)=>(Exit.normal,⟨mkE 31 0 [(3,.slc 1),(4,.slc 2),(5,dI 0)],[some (.box [dV a,dI b]),some (.seq (.pair (.int .i64) (.pair (.int .i64) (.pair (.int .i64) .unit))) ([]:List (Int×Int×Int×Unit))),some (.seq (.pair (.int .i64) (.pair (.int .i64) (.pair (.int .i64) .unit))) c)]⟩)):= .of fun K h=>by
 simp only[Nbt,wpW] at h
 exact .of (by kernel_rfl) h
theorem Nt4 (a:Int) (b:List Int) (c:Int) (d g:List (Int×Int×Int×Unit)):Link N4d LL (cq [0,0,1,0,1,1,1] (bodyOf Tryz.f18)) (aq [0,0,1,0,1,1,1] Nx) ⟨mkE 31 0 [(3,.slc 1),(4,.slc 2),(5,dI a)],[some (.box [dV b,dI c]),some (.seq (.pair (.int .i64) (.pair (.int .i64) (.pair (.int .i64) .unit))) d),some (.seq (.pair (.int .i64) (.pair (.int .i64) (.pair (.int .i64) .unit))) g)]⟩ (N6p a d g) (Sum.elim (fun(t:Int×(List (Int×Int×Int×Unit)))=>(Exit.normal,⟨mkE 31 0 [(3,.slc 1),(4,.slc 2),(5,dI t.1)],[some (.box [dV b,dI c]),some (.seq (.pair (.int .i64) (.pair (.int .i64) (.pair (.int .i64) .unit))) t.2),some (.seq (.pair (.int .i64) (.pair (.int .i64) (.pair (.int .i64) .unit))) g)]⟩)) (fun(t:(List (Int×Int×Int×Unit)))=>((Exit.exit 0),⟨mkE 31 0 [(3,.slc 1)],[some (.box [dV b,dI c]),some (.seq (.pair (.int .i64) (.pair (.int .i64) (.pair (.int .i64) .unit))) t)]⟩))):= .of fun K h=>by
 simp only[N6p,wpW] at h
 exact .of (by kernel_rfl) h
theorem N12k (a:List Int) (b:Int) (c:List (Int×Int×Int×Unit)):Link N4d LL (cq [1,1,1,1] (bodyOf Tryz.f18)) (aq [1,1,1,1] Nx) ⟨mkE 31 0 [(3,.slc 1)],[some (.box [dV a,dI b]),some (.seq (.pair (.int .i64) (.pair (.int .i64) (.pair (.int .i64) .unit))) c)]⟩ (Nih b c) (fun(t:Int×(List (Int×Int×Int×Unit)))=>(Exit.ret,⟨mkE 31 0 [(2,.slc 1)],[some (.box [dV a,dI t.1]),some (.seq (.pair (.int .i64) (.pair (.int .i64) (.pair (.int .i64) .unit))) t.2)]⟩)):= .of fun K h=>by
 simp only[Nih,wpW] at h
 exact .of (by kernel_rfl) h
theorem N16u (b:List Int) (d:Int) {r:AV} {H':Heap} (h:(Ans.mk _ (N33 b d) (fun(t:Int×(List (Int×Int×Int×Unit)))=>(.slc 1,[some (.box [dV b,dI t.1]),some (.seq (.pair (.int .i64) (.pair (.int .i64) (.pair (.int .i64) .unit))) t.2)])) [] none).run=some (r,H')):Awp N4d LL (bodyOf Tryz.f18) Nx ⟨mkE 31 0 [(0,.ptr 0 0)],[some (.box [dV b,dI d])]⟩ (Ret (tlook tys) Tryz.f18.results.toList r H'):=
 ret_of' (Link.cast (by kernel_rfl) (by kernel_rfl) (link_group (c:=(cq [0,1,1] (bodyOf Tryz.f18))) (a:=(aq [0,1,1] Nx)) [(cq [0] (bodyOf Tryz.f18)),(cq [0,1] (bodyOf Tryz.f18))] [(aq [0] Nx),(aq [0,1] Nx)] rfl (link_seq (Npp b d) (fun(t:Int×(List (Int×Int×Int×Unit)))=>(link_seq (link_seq (N14v b t.1 t.2) (fun(t47:Unit)=>(link_block (fin2:=(fun(t47:(List (Int×Int×Int×Unit)))=>(Exit.normal,⟨mkE 31 0 [(3,.slc 1)],[some (.box [dV b,dI t.1]),some (.seq (.pair (.int .i64) (.pair (.int .i64) (.pair (.int .i64) .unit))) t47)]⟩))) (id:=0) (link_loop (mk:=fun(s:Int×(List (Int×Int×Int×Unit)))=>⟨mkE 31 0 [(3,.slc 1),(4,.slc 2),(5,dI s.1)],[some (.box [dV b,dI t.1]),some (.seq (.pair (.int .i64) (.pair (.int .i64) (.pair (.int .i64) .unit))) s.2),some (.seq (.pair (.int .i64) (.pair (.int .i64) (.pair (.int .i64) .unit))) t.2)]⟩) (fin:=(fun(t47:(List (Int×Int×Int×Unit)))=>((Exit.exit 0),⟨mkE 31 0 [(3,.slc 1)],[some (.box [dV b,dI t.1]),some (.seq (.pair (.int .i64) (.pair (.int .i64) (.pair (.int .i64) .unit))) t47)]⟩))) (by
 rintro t47 f K h
 ·exact h) (fun s=>link_map (Nt4 s.1 b t.1 s.2 t.2) (Sum.elim (fun(t47:Int×(List (Int×Int×Int×Unit)))=>Sum.inl (t47.1,t47.2)) (fun(t47:(List (Int×Int×Int×Unit)))=>Sum.inr t47)) (by
 rintro(t47|t47)
 ·kernel_rfl
 ·kernel_rfl)) (0,([]:List (Int×Int×Int×Unit)))) (fun(t47:(List (Int×Int×Int×Unit)))=>t47) (by
 rintro t47 K h
 ·exact Eq.mp (by kernel_rfl) h)))) (fun(t47:(List (Int×Int×Int×Unit)))=>(N12k b t.1 t47))))))) (by unfold N33;kernel_rfl) (by
 intro t
 exact ret_mk [.slc 1] (by kernel_rfl) (by kernel_rfl) (by kernel_rfl) (by kernel_rfl)) h
def Nhm:Fun:=fun avs H=>
 match avs,H with
 |[.ptr 0 0],[some (.box [.dat (.list (.int .u8)) a,.dat (.int .i64) b])]=>⟨_,N33 a b,fun(t:Int×(List (Int×Int×Int×Unit)))=>(.slc 1,[some (.box [dV a,dI t.1]),some (.seq (.pair (.int .i64) (.pair (.int .i64) (.pair (.int .i64) .unit))) t.2)]),[],none⟩
 |_,_=>Ans.no
theorem N105:Sound Tryz.prog 18 Nhm:=by
 refine fn_sound' (C:=N4d) (c:=bodyOf Tryz.f18) (cok_of tys_ok (allc Nj7 (allc Nlx (allc Nf6 alln))) (allc Tryz.call41 (allc Tryz.call26 (allc Tryz.call40 alln))) (by kernel_rfl)) Tryz.func18 (by kernel_rfl) LL Nx ?_
 intro avs H r H' h
 unfold Nhm at h
 split at h
 ·refine Awp.cast ?_ ?_ ?_ (N16u _ _ h)<;>kernel_rfl
 ·simp[Ans.no,Ans.run] at h
def N2b:Ann:=(.seq (.leaf [0]) (.seq (.leaf [0,3]) (.seq (.seq (.leaf [0,3,4]) (.block (.loop (.seq (.seq (.leaf [0,3,4,8]) (.cond (.leaf [0,3,4]) (.leaf [3]))) (.seq (.block (.seq (.seq (.leaf [0,3,4,16]) (.cond (.seq (.leaf [2]) (.leaf [2])) (.leaf [0,3,4]))) (.leaf [0,3,4]))) (.leaf [0,3,4])))))) (.seq (.leaf [2]) (.leaf [2])))))
noncomputable def N52:Ctx:=⟨tlook tys,olook [(40,N6g)],ioF,0,false,[]⟩
theorem Nv2 (a:List (Int×Int×Int×Unit)):Link N52 LL (Code.seq (cq [0] (bodyOf Tryz.f17)) (cq [0,1] (bodyOf Tryz.f17))) (Ann.seq (aq [0] N2b) (aq [0,1] N2b)) ⟨mkE 26 0 [(0,.dat (.list (.pair (.int .i64) (.pair (.int .i64) (.pair (.int .i64) .unit)))) a)],[]⟩ (Nbe) (fun(t:Unit)=>(Exit.normal,⟨mkE 26 0 [(0,.dat (.list (.pair (.int .i64) (.pair (.int .i64) (.pair (.int .i64) .unit)))) a),(3,dS ByteArray.empty)],[]⟩)):= .of fun K h=>by
 simp only[Nbe,wpW] at h
 exact .of (by kernel_rfl) h
theorem N17x (a:List (Int×Int×Int×Unit)):Link N52 LL (cq [0,0,1,1] (bodyOf Tryz.f17)) (aq [0,0,1,1] N2b) ⟨mkE 26 0 [(0,.dat (.list (.pair (.int .i64) (.pair (.int .i64) (.pair (.int .i64) .unit)))) a),(3,dS ByteArray.empty)],[]⟩ (N88) (fun(t:Unit)=>(Exit.normal,⟨mkE 26 0 [(0,.dat (.list (.pair (.int .i64) (.pair (.int .i64) (.pair (.int .i64) .unit)))) a),(3,dS ByteArray.empty),(4,dI 0)],[]⟩)):= .of fun K h=>by
 simp only[N88,wpW] at h
 exact .of (by kernel_rfl) h
theorem Nsk (a:List (Int×Int×Int×Unit)) (b:ByteArray) (c:Int):Link N52 LL (cq [0,0,1,0,1,1] (bodyOf Tryz.f17)) (aq [0,0,1,0,1,1] N2b) ⟨mkE 26 0 [(0,.dat (.list (.pair (.int .i64) (.pair (.int .i64) (.pair (.int .i64) .unit)))) a),(3,dS b),(4,dI c)],[]⟩ (N31 a b c) (Sum.elim (fun(t:ByteArray×Int)=>(Exit.normal,⟨mkE 26 0 [(0,.dat (.list (.pair (.int .i64) (.pair (.int .i64) (.pair (.int .i64) .unit)))) a),(3,dS t.1),(4,dI t.2)],[]⟩)) (Sum.elim (fun(t:ByteArray)=>(Exit.ret,⟨mkE 26 0 [(2,dS t)],[]⟩)) (fun(t:ByteArray)=>((Exit.exit 0),⟨mkE 26 0 [(3,dS t)],[]⟩)))):= .of fun K h=>by
 simp only[N31,wpW] at h
 exact .of (by kernel_rfl) h
theorem N173 (a:ByteArray):Link N52 LL (cq [1,1,1] (bodyOf Tryz.f17)) (aq [1,1,1] N2b) ⟨mkE 26 0 [(3,dS a)],[]⟩ (Ncn a) (fun(t:ByteArray)=>(Exit.ret,⟨mkE 26 0 [(2,dS t)],[]⟩)):= .of fun K h=>by
 simp only[Ncn,wpW] at h
 exact .of (by kernel_rfl) h
theorem Nts (b:List (Int×Int×Int×Unit)) {r:AV} {H':Heap} (h:(Ans.mk _ (N2z b) (fun(t:ByteArray)=>(dS t,[])) [] none).run=some (r,H')):Awp N52 LL (bodyOf Tryz.f17) N2b ⟨mkE 26 0 [(0,.dat (.list (.pair (.int .i64) (.pair (.int .i64) (.pair (.int .i64) .unit)))) b)],[]⟩ (Ret (tlook tys) Tryz.f17.results.toList r H'):=
 ret_of' (Link.cast (by kernel_rfl) (by kernel_rfl) (link_group (c:=(cq [0,1] (bodyOf Tryz.f17))) (a:=(aq [0,1] N2b)) [(cq [0] (bodyOf Tryz.f17))] [(aq [0] N2b)] rfl (link_seq (Nv2 b) (fun(t:Unit)=>(link_seq2 (link_seq (N17x b) (fun(t:Unit)=>(link_block (fin2:=(Sum.elim (fun(t:ByteArray)=>(Exit.normal,⟨mkE 26 0 [(3,dS t)],[]⟩)) (fun(t:ByteArray)=>(Exit.ret,⟨mkE 26 0 [(2,dS t)],[]⟩)))) (id:=0) (link_loop (mk:=fun(s:ByteArray×Int)=>⟨mkE 26 0 [(0,.dat (.list (.pair (.int .i64) (.pair (.int .i64) (.pair (.int .i64) .unit)))) b),(3,dS s.1),(4,dI s.2)],[]⟩) (fin:=(Sum.elim (fun(t:ByteArray)=>(Exit.ret,⟨mkE 26 0 [(2,dS t)],[]⟩)) (fun(t:ByteArray)=>((Exit.exit 0),⟨mkE 26 0 [(3,dS t)],[]⟩)))) (by
 rintro(t|t) f K h
 ·exact h
 ·exact h) (fun s=>link_map (Nsk b s.1 s.2) (Sum.elim (fun(t:ByteArray×Int)=>Sum.inl (t.1,t.2)) (Sum.elim (fun(t:ByteArray)=>Sum.inr (Sum.inl t)) (fun(t:ByteArray)=>Sum.inr (Sum.inr t)))) (by
 rintro(t|t|t)
 ·kernel_rfl
 ·kernel_rfl
 ·kernel_rfl)) (ByteArray.empty,0)) (Sum.elim (fun(t:ByteArray)=>(Sum.inr t)) (fun(t:ByteArray)=>(Sum.inl t))) (by
 rintro(t|t) K h
 ·exact Eq.mp (by kernel_rfl) h
 ·exact Eq.mp (by kernel_rfl) h)))) (fun(t:ByteArray)=>(N173 t)) (fun(t:ByteArray)=>t) (by
 rintro t
 ·kernel_rfl) (by
 rintro t f K h
 ·exact h)))))) (by unfold N2z;kernel_rfl) (by
 intro t
 exact ret_mk [dS t] (by kernel_rfl) (by kernel_rfl) (by kernel_rfl) (by kernel_rfl)) h
def Ne1:Fun:=fun avs H=>
 match avs,H with
 |[.dat (.list (.pair (.int .i64) (.pair (.int .i64) (.pair (.int .i64) .unit)))) a],[]=>⟨_,N2z a,fun(t:ByteArray)=>(dS t,[]),[],none⟩
 |_,_=>Ans.no
theorem N163:Sound Tryz.prog 17 Ne1:=by
 refine fn_sound' (C:=N52) (c:=bodyOf Tryz.f17) (cok_of tys_ok (allc Nf6 alln) (allc Tryz.call40 alln) (by kernel_rfl)) Tryz.func17 (by kernel_rfl) LL N2b ?_
 intro avs H r H' h
 unfold Ne1 at h
 split at h
 ·refine Awp.cast ?_ ?_ ?_ (Nts _ h)<;>kernel_rfl
 ·simp[Ans.no,Ans.run] at h
def Nfi:Ann:=(.seq (.leaf [0,1]) (.seq (.seq (.leaf [0,1,8]) (.cond (.seq (.leaf [4]) (.leaf [4])) (.leaf [0,1]))) (.seq (.leaf [0,1,5]) (.seq (.draw [3,2,12] [0,1,2,3,4,9,10,11,12,5,6,7,8,13,14] [] [4]) (.leaf [4])))))
noncomputable def Nhz:Ctx:=⟨tlook tys,olook [(19,Ni)],ioF,1,false,[]⟩
theorem N14c (a:ByteArray) (b:List Int) (c:Int):Link Nhz LL (bodyOf Tryz.f20) Nfi ⟨mkE 27 0 [(0,.ptr 0 0),(1,dS a)],[some (.box [dV b,dI c])]⟩ (N7c a b c) (fun(t:ByteArray×Int)=>(Exit.ret,⟨mkE 27 0 [(4,dS t.1)],[some (.box [dV b,dI t.2])]⟩)):= .of fun K h=>by
 simp only[N7c,wpW] at h
 exact .of (by kernel_rfl) h
theorem Nsr (a:ByteArray) (b:List Int) (c:Int) {r:AV} {H':Heap} (h:(Ans.mk _ (N2y a b c) (fun(t:ByteArray×Int)=>(dS t.1,[some (.box [dV b,dI t.2])])) [] none).run=some (r,H')):Awp Nhz LL (bodyOf Tryz.f20) Nfi ⟨mkE 27 0 [(0,.ptr 0 0),(1,dS a)],[some (.box [dV b,dI c])]⟩ (Ret (tlook tys) Tryz.f20.results.toList r H'):=
 ret_of' (N14c a b c) (by unfold N2y;kernel_rfl) (by
 intro t
 exact ret_mk [dS t.1] (by kernel_rfl) (by kernel_rfl) (by kernel_rfl) (by kernel_rfl)) h
def Nix:Fun:=fun avs H=>
 match avs,H with
 |[.ptr 0 0,.dat .str a],[some (.box [.dat (.list (.int .u8)) b,.dat (.int .i64) c])]=>⟨_,N2y a b c,fun(t:ByteArray×Int)=>(dS t.1,[some (.box [dV b,dI t.2])]),[],none⟩
 |_,_=>Ans.no
theorem Nwo:Sound Tryz.prog 20 Nix:=by
 refine fn_sound' (C:=Nhz) (c:=bodyOf Tryz.f20) (cok_of tys_ok (allc Nz alln) (allc Tryz.call19 alln) (by kernel_rfl)) Tryz.func20 (by kernel_rfl) LL Nfi ?_
 intro avs H r H' h
 unfold Nix at h
 split at h
 ·refine Awp.cast ?_ ?_ ?_ (Nsr _ _ _ h)<;>kernel_rfl
 ·simp[Ans.no,Ans.run] at h
def Nin:Ann:=(.seq (.leaf [0]) (.seq (.leaf [3]) (.seq (.leaf [3,4]) (.seq (.seq (.leaf [3,4,11]) (.block (.seq (.leaf [3,4,11,12]) (.cond (.seq (.leaf [2]) (.leaf [2])) (.seq (.leaf [3,4,17]) (.cond (.seq (.leaf [2]) (.leaf [2])) (.leaf [4]))))))) (.seq (.leaf [2]) (.leaf [2]))))))
noncomputable def Nga:Ctx:=⟨tlook tys,olook [(16,N8x),(18,Nhm),(17,Ne1),(19,Ni),(20,Nix)],ioF,0,false,[]⟩
theorem Nz2 (a:List Int):Link Nga LL (bodyOf Tryz.f4) Nin ⟨mkE 27 0 [(0,dV a)],[]⟩ (Nbf a) (fun(t:ByteArray)=>(Exit.ret,⟨mkE 27 0 [(2,dS t)],[]⟩)):= .of fun K h=>by
 simp only[Nbf,wpW] at h
 exact .of (by kernel_rfl) h
theorem Nzf (a:List Int) {r:AV} {H':Heap} (h:(Ans.mk _ (N4b a) (fun(t:ByteArray)=>(dS t,[])) [] none).run=some (r,H')):Awp Nga LL (bodyOf Tryz.f4) Nin ⟨mkE 27 0 [(0,dV a)],[]⟩ (Ret (tlook tys) Tryz.f4.results.toList r H'):=
 ret_of' (Nz2 a) (by unfold N4b;kernel_rfl) (by
 intro t
 exact ret_mk [dS t] (by kernel_rfl) (by kernel_rfl) (by kernel_rfl) (by kernel_rfl)) h
def Nh6:Fun:=fun avs H=>
 match avs,H with
 |[.dat (.list (.int .u8)) a],[]=>⟨_,N4b a,fun(t:ByteArray)=>(dS t,[]),[],none⟩
 |_,_=>Ans.no
theorem Nvy:Sound Tryz.prog 4 Nh6:=by
 refine fn_sound' (C:=Nga) (c:=bodyOf Tryz.f4) (cok_of tys_ok (allc Nn6 (allc N105 (allc N163 (allc Nz (allc Nwo alln))))) (allc Tryz.call16 (allc Tryz.call18 (allc Tryz.call17 (allc Tryz.call19 (allc Tryz.call20 alln))))) (by kernel_rfl)) Tryz.func4 (by kernel_rfl) LL Nin ?_
 intro avs H r H' h
 unfold Nh6 at h
 split at h
 ·refine Awp.cast ?_ ?_ ?_ (Nzf _ h)<;>kernel_rfl
 ·simp[Ans.no,Ans.run] at h
def ren_sidx:Go.Shelf.Ren:=⟨fun|217=>101|219=>68|224=>103|225=>102|266=>141|267=>104|314=>142|n=>n,fun|3=>3|4=>4|5=>5|9=>9|46=>115|51=>139|146=>140|n=>n,fun|1=>1|n=>n⟩
theorem lay_sidx:Lays.n219 Tryz.prog ren_sidx:={
 mixed:=by kernel_rfl
 f217:=Tryz.func101.trans (congrArg some (by kernel_rfl))
 f219:=Tryz.func68.trans (congrArg some (by kernel_rfl))
 f224:=Tryz.func103.trans (congrArg some (by kernel_rfl))
 f225:=Tryz.func102.trans (congrArg some (by kernel_rfl))
 f266:=Tryz.func141.trans (congrArg some (by kernel_rfl))
 f267:=Tryz.func104.trans (congrArg some (by kernel_rfl))
 f314:=Tryz.func142.trans (congrArg some (by kernel_rfl))
 t3:=Tryz.underlying3
 a3:=Tryz.isAgg3
 z3:=Tryz.sizeOf3
 v3:=Tryz.zeroValue3
 t4:=Tryz.underlying4
 a4:=Tryz.isAgg4
 z4:=Tryz.sizeOf4
 v4:=Tryz.zeroValue4
 t5:=Tryz.underlying5
 a5:=Tryz.isAgg5
 z5:=Tryz.sizeOf5
 v5:=Tryz.zeroValue5
 t9:=Tryz.underlying9
 a9:=Tryz.isAgg9
 z9:=Tryz.sizeOf9
 v9:=Tryz.zeroValue9
 t46:=Tryz.underlying115
 a46:=Tryz.isAgg115
 z46:=Tryz.sizeOf115
 v46:=Tryz.zeroValue115
 t51:=Tryz.underlying139
 a51:=Tryz.isAgg139
 z51:=Tryz.sizeOf139
 v51:=Tryz.zeroValue139
 t146:=Tryz.underlying140
 a146:=Tryz.isAgg140
 z146:=Tryz.sizeOf140
 v146:=Tryz.zeroValue140
 g1:=by kernel_rfl}
def Nfk:Fun:=F_sidx
theorem Nmn:Sound Tryz.prog 68 Nfk:=sidx_sound lay_sidx
def Nh5:Ann:=(.seq (.leaf [0,1]) (.seq (.seq (.leaf [0,1,7]) (.seq (.leaf [0,1,7,12]) (.cond (.seq (.draw [] [0,1,2,3,4,5,6,7,8,9,10,11] [] [4,5,6]) (.leaf [4,5,6])) (.leaf [0])))) (.seq (.leaf [4,5,6]) (.leaf [4,5,6]))))
noncomputable def Nfe:Ctx:=⟨tlook tys,olook [(68,Nfk)],ioF,0,false,[]⟩
theorem N103 (a b:ByteArray):Link Nfe LL (bodyOf Tryz.f42) Nh5 ⟨mkE 23 0 [(0,dS a),(1,dS b)],[]⟩ (N45 a b) (fun(t:ByteArray×ByteArray×Bool)=>(Exit.ret,⟨mkE 23 0 [(4,dS t.1),(5,dS t.2.1),(6,dB t.2.2)],[]⟩)):= .of fun K h=>by
 simp only[N45,wpW] at h
 exact .of (by kernel_rfl) h
theorem N18k (a b:ByteArray) {r:AV} {H':Heap} (h:(Ans.mk _ (N2s a b) (fun(t:ByteArray×ByteArray×Bool)=>(.tup [dS t.1,dS t.2.1,dB t.2.2],[])) [] none).run=some (r,H')):Awp Nfe LL (bodyOf Tryz.f42) Nh5 ⟨mkE 23 0 [(0,dS a),(1,dS b)],[]⟩ (Ret (tlook tys) Tryz.f42.results.toList r H'):=
 ret_of' (N103 a b) (by unfold N2s;kernel_rfl) (by
 intro t
 exact ret_mk [dS t.1,dS t.2.1,dB t.2.2] (by kernel_rfl) (by kernel_rfl) (by kernel_rfl) (by kernel_rfl)) h
def Nd5:Fun:=fun avs H=>
 match avs,H with
 |[.dat .str a,.dat .str b],[]=>⟨_,N2s a b,fun(t:ByteArray×ByteArray×Bool)=>(.tup [dS t.1,dS t.2.1,dB t.2.2],[]),[],none⟩
 |_,_=>Ans.no
theorem N10m:Sound Tryz.prog 42 Nd5:=by
 refine fn_sound' (C:=Nfe) (c:=bodyOf Tryz.f42) (cok_of tys_ok (allc Nmn alln) (allc Tryz.call68 alln) (by kernel_rfl)) Tryz.func42 (by kernel_rfl) LL Nh5 ?_
 intro avs H r H' h
 unfold Nd5 at h
 split at h
 ·refine Awp.cast ?_ ?_ ?_ (N18k _ _ h)<;>kernel_rfl
 ·simp[Ans.no,Ans.run] at h
def Nd8:Ann:=(.seq (.leaf [0,1]) (.seq (.leaf [4,5,6]) (.leaf [4,5,6])))
noncomputable def Nh1:Ctx:=⟨tlook tys,olook [(42,Nd5)],ioF,0,false,[]⟩
theorem N123 (a b:ByteArray):Link Nh1 LL (bodyOf Tryz.f21) Nd8 ⟨mkE 13 0 [(0,dS a),(1,dS b)],[]⟩ (N3a a b) (fun(t:ByteArray×ByteArray×Bool)=>(Exit.ret,⟨mkE 13 0 [(4,dS t.1),(5,dS t.2.1),(6,dB t.2.2)],[]⟩)):= .of fun K h=>by
 simp only[N3a,wpW] at h
 exact .of (by kernel_rfl) h
theorem N13s (a b:ByteArray) {r:AV} {H':Heap} (h:(Ans.mk _ (N1b a b) (fun(t:ByteArray×ByteArray×Bool)=>(.tup [dS t.1,dS t.2.1,dB t.2.2],[])) [] none).run=some (r,H')):Awp Nh1 LL (bodyOf Tryz.f21) Nd8 ⟨mkE 13 0 [(0,dS a),(1,dS b)],[]⟩ (Ret (tlook tys) Tryz.f21.results.toList r H'):=
 ret_of' (N123 a b) (by unfold N1b;kernel_rfl) (by
 intro t
 exact ret_mk [dS t.1,dS t.2.1,dB t.2.2] (by kernel_rfl) (by kernel_rfl) (by kernel_rfl) (by kernel_rfl)) h
def Nfc:Fun:=fun avs H=>
 match avs,H with
 |[.dat .str a,.dat .str b],[]=>⟨_,N1b a b,fun(t:ByteArray×ByteArray×Bool)=>(.tup [dS t.1,dS t.2.1,dB t.2.2],[]),[],none⟩
 |_,_=>Ans.no
theorem Nzu:Sound Tryz.prog 21 Nfc:=by
 refine fn_sound' (C:=Nh1) (c:=bodyOf Tryz.f21) (cok_of tys_ok (allc N10m alln) (allc Tryz.call42 alln) (by kernel_rfl)) Tryz.func21 (by kernel_rfl) LL Nd8 ?_
 intro avs H r H' h
 unfold Nfc at h
 split at h
 ·refine Awp.cast ?_ ?_ ?_ (N13s _ _ h)<;>kernel_rfl
 ·simp[Ans.no,Ans.run] at h
def Ndb:Ann:=(.seq (.leaf [0,1]) (.seq (.leaf [4]) (.leaf [4])))
noncomputable def Ne4:Ctx:=⟨tlook tys,olook [(68,Nfk)],ioF,0,false,[]⟩
theorem N13i (a b:ByteArray):Link Ne4 LL (bodyOf Tryz.f107) Ndb ⟨mkE 8 0 [(0,dS a),(1,dS b)],[]⟩ (N7t a b) (fun(t:Int)=>(Exit.ret,⟨mkE 8 0 [(4,dI t)],[]⟩)):= .of fun K h=>by
 simp only[N7t,wpW] at h
 exact .of (by kernel_rfl) h
theorem Ns0 (a b:ByteArray) {r:AV} {H':Heap} (h:(Ans.mk _ (N46 a b) (fun(t:Int)=>(dI t,[])) [] none).run=some (r,H')):Awp Ne4 LL (bodyOf Tryz.f107) Ndb ⟨mkE 8 0 [(0,dS a),(1,dS b)],[]⟩ (Ret (tlook tys) Tryz.f107.results.toList r H'):=
 ret_of' (N13i a b) (by unfold N46;kernel_rfl) (by
 intro t
 exact ret_mk [dI t] (by kernel_rfl) (by kernel_rfl) (by kernel_rfl) (by kernel_rfl)) h
def Nf7:Fun:=fun avs H=>
 match avs,H with
 |[.dat .str a,.dat .str b],[]=>⟨_,N46 a b,fun(t:Int)=>(dI t,[]),[],none⟩
 |_,_=>Ans.no
theorem N108:Sound Tryz.prog 107 Nf7:=by
 refine fn_sound' (C:=Ne4) (c:=bodyOf Tryz.f107) (cok_of tys_ok (allc Nmn alln) (allc Tryz.call68 alln) (by kernel_rfl)) Tryz.func107 (by kernel_rfl) LL Ndb ?_
 intro avs H r H' h
 unfold Nf7 at h
 split at h
 ·refine Awp.cast ?_ ?_ ?_ (Ns0 _ _ h)<;>kernel_rfl
 ·simp[Ans.no,Ans.run] at h
def N4:Ann:=(.seq (.leaf [0,1,2,3]) (.seq (.seq (.leaf [0,1,2,3,13]) (.cond (.seq (.leaf [8]) (.leafF [⟨0,8,true,none,none⟩] [8])) (.leaf [0,1,2,3]))) (.seq (.seq (.leaf [0,1,2,3,15]) (.cond (.seq (.leaf [8]) (.leaf [8])) (.leaf [0,1,2,3]))) (.seq (.seq (.leaf [0,1,2,3,20]) (.cond (.leaf [0,1,2,3]) (.leaf [0,1,2,3]))) (.seq (.leaf [0,1,2,3]) (.seq (.leaf [0,1,2,3,9]) (.seq (.leaf [0,1,2,3,9]) (.seq (.leaf [0,1,2,3,9,10]) (.seq (.block (.loop (.seq (.seq (.leaf [0,1,2,3,9,10,36]) (.cond (.leaf [0,1,2,3,9,10]) (.leaf [0,9,10]))) (.block (.seq (.leaf [0,1,2,3,9,10,11]) (.seq (.seq (.leaf [0,1,2,3,9,10,11,41]) (.cond (.leaf [0,9,10]) (.leaf [0,1,2,3,9,10,11]))) (.seq (.leaf [0,1,2,3,9,10,11]) (.seq (.leaf [0,1,2,3,9,10]) (.leaf [0,1,2,3,9,10]))))))))) (.seq (.leaf [9,10]) (.seq (.leaf [8]) (.leaf [8]))))))))))))
noncomputable def N69:Ctx:=⟨tlook tys,olook [(107,Nf7)],ioF,0,false,[]⟩
theorem N12s (a b:ByteArray) (c d:Int):Link N69 LL (Code.seq (cq [0] (bodyOf Tryz.f69)) (Code.seq (cq [0,1] (bodyOf Tryz.f69)) (Code.seq (cq [0,1,1] (bodyOf Tryz.f69)) (Code.seq (cq [0,1,1,1] (bodyOf Tryz.f69)) (Code.seq (cq [0,1,1,1,1] (bodyOf Tryz.f69)) (Code.seq (cq [0,1,1,1,1,1] (bodyOf Tryz.f69)) (Code.seq (cq [0,1,1,1,1,1,1] (bodyOf Tryz.f69)) (cq [0,1,1,1,1,1,1,1] (bodyOf Tryz.f69))))))))) (Ann.seq (aq [0] N4) (Ann.seq (aq [0,1] N4) (Ann.seq (aq [0,1,1] N4) (Ann.seq (aq [0,1,1,1] N4) (Ann.seq (aq [0,1,1,1,1] N4) (Ann.seq (aq [0,1,1,1,1,1] N4) (Ann.seq (aq [0,1,1,1,1,1,1] N4) (aq [0,1,1,1,1,1,1,1] N4)))))))) ⟨mkE 66 0 [(0,dS a),(1,dS b),(2,dI c),(3,dI d)],[]⟩ (Nbl a b d) (Sum.elim (fun(t:Int×(List ByteArray))=>(Exit.normal,⟨mkE 66 0 [(0,dS a),(1,dS b),(2,dI c),(3,dI t.1),(9,.slc 0),(10,dI 0)],[some (.seq .str t.2)]⟩)) (fun(t:Nat×(List ByteArray))=>(Exit.ret,⟨mkE 66 0 [(8,.win 0 0 t.1)],[some (.seq .str t.2)]⟩))):= .of fun K h=>by
 simp only[Nbl,wpW,wpO_none] at h
 exact .of (by kernel_rfl) h
theorem N174 (a b:ByteArray) (c d g:Int) (i:List ByteArray):Link N69 LL (cq [0,0,0,1,1,1,1,1,1,1,1] (bodyOf Tryz.f69)) (aq [0,0,0,1,1,1,1,1,1,1,1] N4) ⟨mkE 66 0 [(0,dS a),(1,dS b),(2,dI c),(3,dI d),(9,.slc 0),(10,dI g)],[some (.seq .str i)]⟩ (N3i a b c d g i) (Sum.elim (fun(t:ByteArray×Int×(List ByteArray))=>(Exit.normal,⟨mkE 66 0 [(0,dS t.1),(1,dS b),(2,dI c),(3,dI d),(9,.slc 0),(10,dI t.2.1)],[some (.seq .str t.2.2)]⟩)) (fun(t:ByteArray×Int×(List ByteArray))=>((Exit.exit 0),⟨mkE 66 0 [(0,dS t.1),(9,.slc 0),(10,dI t.2.1)],[some (.seq .str t.2.2)]⟩))):= .of fun K h=>by
 simp only[N3i,wpW] at h
 exact .of (by kernel_rfl) h
theorem Npu (a:ByteArray) (b:Int) (c:List ByteArray):Link N69 LL (cq [1,1,1,1,1,1,1,1,1] (bodyOf Tryz.f69)) (aq [1,1,1,1,1,1,1,1,1] N4) ⟨mkE 66 0 [(0,dS a),(9,.slc 0),(10,dI b)],[some (.seq .str c)]⟩ (N6y a b c) (fun(t:Nat×(List ByteArray))=>(Exit.ret,⟨mkE 66 0 [(8,.win 0 0 t.1)],[some (.seq .str t.2)]⟩)):= .of fun K h=>by
 simp only[N6y,wpW] at h
 exact .of (by kernel_rfl) h
theorem N111 (b d:ByteArray) (g i:Int) {r:AV} {H':Heap} (h:(Ans.mk _ (N4u b d g i) (fun(t:Nat×(List ByteArray))=>(.win 0 0 t.1,[some (.seq .str t.2)])) [] none).run=some (r,H')):Awp N69 LL (bodyOf Tryz.f69) N4 ⟨mkE 66 0 [(0,dS b),(1,dS d),(2,dI g),(3,dI i)],[]⟩ (Ret (tlook tys) Tryz.f69.results.toList r H'):=
 ret_of' (Link.cast (by kernel_rfl) (by kernel_rfl) (link_group (c:=(cq [0,1,1,1,1,1,1,1] (bodyOf Tryz.f69))) (a:=(aq [0,1,1,1,1,1,1,1] N4)) [(cq [0] (bodyOf Tryz.f69)),(cq [0,1] (bodyOf Tryz.f69)),(cq [0,1,1] (bodyOf Tryz.f69)),(cq [0,1,1,1] (bodyOf Tryz.f69)),(cq [0,1,1,1,1] (bodyOf Tryz.f69)),(cq [0,1,1,1,1,1] (bodyOf Tryz.f69)),(cq [0,1,1,1,1,1,1] (bodyOf Tryz.f69))] [(aq [0] N4),(aq [0,1] N4),(aq [0,1,1] N4),(aq [0,1,1,1] N4),(aq [0,1,1,1,1] N4),(aq [0,1,1,1,1,1] N4),(aq [0,1,1,1,1,1,1] N4)] rfl (link_seq2 (N12s b d g i) (fun(t:Int×(List ByteArray))=>(link_seq (link_block (fin2:=(fun(t25:ByteArray×Int×(List ByteArray))=>(Exit.normal,⟨mkE 66 0 [(0,dS t25.1),(9,.slc 0),(10,dI t25.2.1)],[some (.seq .str t25.2.2)]⟩))) (id:=0) (link_loop (mk:=fun(s:ByteArray×Int×(List ByteArray))=>⟨mkE 66 0 [(0,dS s.1),(1,dS d),(2,dI g),(3,dI t.1),(9,.slc 0),(10,dI s.2.1)],[some (.seq .str s.2.2)]⟩) (fin:=(fun(t25:ByteArray×Int×(List ByteArray))=>((Exit.exit 0),⟨mkE 66 0 [(0,dS t25.1),(9,.slc 0),(10,dI t25.2.1)],[some (.seq .str t25.2.2)]⟩))) (by
 rintro t25 f K h
 ·exact h) (fun s=>link_map (N174 s.1 d g t.1 s.2.1 s.2.2) (Sum.elim (fun(t25:ByteArray×Int×(List ByteArray))=>Sum.inl (t25.1,t25.2.1,t25.2.2)) (fun(t25:ByteArray×Int×(List ByteArray))=>Sum.inr t25)) (by
 rintro(t25|t25)
 ·kernel_rfl
 ·kernel_rfl)) (b,0,t.2)) (fun(t25:ByteArray×Int×(List ByteArray))=>(t25.1,t25.2.1,t25.2.2)) (by
 rintro t25 K h
 ·exact Eq.mp (by kernel_rfl) h)) (fun(t5:ByteArray×Int×(List ByteArray))=>(Npu t5.1 t5.2.1 t5.2.2)))) (fun(t:Nat×(List ByteArray))=>t) (by
 rintro t
 ·kernel_rfl) (by
 rintro t f K h
 ·exact h)))) (by unfold N4u;kernel_rfl) (by
 intro t
 exact ret_mk [.win 0 0 t.1] (by kernel_rfl) (by kernel_rfl) (by kernel_rfl) (by kernel_rfl)) h
def Nib:Fun:=fun avs H=>
 match avs,H with
 |[.dat .str a,.dat .str b,.dat (.int .i64) c,.dat (.int .i64) d],[]=>⟨_,N4u a b c d,fun(t:Nat×(List ByteArray))=>(.win 0 0 t.1,[some (.seq .str t.2)]),[],none⟩
 |_,_=>Ans.no
theorem N116:Sound Tryz.prog 69 Nib:=by
 refine fn_sound' (C:=N69) (c:=bodyOf Tryz.f69) (cok_of tys_ok (allc N108 alln) (allc Tryz.call107 alln) (by kernel_rfl)) Tryz.func69 (by kernel_rfl) LL N4 ?_
 intro avs H r H' h
 unfold Nib at h
 split at h
 ·refine Awp.cast ?_ ?_ ?_ (N111 _ _ _ _ h)<;>kernel_rfl
 ·simp[Ans.no,Ans.run] at h
def Nfn:Ann:=(.seq (.leaf [0,1,2]) (.seq (.leaf [6]) (.leaf [6])))
noncomputable def Nh4:Ctx:=⟨tlook tys,olook [(69,Nib)],ioF,0,false,[]⟩
theorem Nzd (a b:ByteArray) (c:Int):Link Nh4 LL (bodyOf Tryz.f43) Nfn ⟨mkE 11 0 [(0,dS a),(1,dS b),(2,dI c)],[]⟩ (N7j a b c) (fun(t:Nat×(List ByteArray))=>(Exit.ret,⟨mkE 11 0 [(6,.win 0 0 t.1)],[some (.seq .str t.2)]⟩)):= .of fun K h=>by
 simp only[N7j,wpW] at h
 exact .of (by kernel_rfl) h
theorem Nrf (a b:ByteArray) (c:Int) {r:AV} {H':Heap} (h:(Ans.mk _ (N3x a b c) (fun(t:Nat×(List ByteArray))=>(.win 0 0 t.1,[some (.seq .str t.2)])) [] none).run=some (r,H')):Awp Nh4 LL (bodyOf Tryz.f43) Nfn ⟨mkE 11 0 [(0,dS a),(1,dS b),(2,dI c)],[]⟩ (Ret (tlook tys) Tryz.f43.results.toList r H'):=
 ret_of' (Nzd a b c) (by unfold N3x;kernel_rfl) (by
 intro t
 exact ret_mk [.win 0 0 t.1] (by kernel_rfl) (by kernel_rfl) (by kernel_rfl) (by kernel_rfl)) h
def Nhg:Fun:=fun avs H=>
 match avs,H with
 |[.dat .str a,.dat .str b,.dat (.int .i64) c],[]=>⟨_,N3x a b c,fun(t:Nat×(List ByteArray))=>(.win 0 0 t.1,[some (.seq .str t.2)]),[],none⟩
 |_,_=>Ans.no
theorem N11e:Sound Tryz.prog 43 Nhg:=by
 refine fn_sound' (C:=Nh4) (c:=bodyOf Tryz.f43) (cok_of tys_ok (allc N116 alln) (allc Tryz.call69 alln) (by kernel_rfl)) Tryz.func43 (by kernel_rfl) LL Nfn ?_
 intro avs H r H' h
 unfold Nhg at h
 split at h
 ·refine Awp.cast ?_ ?_ ?_ (Nrf _ _ _ h)<;>kernel_rfl
 ·simp[Ans.no,Ans.run] at h
def N59:Ann:=(.seq (.leaf [0]) (.seq (.seq (.leaf [0,5,6]) (.block (.loop (.seq (.leaf [0,5,6,7]) (.seq (.cond (.leaf [0,5,6]) (.leaf [])) (.seq (.block (.seq (.leaf [0,3,4,5,6]) (.seq (.leaf [0,3,5,6,12]) (.cond (.seq (.leaf [2]) (.leaf [2])) (.leaf [0,5,6]))))) (.leaf [0,5,6]))))))) (.seq (.leaf [2]) (.leaf [2]))))
noncomputable def N4x:Ctx:=⟨tlook tys,olook [],ioF,0,false,[]⟩
theorem N168 (a:ByteArray):Link N4x LL (cq [0] (bodyOf Tryz.f44)) (aq [0] N59) ⟨mkE 15 0 [(0,dS a)],[]⟩ (N93) (fun(t:Unit)=>(Exit.normal,⟨mkE 15 0 [(0,dS a)],[]⟩)):= .of fun K h=>by
 simp only[N93,wpW] at h
 exact .of (by kernel_rfl) h
theorem Nta (a:ByteArray):Link N4x LL (cq [0,0,1] (bodyOf Tryz.f44)) (aq [0,0,1] N59) ⟨mkE 15 0 [(0,dS a)],[]⟩ (Nb0) (fun(t:ByteArray×ByteArray×ByteArray×ByteArray×ByteArray×ByteArray)=>(Exit.normal,⟨mkE 15 0 [(0,dS a),(5,.agg [dS t.1,dS t.2.1,dS t.2.2.1,dS t.2.2.2.1,dS t.2.2.2.2.1,dS t.2.2.2.2.2]),(6,dI 0)],[]⟩)):= .of fun K h=>by
 simp only[Nb0,wpW] at h
 exact .of (by kernel_rfl) h
theorem Nrx (a b c d g i j:ByteArray) (k:Int):Link N4x LL (cq [0,0,1,0,1] (bodyOf Tryz.f44)) (aq [0,0,1,0,1] N59) ⟨mkE 15 0 [(0,dS a),(5,.agg [dS b,dS c,dS d,dS g,dS i,dS j]),(6,dI k)],[]⟩ (N6i a b c d g i j k) (Sum.elim (fun(t:Int)=>(Exit.normal,⟨mkE 15 0 [(0,dS a),(5,.agg [dS b,dS c,dS d,dS g,dS i,dS j]),(6,dI t)],[]⟩)) (Sum.elim (fun(t:Int)=>(Exit.ret,⟨mkE 15 0 [(2,dI t)],[]⟩)) (fun(t:Unit)=>((Exit.exit 0),⟨mkE 15 0 [],[]⟩)))):= .of fun K h=>by
 simp only[N6i,wpW] at h
 exact .of (by kernel_rfl) h
theorem N17d:Link N4x LL (cq [1,1] (bodyOf Tryz.f44)) (aq [1,1] N59) ⟨mkE 15 0 [],[]⟩ (N7u) (fun(t:Int)=>(Exit.ret,⟨mkE 15 0 [(2,dI t)],[]⟩)):= .of fun K h=>by
 simp only[N7u,wpW] at h
 exact .of (by kernel_rfl) h
theorem Nwi (a:ByteArray) {r:AV} {H':Heap} (h:(Ans.mk _ (Nk a) (fun(t:Int)=>(dI t,[])) [] none).run=some (r,H')):Awp N4x LL (bodyOf Tryz.f44) N59 ⟨mkE 15 0 [(0,dS a)],[]⟩ (Ret (tlook tys) Tryz.f44.results.toList r H'):=
 ret_of' (Link.cast (by kernel_rfl) (by kernel_rfl) (link_seq (N168 a) (fun(t:Unit)=>(link_seq2 (link_seq (Nta a) (fun(t:ByteArray×ByteArray×ByteArray×ByteArray×ByteArray×ByteArray)=>(link_block (fin2:=(Sum.elim (fun(t26:Unit)=>(Exit.normal,⟨mkE 15 0 [],[]⟩)) (fun(t26:Int)=>(Exit.ret,⟨mkE 15 0 [(2,dI t26)],[]⟩)))) (id:=0) (link_loop (mk:=fun(s:Int)=>⟨mkE 15 0 [(0,dS a),(5,.agg [dS t.1,dS t.2.1,dS t.2.2.1,dS t.2.2.2.1,dS t.2.2.2.2.1,dS t.2.2.2.2.2]),(6,dI s)],[]⟩) (fin:=(Sum.elim (fun(t26:Int)=>(Exit.ret,⟨mkE 15 0 [(2,dI t26)],[]⟩)) (fun(t26:Unit)=>((Exit.exit 0),⟨mkE 15 0 [],[]⟩)))) (by
 rintro(t26|t26) f K h
 ·exact h
 ·exact h) (fun s=>link_map (Nrx a t.1 t.2.1 t.2.2.1 t.2.2.2.1 t.2.2.2.2.1 t.2.2.2.2.2 s) (Sum.elim (fun(t26:Int)=>Sum.inl t26) (Sum.elim (fun(t26:Int)=>Sum.inr (Sum.inl t26)) (fun(t26:Unit)=>Sum.inr (Sum.inr t26)))) (by
 rintro(t26|t26|t26)
 ·kernel_rfl
 ·kernel_rfl
 ·kernel_rfl)) 0) (Sum.elim (fun(t26:Int)=>(Sum.inr t26)) (fun(t26:Unit)=>(Sum.inl ()))) (by
 rintro(t26|t26) K h
 ·exact Eq.mp (by kernel_rfl) h
 ·exact Eq.mp (by kernel_rfl) h)))) (fun(t:Unit)=>(N17d)) (fun(t:Int)=>t) (by
 rintro t
 ·kernel_rfl) (by
 rintro t f K h
 ·exact h))))) (by unfold Nk;kernel_rfl) (by
 intro t
 exact ret_mk [dI t] (by kernel_rfl) (by kernel_rfl) (by kernel_rfl) (by kernel_rfl)) h
def Ndu:Fun:=fun avs H=>
 match avs,H with
 |[.dat .str a],[]=>⟨_,Nk a,fun(t:Int)=>(dI t,[]),[],none⟩
 |_,_=>Ans.no
theorem N175:Sound Tryz.prog 44 Ndu:=by
 refine fn_sound' (C:=N4x) (c:=bodyOf Tryz.f44) (cok_of tys_ok (alln) (alln) (by kernel_rfl)) Tryz.func44 (by kernel_rfl) LL N59 ?_
 intro avs H r H' h
 unfold Ndu at h
 split at h
 ·refine Awp.cast ?_ ?_ ?_ (Nwi _ h)<;>kernel_rfl
 ·simp[Ans.no,Ans.run] at h
def ren_atoiS:Go.Shelf.Ren:=⟨fun|129=>179|171=>34|172=>45|205=>148|243=>59|244=>70|245=>71|246=>96|247=>108|279=>109|280=>110|281=>111|282=>112|283=>137|284=>138|285=>139|286=>140|287=>146|316=>147|317=>178|318=>180|319=>181|320=>175|321=>183|322=>184|337=>221|338=>222|n=>n,fun|0=>0|2=>2|3=>3|4=>4|5=>5|9=>9|20=>20|21=>21|37=>22|46=>115|51=>139|53=>133|75=>69|76=>70|80=>72|85=>118|127=>94|143=>199|145=>201|167=>117|168=>120|171=>132|173=>136|175=>144|210=>147|212=>195|213=>196|232=>237|233=>238|n=>n,fun|15=>2|16=>3|17=>4|18=>7|19=>8|n=>n⟩
theorem lay_atoiS:LaysC.n172 Tryz.prog ren_atoiS:={
 mixed:=by kernel_rfl
 f129:=Tryz.func179.trans (congrArg some (by kernel_rfl))
 f171:=Tryz.func34.trans (congrArg some (by kernel_rfl))
 f172:=Tryz.func45.trans (congrArg some (by kernel_rfl))
 f205:=Tryz.func148.trans (congrArg some (by kernel_rfl))
 f243:=Tryz.func59.trans (congrArg some (by kernel_rfl))
 f244:=Tryz.func70.trans (congrArg some (by kernel_rfl))
 f245:=Tryz.func71.trans (congrArg some (by kernel_rfl))
 f246:=Tryz.func96.trans (congrArg some (by kernel_rfl))
 f247:=Tryz.func108.trans (congrArg some (by kernel_rfl))
 f279:=Tryz.func109.trans (congrArg some (by kernel_rfl))
 f280:=Tryz.func110.trans (congrArg some (by kernel_rfl))
 f281:=Tryz.func111.trans (congrArg some (by kernel_rfl))
 f282:=Tryz.func112.trans (congrArg some (by kernel_rfl))
 f283:=Tryz.func137.trans (congrArg some (by kernel_rfl))
 f284:=Tryz.func138.trans (congrArg some (by kernel_rfl))
 f285:=Tryz.func139.trans (congrArg some (by kernel_rfl))
 f286:=Tryz.func140.trans (congrArg some (by kernel_rfl))
 f287:=Tryz.func146.trans (congrArg some (by kernel_rfl))
 f316:=Tryz.func147.trans (congrArg some (by kernel_rfl))
 f317:=Tryz.func178.trans (congrArg some (by kernel_rfl))
 f318:=Tryz.func180.trans (congrArg some (by kernel_rfl))
 f319:=Tryz.func181.trans (congrArg some (by kernel_rfl))
 f320:=Tryz.func175.trans (congrArg some (by kernel_rfl))
 f321:=Tryz.func183.trans (congrArg some (by kernel_rfl))
 f322:=Tryz.func184.trans (congrArg some (by kernel_rfl))
 f337:=Tryz.func221.trans (congrArg some (by kernel_rfl))
 f338:=Tryz.func222.trans (congrArg some (by kernel_rfl))
 t0:=Tryz.underlying0
 a0:=Tryz.isAgg0
 z0:=Tryz.sizeOf0
 v0:=Tryz.zeroValue0
 t2:=Tryz.underlying2
 a2:=Tryz.isAgg2
 z2:=Tryz.sizeOf2
 v2:=Tryz.zeroValue2
 t3:=Tryz.underlying3
 a3:=Tryz.isAgg3
 z3:=Tryz.sizeOf3
 v3:=Tryz.zeroValue3
 t4:=Tryz.underlying4
 a4:=Tryz.isAgg4
 z4:=Tryz.sizeOf4
 v4:=Tryz.zeroValue4
 t5:=Tryz.underlying5
 a5:=Tryz.isAgg5
 z5:=Tryz.sizeOf5
 v5:=Tryz.zeroValue5
 t9:=Tryz.underlying9
 a9:=Tryz.isAgg9
 z9:=Tryz.sizeOf9
 v9:=Tryz.zeroValue9
 t20:=Tryz.underlying20
 a20:=Tryz.isAgg20
 z20:=Tryz.sizeOf20
 v20:=Tryz.zeroValue20
 t21:=Tryz.underlying21
 a21:=Tryz.isAgg21
 z21:=Tryz.sizeOf21
 v21:=Tryz.zeroValue21
 t37:=Tryz.underlying22
 a37:=Tryz.isAgg22
 z37:=Tryz.sizeOf22
 v37:=Tryz.zeroValue22
 t46:=Tryz.underlying115
 a46:=Tryz.isAgg115
 z46:=Tryz.sizeOf115
 v46:=Tryz.zeroValue115
 t51:=Tryz.underlying139
 a51:=Tryz.isAgg139
 z51:=Tryz.sizeOf139
 v51:=Tryz.zeroValue139
 t53:=Tryz.underlying133
 a53:=Tryz.isAgg133
 z53:=Tryz.sizeOf133
 v53:=Tryz.zeroValue133
 t75:=Tryz.underlying69
 a75:=Tryz.isAgg69
 z75:=Tryz.sizeOf69
 v75:=Tryz.zeroValue69
 t76:=Tryz.underlying70
 a76:=Tryz.isAgg70
 z76:=Tryz.sizeOf70
 v76:=Tryz.zeroValue70
 t85:=Tryz.underlying118
 a85:=Tryz.isAgg118
 z85:=Tryz.sizeOf118
 v85:=Tryz.zeroValue118
 t127:=Tryz.underlying94
 a127:=Tryz.isAgg94
 z127:=Tryz.sizeOf94
 v127:=Tryz.zeroValue94
 t143:=Tryz.underlying199
 a143:=Tryz.isAgg199
 z143:=Tryz.sizeOf199
 v143:=Tryz.zeroValue199
 t145:=Tryz.underlying201
 a145:=Tryz.isAgg201
 z145:=Tryz.sizeOf201
 v145:=Tryz.zeroValue201
 t167:=Tryz.underlying117
 a167:=Tryz.isAgg117
 z167:=Tryz.sizeOf117
 v167:=Tryz.zeroValue117
 t168:=Tryz.underlying120
 a168:=Tryz.isAgg120
 z168:=Tryz.sizeOf120
 v168:=Tryz.zeroValue120
 t171:=Tryz.underlying132
 a171:=Tryz.isAgg132
 z171:=Tryz.sizeOf132
 v171:=Tryz.zeroValue132
 t173:=Tryz.underlying136
 a173:=Tryz.isAgg136
 z173:=Tryz.sizeOf136
 v173:=Tryz.zeroValue136
 t175:=Tryz.underlying144
 a175:=Tryz.isAgg144
 z175:=Tryz.sizeOf144
 v175:=Tryz.zeroValue144
 t210:=Tryz.underlying147
 a210:=Tryz.isAgg147
 z210:=Tryz.sizeOf147
 v210:=Tryz.zeroValue147
 t212:=Tryz.underlying195
 a212:=Tryz.isAgg195
 z212:=Tryz.sizeOf195
 v212:=Tryz.zeroValue195
 t213:=Tryz.underlying196
 a213:=Tryz.isAgg196
 z213:=Tryz.sizeOf196
 t232:=Tryz.underlying237
 a232:=Tryz.isAgg237
 z232:=Tryz.sizeOf237
 v232:=Tryz.zeroValue237
 t233:=Tryz.underlying238
 a233:=Tryz.isAgg238
 z233:=Tryz.sizeOf238
 v233:=Tryz.zeroValue238
 g15:=by kernel_rfl
 g16:=by kernel_rfl
 g17:=by kernel_rfl
 g18:=by kernel_rfl
 g19:=by kernel_rfl
 t80:=Tryz.underlying72
 a80:=Tryz.isAgg72
 z80:=Tryz.sizeOf72
 v80:=Tryz.zeroValue72
 i0:=by kernel_rfl
 i2:=by kernel_rfl
 i3:=by kernel_rfl
 i4:=by kernel_rfl
 i5:=by kernel_rfl
 i9:=by kernel_rfl
 i20:=by kernel_rfl
 i21:=by kernel_rfl
 i37:=by kernel_rfl
 i46:=by kernel_rfl
 i51:=by kernel_rfl
 i53:=by kernel_rfl
 i75:=by kernel_rfl
 i76:=by kernel_rfl
 i80:=by kernel_rfl
 i85:=by kernel_rfl
 i127:=by kernel_rfl
 i143:=by kernel_rfl
 i145:=by kernel_rfl
 i167:=by kernel_rfl
 i168:=by kernel_rfl
 i171:=by kernel_rfl
 i173:=by kernel_rfl
 i175:=by kernel_rfl
 i210:=by kernel_rfl
 i212:=by kernel_rfl
 i232:=by kernel_rfl
 i233:=by kernel_rfl
 m15:=by kernel_rfl
 m16:=by kernel_rfl
 m17:=by kernel_rfl
 m18:=by kernel_rfl
 m19:=by kernel_rfl
 c0:=by kernel_rfl
 c2:=by kernel_rfl
 c3:=by kernel_rfl
 c4:=by kernel_rfl
 c5:=by kernel_rfl
 c9:=by kernel_rfl
 c20:=by kernel_rfl
 c21:=by kernel_rfl
 c37:=by kernel_rfl
 c46:=by kernel_rfl
 c51:=by kernel_rfl
 c53:=by kernel_rfl
 c75:=by kernel_rfl
 c76:=by kernel_rfl
 c80:=by kernel_rfl
 c85:=by kernel_rfl
 c127:=by kernel_rfl
 c143:=by kernel_rfl
 c145:=by kernel_rfl
 c167:=by kernel_rfl
 c168:=by kernel_rfl
 c171:=by kernel_rfl
 c173:=by kernel_rfl
 c175:=by kernel_rfl
 c210:=by kernel_rfl
 c212:=by kernel_rfl
 c213:=by kernel_rfl
 c232:=by kernel_rfl
 c233:=by kernel_rfl}
def Np2:Fun:=F_atoiS
theorem Ntf:Sound Tryz.prog 45 Np2:=atoiS_sound lay_atoiS rfl rfl
def Nel:Ann:=(.seq (.leaf [0]) (.seq (.seq (.leaf [3]) (.block (.seq (.leaf [3,4]) (.cond (.seq (.leaf [2]) (.leaf [2])) (.seq (.leaf [6]) (.cond (.seq (.leaf [2]) (.leaf [2])) (.leaf []))))))) (.seq (.leaf [2]) (.leaf [2]))))
noncomputable def Ng0:Ctx:=⟨tlook tys,olook [],ioF,0,false,[]⟩
theorem Nrz (a:Int):Link Ng0 LL (bodyOf Tryz.f33) Nel ⟨mkE 8 0 [(0,dI a)],[]⟩ (N6o a) (fun(t:Int)=>(Exit.ret,⟨mkE 8 0 [(2,dI t)],[]⟩)):= .of fun K h=>by
 simp only[N6o,wpW] at h
 exact .of (by kernel_rfl) h
theorem N15r (a:Int) {r:AV} {H':Heap} (h:(Ans.mk _ (Np a) (fun(t:Int)=>(dI t,[])) [] none).run=some (r,H')):Awp Ng0 LL (bodyOf Tryz.f33) Nel ⟨mkE 8 0 [(0,dI a)],[]⟩ (Ret (tlook tys) Tryz.f33.results.toList r H'):=
 ret_of' (Nrz a) (by unfold Np;kernel_rfl) (by
 intro t
 exact ret_mk [dI t] (by kernel_rfl) (by kernel_rfl) (by kernel_rfl) (by kernel_rfl)) h
def N9x:Fun:=fun avs H=>
 match avs,H with
 |[.dat (.int .i64) a],[]=>⟨_,Np a,fun(t:Int)=>(dI t,[]),[],none⟩
 |_,_=>Ans.no
theorem Nni:Sound Tryz.prog 33 N9x:=by
 refine fn_sound' (C:=Ng0) (c:=bodyOf Tryz.f33) (cok_of tys_ok (alln) (alln) (by kernel_rfl)) Tryz.func33 (by kernel_rfl) LL Nel ?_
 intro avs H r H' h
 unfold N9x at h
 split at h
 ·refine Awp.cast ?_ ?_ ?_ (N15r _ h)<;>kernel_rfl
 ·simp[Ans.no,Ans.run] at h
def Nio:Ann:=(.seq (.leaf [1]) (.seq (.leaf [1,3]) (.seq (.leaf [2]) (.leaf [2]))))
noncomputable def Nif:Ctx:=⟨tlook tys,olook [(33,N9x)],ioF,0,false,[]⟩
theorem Ns3 (a b c:Int):Link Nif LL (bodyOf Tryz.f56) Nio ⟨mkE 23 0 [(0,.agg [dI a,dI b,dI c])],[]⟩ (N7q a b c) (fun(t:Bool)=>(Exit.ret,⟨mkE 23 0 [(2,dB t)],[]⟩)):= .of fun K h=>by
 simp only[N7q,wpW] at h
 exact .of (by kernel_rfl) h
theorem Npo (a b c:Int) {r:AV} {H':Heap} (h:(Ans.mk _ (N36 a b c) (fun(t:Bool)=>(dB t,[])) [] none).run=some (r,H')):Awp Nif LL (bodyOf Tryz.f56) Nio ⟨mkE 23 0 [(0,.agg [dI a,dI b,dI c])],[]⟩ (Ret (tlook tys) Tryz.f56.results.toList r H'):=
 ret_of' (Ns3 a b c) (by unfold N36;kernel_rfl) (by
 intro t
 exact ret_mk [dB t] (by kernel_rfl) (by kernel_rfl) (by kernel_rfl) (by kernel_rfl)) h
def Nbz:Fun:=fun avs H=>
 match avs,H with
 |[.agg [.dat (.int .i64) a,.dat (.int .i64) b,.dat (.int .i64) c]],[]=>⟨_,N36 a b c,fun(t:Bool)=>(dB t,[]),[],none⟩
 |_,_=>Ans.no
theorem Nny:Sound Tryz.prog 56 Nbz:=by
 refine fn_sound' (C:=Nif) (c:=bodyOf Tryz.f56) (cok_of tys_ok (allc Nni alln) (allc Tryz.call33 alln) (by kernel_rfl)) Tryz.func56 (by kernel_rfl) LL Nio ?_
 intro avs H r H' h
 unfold Nbz at h
 split at h
 ·refine Awp.cast ?_ ?_ ?_ (Npo _ _ _ h)<;>kernel_rfl
 ·simp[Ans.no,Ans.run] at h
def Ndn:Ann:=(.seq (.leaf [1]) (.seq (.leaf [2]) (.leaf [2])))
noncomputable def Ndd:Ctx:=⟨tlook tys,olook [(56,Nbz)],ioF,0,false,[]⟩
theorem N17y (a b c:Int):Link Ndd LL (bodyOf Tryz.f32) Ndn ⟨mkE 35 0 [(0,.agg [dI a,dI b,dI c])],[]⟩ (Nbo a b c) (fun(t:Bool)=>(Exit.ret,⟨mkE 35 0 [(2,dB t)],[]⟩)):= .of fun K h=>by
 simp only[Nbo,wpW] at h
 exact .of (by kernel_rfl) h
theorem Nss (a b c:Int) {r:AV} {H':Heap} (h:(Ans.mk _ (N62 a b c) (fun(t:Bool)=>(dB t,[])) [] none).run=some (r,H')):Awp Ndd LL (bodyOf Tryz.f32) Ndn ⟨mkE 35 0 [(0,.agg [dI a,dI b,dI c])],[]⟩ (Ret (tlook tys) Tryz.f32.results.toList r H'):=
 ret_of' (N17y a b c) (by unfold N62;kernel_rfl) (by
 intro t
 exact ret_mk [dB t] (by kernel_rfl) (by kernel_rfl) (by kernel_rfl) (by kernel_rfl)) h
def Nh8:Fun:=fun avs H=>
 match avs,H with
 |[.agg [.dat (.int .i64) a,.dat (.int .i64) b,.dat (.int .i64) c]],[]=>⟨_,N62 a b c,fun(t:Bool)=>(dB t,[]),[],none⟩
 |_,_=>Ans.no
theorem N11q:Sound Tryz.prog 32 Nh8:=by
 refine fn_sound' (C:=Ndd) (c:=bodyOf Tryz.f32) (cok_of tys_ok (allc Nny alln) (allc Tryz.call56 alln) (by kernel_rfl)) Tryz.func32 (by kernel_rfl) LL Ndn ?_
 intro avs H r H' h
 unfold Nh8 at h
 split at h
 ·refine Awp.cast ?_ ?_ ?_ (Nss _ _ _ h)<;>kernel_rfl
 ·simp[Ans.no,Ans.run] at h
def ren_itoaS:Go.Shelf.Ren:=⟨fun|129=>179|171=>34|243=>59|246=>96|283=>137|284=>138|285=>139|286=>140|317=>178|318=>180|319=>181|320=>175|337=>221|338=>222|n=>n,fun|0=>0|2=>2|3=>3|4=>4|5=>5|9=>9|20=>20|37=>22|46=>115|51=>139|53=>133|171=>132|173=>136|212=>195|213=>196|232=>237|233=>238|n=>n,fun|17=>4|18=>7|19=>8|n=>n⟩
theorem lay_itoaS:Lays.n171 Tryz.prog ren_itoaS:={
 mixed:=by kernel_rfl
 f129:=Tryz.func179.trans (congrArg some (by kernel_rfl))
 f171:=Tryz.func34.trans (congrArg some (by kernel_rfl))
 f243:=Tryz.func59.trans (congrArg some (by kernel_rfl))
 f246:=Tryz.func96.trans (congrArg some (by kernel_rfl))
 f283:=Tryz.func137.trans (congrArg some (by kernel_rfl))
 f284:=Tryz.func138.trans (congrArg some (by kernel_rfl))
 f285:=Tryz.func139.trans (congrArg some (by kernel_rfl))
 f286:=Tryz.func140.trans (congrArg some (by kernel_rfl))
 f317:=Tryz.func178.trans (congrArg some (by kernel_rfl))
 f318:=Tryz.func180.trans (congrArg some (by kernel_rfl))
 f319:=Tryz.func181.trans (congrArg some (by kernel_rfl))
 f320:=Tryz.func175.trans (congrArg some (by kernel_rfl))
 f337:=Tryz.func221.trans (congrArg some (by kernel_rfl))
 f338:=Tryz.func222.trans (congrArg some (by kernel_rfl))
 t0:=Tryz.underlying0
 a0:=Tryz.isAgg0
 z0:=Tryz.sizeOf0
 v0:=Tryz.zeroValue0
 t2:=Tryz.underlying2
 a2:=Tryz.isAgg2
 z2:=Tryz.sizeOf2
 v2:=Tryz.zeroValue2
 t3:=Tryz.underlying3
 a3:=Tryz.isAgg3
 z3:=Tryz.sizeOf3
 v3:=Tryz.zeroValue3
 t4:=Tryz.underlying4
 a4:=Tryz.isAgg4
 z4:=Tryz.sizeOf4
 v4:=Tryz.zeroValue4
 t5:=Tryz.underlying5
 a5:=Tryz.isAgg5
 z5:=Tryz.sizeOf5
 v5:=Tryz.zeroValue5
 t9:=Tryz.underlying9
 a9:=Tryz.isAgg9
 z9:=Tryz.sizeOf9
 v9:=Tryz.zeroValue9
 t20:=Tryz.underlying20
 a20:=Tryz.isAgg20
 z20:=Tryz.sizeOf20
 v20:=Tryz.zeroValue20
 t37:=Tryz.underlying22
 a37:=Tryz.isAgg22
 z37:=Tryz.sizeOf22
 v37:=Tryz.zeroValue22
 t46:=Tryz.underlying115
 a46:=Tryz.isAgg115
 z46:=Tryz.sizeOf115
 v46:=Tryz.zeroValue115
 t51:=Tryz.underlying139
 a51:=Tryz.isAgg139
 z51:=Tryz.sizeOf139
 v51:=Tryz.zeroValue139
 t53:=Tryz.underlying133
 a53:=Tryz.isAgg133
 z53:=Tryz.sizeOf133
 v53:=Tryz.zeroValue133
 t171:=Tryz.underlying132
 a171:=Tryz.isAgg132
 z171:=Tryz.sizeOf132
 v171:=Tryz.zeroValue132
 t173:=Tryz.underlying136
 a173:=Tryz.isAgg136
 z173:=Tryz.sizeOf136
 v173:=Tryz.zeroValue136
 t212:=Tryz.underlying195
 a212:=Tryz.isAgg195
 z212:=Tryz.sizeOf195
 v212:=Tryz.zeroValue195
 t213:=Tryz.underlying196
 a213:=Tryz.isAgg196
 z213:=Tryz.sizeOf196
 t232:=Tryz.underlying237
 a232:=Tryz.isAgg237
 z232:=Tryz.sizeOf237
 v232:=Tryz.zeroValue237
 t233:=Tryz.underlying238
 a233:=Tryz.isAgg238
 z233:=Tryz.sizeOf238
 v233:=Tryz.zeroValue238
 g17:=by kernel_rfl
 g18:=by kernel_rfl
 g19:=by kernel_rfl}
def Nkh:Fun:=F_itoaS
theorem N15p:Sound Tryz.prog 34 Nkh:=itoaS_sound lay_itoaS
def Ny:Ann:=(.seq (.leaf [1]) (.seq (.seq (.leaf [1,8]) (.cond (.seq (.leaf [2]) (.leaf [2])) (.leaf [1]))) (.seq (.leaf [1,3]) (.seq (.seq (.draw [7,4] [0,1,2,3,4,5,6,10,7,8,9] [] [3,21,22,23]) (.block (.loop (.seq (.leaf [3,21,22,23,24]) (.seq (.cond (.leaf [3,21,22,23]) (.leaf [3])) (.seq (.block (.seq (.leaf [3,5,21,22,23]) (.leaf [3,21,22,23]))) (.leaf [3,21,22,23]))))))) (.seq (.leaf [2]) (.leaf [2]))))))
noncomputable def N5n:Ctx:=⟨tlook tys,olook [(32,Nh8),(33,N9x),(34,Nkh)],ioF,0,false,[]⟩
theorem N12v (a b c:Int):Link N5n LL (Code.seq (cq [0] (bodyOf Tryz.f11)) (Code.seq (cq [0,1] (bodyOf Tryz.f11)) (cq [0,1,1] (bodyOf Tryz.f11)))) (Ann.seq (aq [0] Ny) (Ann.seq (aq [0,1] Ny) (aq [0,1,1] Ny))) ⟨mkE 34 0 [(0,.agg [dI a,dI b,dI c])],[]⟩ (Nao a b c) (Sum.elim (fun(t:ByteArray)=>(Exit.normal,⟨mkE 34 0 [(1,.ptr 0 0),(3,dS t)],[some (.box [dI a,dI b,dI c])]⟩)) (fun(t:ByteArray)=>(Exit.ret,⟨mkE 34 0 [(2,dS t)],[]⟩))):= .of fun K h=>by
 simp only[Nao,wpW] at h
 exact .of (by kernel_rfl) h
theorem N154 (a:ByteArray) (b c d:Int):Link N5n LL (cq [0,0,1,1,1] (bodyOf Tryz.f11)) (aq [0,0,1,1,1] Ny) ⟨mkE 34 0 [(1,.ptr 0 0),(3,dS a)],[some (.box [dI b,dI c,dI d])]⟩ (N4r b c d) (fun(t:(List Int)×Int)=>(Exit.normal,⟨mkE 34 0 [(3,dS a),(21,dL t.1),(22,dI t.2),(23,dI 0)],[]⟩)):= .of fun K h=>by
 simp only[N4r,wpW] at h
 exact .of (by kernel_rfl) h
theorem Nwp (a:ByteArray) (b:List Int) (c d:Int):Link N5n LL (cq [0,0,1,0,1,1,1] (bodyOf Tryz.f11)) (aq [0,0,1,0,1,1,1] Ny) ⟨mkE 34 0 [(3,dS a),(21,dL b),(22,dI c),(23,dI d)],[]⟩ (N5k a b c d) (Sum.elim (fun(t:ByteArray×Int)=>(Exit.normal,⟨mkE 34 0 [(3,dS t.1),(21,dL b),(22,dI c),(23,dI t.2)],[]⟩)) (fun(t:ByteArray)=>((Exit.exit 0),⟨mkE 34 0 [(3,dS t)],[]⟩))):= .of fun K h=>by
 simp only[N5k,wpW] at h
 exact .of (by kernel_rfl) h
theorem N107 (a:ByteArray):Link N5n LL (cq [1,1,1,1] (bodyOf Tryz.f11)) (aq [1,1,1,1] Ny) ⟨mkE 34 0 [(3,dS a)],[]⟩ (N5a a) (fun(t:ByteArray)=>(Exit.ret,⟨mkE 34 0 [(2,dS t)],[]⟩)):= .of fun K h=>by
 simp only[N5a,wpW] at h
 exact .of (by kernel_rfl) h
theorem Nuy (b d g:Int) {r:AV} {H':Heap} (h:(Ans.mk _ (N3 b d g) (fun(t:ByteArray)=>(dS t,[])) [] none).run=some (r,H')):Awp N5n LL (bodyOf Tryz.f11) Ny ⟨mkE 34 0 [(0,.agg [dI b,dI d,dI g])],[]⟩ (Ret (tlook tys) Tryz.f11.results.toList r H'):=
 ret_of' (Link.cast (by kernel_rfl) (by kernel_rfl) (link_group (c:=(cq [0,1,1] (bodyOf Tryz.f11))) (a:=(aq [0,1,1] Ny)) [(cq [0] (bodyOf Tryz.f11)),(cq [0,1] (bodyOf Tryz.f11))] [(aq [0] Ny),(aq [0,1] Ny)] rfl (link_seq2 (N12v b d g) (fun(t:ByteArray)=>(link_seq (link_seq (N154 t b d g) (fun(t48:(List Int)×Int)=>(link_block (fin2:=(fun(t27:ByteArray)=>(Exit.normal,⟨mkE 34 0 [(3,dS t27)],[]⟩))) (id:=0) (link_loop (mk:=fun(s:ByteArray×Int)=>⟨mkE 34 0 [(3,dS s.1),(21,dL t48.1),(22,dI t48.2),(23,dI s.2)],[]⟩) (fin:=(fun(t27:ByteArray)=>((Exit.exit 0),⟨mkE 34 0 [(3,dS t27)],[]⟩))) (by
 rintro t27 f K h
 ·exact h) (fun s=>link_map (Nwp s.1 t48.1 t48.2 s.2) (Sum.elim (fun(t27:ByteArray×Int)=>Sum.inl (t27.1,t27.2)) (fun(t27:ByteArray)=>Sum.inr t27)) (by
 rintro(t27|t27)
 ·kernel_rfl
 ·kernel_rfl)) (t,0)) (fun(t27:ByteArray)=>t27) (by
 rintro t27 K h
 ·exact Eq.mp (by kernel_rfl) h)))) (fun(t48:ByteArray)=>(N107 t48)))) (fun(t:ByteArray)=>t) (by
 rintro t
 ·kernel_rfl) (by
 rintro t f K h
 ·exact h)))) (by unfold N3;kernel_rfl) (by
 intro t
 exact ret_mk [dS t] (by kernel_rfl) (by kernel_rfl) (by kernel_rfl) (by kernel_rfl)) h
def Nb3:Fun:=fun avs H=>
 match avs,H with
 |[.agg [.dat (.int .i64) a,.dat (.int .i64) b,.dat (.int .i64) c]],[]=>⟨_,N3 a b c,fun(t:ByteArray)=>(dS t,[]),[],none⟩
 |_,_=>Ans.no
theorem Ndk:Sound Tryz.prog 11 Nb3:=by
 refine fn_sound' (C:=N5n) (c:=bodyOf Tryz.f11) (cok_of tys_ok (allc N11q (allc Nni (allc N15p alln))) (allc Tryz.call32 (allc Tryz.call33 (allc Tryz.call34 alln))) (by kernel_rfl)) Tryz.func11 (by kernel_rfl) LL Ny ?_
 intro avs H r H' h
 unfold Nb3 at h
 split at h
 ·refine Awp.cast ?_ ?_ ?_ (Nuy _ _ _ h)<;>kernel_rfl
 ·simp[Ans.no,Ans.run] at h
def Ni7:Ann:=(.seq (.leaf [0,2]) (.seq (.leaf [0,2,4]) (.seq (.leaf [0,2,4,5]) (.seq (.seq (.leaf [0,2,4,5,15]) (.cond (.leaf [0,2,4,5]) (.leaf [0,2,4,5]))) (.seq (.seq (.leaf [0,2,4,5,26]) (.cond (.leaf [0,2,5]) (.leaf [0,2,5]))) (.seq (.seq (.leaf [2,5,42]) (.cond (.seq (.leaf [2,3]) (.leaf [2,3])) (.leaf [2,5]))) (.seq (.leaf [2,3]) (.leaf [2,3]))))))))
noncomputable def Nf0:Ctx:=⟨tlook tys,olook [(43,Nhg),(44,Ndu),(45,Np2),(11,Nb3)],ioF,0,false,[]⟩
theorem Nso (a:ByteArray):Link Nf0 LL (bodyOf Tryz.f22) Ni7 ⟨mkE 45 0 [(0,dS a)],[]⟩ (N6f a) (fun(t:Bool×Int×Int×Int)=>(Exit.ret,⟨mkE 45 0 [(2,.ptr 0 0),(3,dB t.1)],[some (.box [dI t.2.1,dI t.2.2.1,dI t.2.2.2])]⟩)):= .of fun K h=>by
 simp only[N6f,wpW] at h
 exact .of (by kernel_rfl) h
theorem Nr2 (a:ByteArray) {r:AV} {H':Heap} (h:(Ans.mk _ (N1f a) (fun(t:Bool×Int×Int×Int)=>(.tup [.agg [dI t.2.1,dI t.2.2.1,dI t.2.2.2],dB t.1],[some (.box [dI t.2.1,dI t.2.2.1,dI t.2.2.2])])) [] none).run=some (r,H')):Awp Nf0 LL (bodyOf Tryz.f22) Ni7 ⟨mkE 45 0 [(0,dS a)],[]⟩ (Ret (tlook tys) Tryz.f22.results.toList r H'):=
 ret_of' (Nso a) (by unfold N1f;kernel_rfl) (by
 intro t
 exact ret_mk [.agg [dI t.2.1,dI t.2.2.1,dI t.2.2.2],dB t.1] (by kernel_rfl) (by kernel_rfl) (by kernel_rfl) (by kernel_rfl)) h
def N8u:Fun:=fun avs H=>
 match avs,H with
 |[.dat .str a],[]=>⟨_,N1f a,fun(t:Bool×Int×Int×Int)=>(.tup [.agg [dI t.2.1,dI t.2.2.1,dI t.2.2.2],dB t.1],[some (.box [dI t.2.1,dI t.2.2.1,dI t.2.2.2])]),[],none⟩
 |_,_=>Ans.no
theorem Nok:Sound Tryz.prog 22 N8u:=by
 refine fn_sound' (C:=Nf0) (c:=bodyOf Tryz.f22) (cok_of tys_ok (allc N11e (allc N175 (allc Ntf (allc Ndk alln)))) (allc Tryz.call43 (allc Tryz.call44 (allc Tryz.call45 (allc Tryz.call11 alln)))) (by kernel_rfl)) Tryz.func22 (by kernel_rfl) LL Ni7 ?_
 intro avs H r H' h
 unfold N8u at h
 split at h
 ·refine Awp.cast ?_ ?_ ?_ (Nr2 _ h)<;>kernel_rfl
 ·simp[Ans.no,Ans.run] at h
def N1w:Ann:=(.seq (.leaf [0]) (.seq (.leaf [0,4]) (.seq (.leaf [0,4,5]) (.block (.loop (.block (.seq (.leaf [0,4,5,6,8]) (.seq (.leaf [0,4,5,6,8,9,10]) (.seq (.seq (.leaf [0,4,5,6,9,29]) (.cond (.seq (.leaf [2,3]) (.leaf [2,3])) (.leaf [0,4,5,6,9]))) (.seq (.leaf [0,4,5,6]) (.leaf [0,4,5])))))))))))
noncomputable def N84:Ctx:=⟨tlook tys,olook [(21,Nfc),(22,N8u)],ioF,0,false,[]⟩
theorem Nqs (a:ByteArray):Link N84 LL (Code.seq (cq [0] (bodyOf Tryz.f5)) (Code.seq (cq [0,1] (bodyOf Tryz.f5)) (cq [0,1,1] (bodyOf Tryz.f5)))) (Ann.seq (aq [0] N1w) (Ann.seq (aq [0,1] N1w) (aq [0,1,1] N1w))) ⟨mkE 41 0 [(0,dS a)],[]⟩ (Nbk) (fun(t:Unit)=>(Exit.normal,⟨mkE 41 0 [(0,dS a),(4,.slc 0),(5,dI 0)],[some (.seq (.pair (.int .i64) (.pair (.int .i64) (.pair (.int .i64) .unit))) ([]:List (Int×Int×Int×Unit)))]⟩)):= .of fun K h=>by
 simp only[Nbk,wpW] at h
 exact .of (by kernel_rfl) h
theorem Nvv (a:ByteArray) (b:Int) (c:List (Int×Int×Int×Unit)):Link N84 LL (cq [0,0,1,1,1] (bodyOf Tryz.f5)) (aq [0,0,1,1,1] N1w) ⟨mkE 41 0 [(0,dS a),(4,.slc 0),(5,dI b)],[some (.seq (.pair (.int .i64) (.pair (.int .i64) (.pair (.int .i64) .unit))) c)]⟩ (N3u a b c) (Sum.elim (fun(t:Int×(List (Int×Int×Int×Unit)))=>(Exit.normal,⟨mkE 41 0 [(0,dS a),(4,.slc 0),(5,dI t.1)],[some (.seq (.pair (.int .i64) (.pair (.int .i64) (.pair (.int .i64) .unit))) t.2)]⟩)) (fun(t:Int×(List (Int×Int×Int×Unit)))=>(Exit.ret,⟨mkE 41 0 [(2,.slc 0),(3,dI t.1)],[some (.seq (.pair (.int .i64) (.pair (.int .i64) (.pair (.int .i64) .unit))) t.2)]⟩))):= .of fun K h=>by
 simp only[N3u,wpW] at h
 exact .of (by kernel_rfl) h
theorem N14l (b:ByteArray) {r:AV} {H':Heap} (h:(Ans.mk _ (N29 b) (fun(t:Int×(List (Int×Int×Int×Unit)))=>(.tup [.slc 0,dI t.1],[some (.seq (.pair (.int .i64) (.pair (.int .i64) (.pair (.int .i64) .unit))) t.2)])) [] none).run=some (r,H')):Awp N84 LL (bodyOf Tryz.f5) N1w ⟨mkE 41 0 [(0,dS b)],[]⟩ (Ret (tlook tys) Tryz.f5.results.toList r H'):=
 ret_of' (Link.cast (by kernel_rfl) (by kernel_rfl) (link_group (c:=(cq [0,1,1] (bodyOf Tryz.f5))) (a:=(aq [0,1,1] N1w)) [(cq [0] (bodyOf Tryz.f5)),(cq [0,1] (bodyOf Tryz.f5))] [(aq [0] N1w),(aq [0,1] N1w)] rfl (link_seq (Nqs b) (fun(t:Unit)=>(link_block (fin2:=(fun(t:Int×(List (Int×Int×Int×Unit)))=>(Exit.ret,⟨mkE 41 0 [(2,.slc 0),(3,dI t.1)],[some (.seq (.pair (.int .i64) (.pair (.int .i64) (.pair (.int .i64) .unit))) t.2)]⟩))) (id:=0) (link_loop (mk:=fun(s:Int×(List (Int×Int×Int×Unit)))=>⟨mkE 41 0 [(0,dS b),(4,.slc 0),(5,dI s.1)],[some (.seq (.pair (.int .i64) (.pair (.int .i64) (.pair (.int .i64) .unit))) s.2)]⟩) (fin:=(fun(t:Int×(List (Int×Int×Int×Unit)))=>(Exit.ret,⟨mkE 41 0 [(2,.slc 0),(3,dI t.1)],[some (.seq (.pair (.int .i64) (.pair (.int .i64) (.pair (.int .i64) .unit))) t.2)]⟩))) (by
 rintro t f K h
 ·exact h) (fun s=>link_map (Nvv b s.1 s.2) (Sum.elim (fun(t:Int×(List (Int×Int×Int×Unit)))=>Sum.inl (t.1,t.2)) (fun(t:Int×(List (Int×Int×Int×Unit)))=>Sum.inr t)) (by
 rintro(t|t)
 ·kernel_rfl
 ·kernel_rfl)) (0,([]:List (Int×Int×Int×Unit)))) (fun(t:Int×(List (Int×Int×Int×Unit)))=>t) (by
 rintro t K h
 ·exact Eq.mp (by kernel_rfl) h)))))) (by unfold N29;kernel_rfl) (by
 intro t
 exact ret_mk [.slc 0,dI t.1] (by kernel_rfl) (by kernel_rfl) (by kernel_rfl) (by kernel_rfl)) h
def Ni8:Fun:=fun avs H=>
 match avs,H with
 |[.dat .str a],[]=>⟨_,N29 a,fun(t:Int×(List (Int×Int×Int×Unit)))=>(.tup [.slc 0,dI t.1],[some (.seq (.pair (.int .i64) (.pair (.int .i64) (.pair (.int .i64) .unit))) t.2)]),[],none⟩
 |_,_=>Ans.no
theorem N17u:Sound Tryz.prog 5 Ni8:=by
 refine fn_sound' (C:=N84) (c:=bodyOf Tryz.f5) (cok_of tys_ok (allc Nzu (allc Nok alln)) (allc Tryz.call21 (allc Tryz.call22 alln)) (by kernel_rfl)) Tryz.func5 (by kernel_rfl) LL N1w ?_
 intro avs H r H' h
 unfold Ni8 at h
 split at h
 ·refine Awp.cast ?_ ?_ ?_ (N14l _ h)<;>kernel_rfl
 ·simp[Ans.no,Ans.run] at h
def Nw:Ann:=(.seq (.leaf [0,1]) (.seq (.leaf [0,1,5]) (.seq (.leaf [0,1,5,6]) (.seq (.seq (.leaf [0,1,5,6,7]) (.block (.loop (.seq (.seq (.leaf [0,1,5,6,7,12]) (.cond (.leaf [0,1,5,6,7]) (.leaf [0,5,6]))) (.seq (.block (.seq (.leaf [0,1,5,6,7,19]) (.cond (.seq (.leaf [0,1,5,7]) (.leaf [0,1,5,6,7])) (.leaf [0,1,5,6,7])))) (.leaf [0,1,5,6,7])))))) (.seq (.leaf [4]) (.leaf [4]))))))
noncomputable def N5u:Ctx:=⟨tlook tys,olook [],ioF,0,false,[]⟩
theorem N14b (a:ByteArray) (b:Int):Link N5u LL (Code.seq (cq [0] (bodyOf Tryz.f46)) (Code.seq (cq [0,1] (bodyOf Tryz.f46)) (cq [0,1,1] (bodyOf Tryz.f46)))) (Ann.seq (aq [0] Nw) (Ann.seq (aq [0,1] Nw) (aq [0,1,1] Nw))) ⟨mkE 35 0 [(0,dS a),(1,dU b)],[]⟩ (Nau) (fun(t:Unit)=>(Exit.normal,⟨mkE 35 0 [(0,dS a),(1,dU b),(5,.slc 0),(6,dI 0)],[some (.seq .str ([]:List ByteArray))]⟩)):= .of fun K h=>by
 simp only[Nau,wpW] at h
 exact .of (by kernel_rfl) h
theorem Nyz (a:ByteArray) (b:Int):Link N5u LL (cq [0,0,1,1,1] (bodyOf Tryz.f46)) (aq [0,0,1,1,1] Nw) ⟨mkE 35 0 [(0,dS a),(1,dU b),(5,.slc 0),(6,dI 0)],[some (.seq .str ([]:List ByteArray))]⟩ (N87) (fun(t:Unit)=>(Exit.normal,⟨mkE 35 0 [(0,dS a),(1,dU b),(5,.slc 0),(6,dI 0),(7,dI 0)],[some (.seq .str ([]:List ByteArray))]⟩)):= .of fun K h=>by
 simp only[N87,wpW] at h
 exact .of (by kernel_rfl) h
theorem N13b (a:ByteArray) (b c d:Int) (g:List ByteArray):Link N5u LL (cq [0,0,1,0,1,1,1] (bodyOf Tryz.f46)) (aq [0,0,1,0,1,1,1] Nw) ⟨mkE 35 0 [(0,dS a),(1,dU b),(5,.slc 0),(6,dI c),(7,dI d)],[some (.seq .str g)]⟩ (N3c a b c d g) (Sum.elim (fun(t:Int×Int×(List ByteArray))=>(Exit.normal,⟨mkE 35 0 [(0,dS a),(1,dU b),(5,.slc 0),(6,dI t.1),(7,dI t.2.1)],[some (.seq .str t.2.2)]⟩)) (fun(t:Int×(List ByteArray))=>((Exit.exit 0),⟨mkE 35 0 [(0,dS a),(5,.slc 0),(6,dI t.1)],[some (.seq .str t.2)]⟩))):= .of fun K h=>by
 simp only[N3c,wpW] at h
 exact .of (by kernel_rfl) h
theorem Nul (a:ByteArray) (b:Int) (c:List ByteArray):Link N5u LL (cq [1,1,1,1] (bodyOf Tryz.f46)) (aq [1,1,1,1] Nw) ⟨mkE 35 0 [(0,dS a),(5,.slc 0),(6,dI b)],[some (.seq .str c)]⟩ (N9s a b c) (fun(t:(List ByteArray))=>(Exit.ret,⟨mkE 35 0 [(4,.slc 0)],[some (.seq .str t)]⟩)):= .of fun K h=>by
 simp only[N9s,wpW] at h
 exact .of (by kernel_rfl) h
theorem Nzx (b:ByteArray) (d:Int) {r:AV} {H':Heap} (h:(Ans.mk _ (N35 b d) (fun(t:(List ByteArray))=>(.slc 0,[some (.seq .str t)])) [] none).run=some (r,H')):Awp N5u LL (bodyOf Tryz.f46) Nw ⟨mkE 35 0 [(0,dS b),(1,dU d)],[]⟩ (Ret (tlook tys) Tryz.f46.results.toList r H'):=
 ret_of' (Link.cast (by kernel_rfl) (by kernel_rfl) (link_group (c:=(cq [0,1,1] (bodyOf Tryz.f46))) (a:=(aq [0,1,1] Nw)) [(cq [0] (bodyOf Tryz.f46)),(cq [0,1] (bodyOf Tryz.f46))] [(aq [0] Nw),(aq [0,1] Nw)] rfl (link_seq (N14b b d) (fun(t:Unit)=>(link_seq (link_seq (Nyz b d) (fun(t:Unit)=>(link_block (fin2:=(fun(t:Int×(List ByteArray))=>(Exit.normal,⟨mkE 35 0 [(0,dS b),(5,.slc 0),(6,dI t.1)],[some (.seq .str t.2)]⟩))) (id:=0) (link_loop (mk:=fun(s:Int×Int×(List ByteArray))=>⟨mkE 35 0 [(0,dS b),(1,dU d),(5,.slc 0),(6,dI s.1),(7,dI s.2.1)],[some (.seq .str s.2.2)]⟩) (fin:=(fun(t:Int×(List ByteArray))=>((Exit.exit 0),⟨mkE 35 0 [(0,dS b),(5,.slc 0),(6,dI t.1)],[some (.seq .str t.2)]⟩))) (by
 rintro t f K h
 ·exact h) (fun s=>link_map (N13b b d s.1 s.2.1 s.2.2) (Sum.elim (fun(t:Int×Int×(List ByteArray))=>Sum.inl (t.1,t.2.1,t.2.2)) (fun(t:Int×(List ByteArray))=>Sum.inr t)) (by
 rintro(t|t)
 ·kernel_rfl
 ·kernel_rfl)) (0,0,([]:List ByteArray))) (fun(t:Int×(List ByteArray))=>(t.1,t.2)) (by
 rintro t K h
 ·exact Eq.mp (by kernel_rfl) h)))) (fun(t:Int×(List ByteArray))=>(Nul b t.1 t.2))))))) (by unfold N35;kernel_rfl) (by
 intro t
 exact ret_mk [.slc 0] (by kernel_rfl) (by kernel_rfl) (by kernel_rfl) (by kernel_rfl)) h
def Ndi:Fun:=fun avs H=>
 match avs,H with
 |[.dat .str a,.dat (.int .u8) b],[]=>⟨_,N35 a b,fun(t:(List ByteArray))=>(.slc 0,[some (.seq .str t)]),[],none⟩
 |_,_=>Ans.no
theorem N15y:Sound Tryz.prog 46 Ndi:=by
 refine fn_sound' (C:=N5u) (c:=bodyOf Tryz.f46) (cok_of tys_ok (alln) (alln) (by kernel_rfl)) Tryz.func46 (by kernel_rfl) LL Nw ?_
 intro avs H r H' h
 unfold Ndi at h
 split at h
 ·refine Awp.cast ?_ ?_ ?_ (Nzx _ _ h)<;>kernel_rfl
 ·simp[Ans.no,Ans.run] at h
def Nr:Ann:=(.seq (.leaf [0]) (.seq (.seq (.leaf [0,18]) (.cond (.seq (.leaf [2]) (.leaf [2])) (.leaf [0]))) (.seq (.leaf [0,3]) (.seq (.seq (.leaf [0,3,4]) (.block (.loop (.seq (.seq (.leaf [0,3,4,22]) (.cond (.leaf [0,3,4]) (.leaf [3]))) (.seq (.block (.seq (.seq (.leaf [0,3,4,34]) (.cond (.seq (.leaf [2]) (.leaf [2])) (.leaf [0,3,4]))) (.leaf [0,3,4]))) (.leaf [0,3,4])))))) (.seq (.leaf [2]) (.leaf [2]))))))
noncomputable def N5h:Ctx:=⟨tlook tys,olook [(51,N2v)],ioF,0,false,[]⟩
theorem Nt3 (a:ByteArray):Link N5h LL (Code.seq (cq [0] (bodyOf Tryz.f47)) (Code.seq (cq [0,1] (bodyOf Tryz.f47)) (cq [0,1,1] (bodyOf Tryz.f47)))) (Ann.seq (aq [0] Nr) (Ann.seq (aq [0,1] Nr) (aq [0,1,1] Nr))) ⟨mkE 44 0 [(0,dS a)],[]⟩ (N9c a) (Sum.elim (fun(t:Unit)=>(Exit.normal,⟨mkE 44 0 [(0,dS a),(3,dI 0)],[]⟩)) (fun(t:Int)=>(Exit.ret,⟨mkE 44 0 [(2,dI t)],[]⟩))):= .of fun K h=>by
 simp only[N9c,wpW] at h
 exact .of (by kernel_rfl) h
theorem Nxe (a:ByteArray):Link N5h LL (cq [0,0,1,1,1] (bodyOf Tryz.f47)) (aq [0,0,1,1,1] Nr) ⟨mkE 44 0 [(0,dS a),(3,dI 0)],[]⟩ (Nca) (fun(t:Unit)=>(Exit.normal,⟨mkE 44 0 [(0,dS a),(3,dI 0),(4,dI 0)],[]⟩)):= .of fun K h=>by
 simp only[Nca,wpW] at h
 exact .of (by kernel_rfl) h
theorem Nqr (a:ByteArray) (b c:Int):Link N5h LL (cq [0,0,1,0,1,1,1] (bodyOf Tryz.f47)) (aq [0,0,1,0,1,1,1] Nr) ⟨mkE 44 0 [(0,dS a),(3,dI b),(4,dI c)],[]⟩ (N67 a b c) (Sum.elim (fun(t:Int×Int)=>(Exit.normal,⟨mkE 44 0 [(0,dS a),(3,dI t.1),(4,dI t.2)],[]⟩)) (Sum.elim (fun(t:Int)=>(Exit.ret,⟨mkE 44 0 [(2,dI t)],[]⟩)) (fun(t:Int)=>((Exit.exit 0),⟨mkE 44 0 [(3,dI t)],[]⟩)))):= .of fun K h=>by
 simp only[N67,wpW] at h
 exact .of (by kernel_rfl) h
theorem N11o (a:Int):Link N5h LL (cq [1,1,1,1] (bodyOf Tryz.f47)) (aq [1,1,1,1] Nr) ⟨mkE 44 0 [(3,dI a)],[]⟩ (Nbv a) (fun(t:Int)=>(Exit.ret,⟨mkE 44 0 [(2,dI t)],[]⟩)):= .of fun K h=>by
 simp only[Nbv,wpW] at h
 exact .of (by kernel_rfl) h
theorem N127 (b:ByteArray) {r:AV} {H':Heap} (h:(Ans.mk _ (Nt b) (fun(t:Int)=>(dI t,[])) [] none).run=some (r,H')):Awp N5h LL (bodyOf Tryz.f47) Nr ⟨mkE 44 0 [(0,dS b)],[]⟩ (Ret (tlook tys) Tryz.f47.results.toList r H'):=
 ret_of' (Link.cast (by kernel_rfl) (by kernel_rfl) (link_group (c:=(cq [0,1,1] (bodyOf Tryz.f47))) (a:=(aq [0,1,1] Nr)) [(cq [0] (bodyOf Tryz.f47)),(cq [0,1] (bodyOf Tryz.f47))] [(aq [0] Nr),(aq [0,1] Nr)] rfl (link_seq2 (Nt3 b) (fun(t:Unit)=>(link_seq2 (link_seq (Nxe b) (fun(t:Unit)=>(link_block (fin2:=(Sum.elim (fun(t:Int)=>(Exit.normal,⟨mkE 44 0 [(3,dI t)],[]⟩)) (fun(t:Int)=>(Exit.ret,⟨mkE 44 0 [(2,dI t)],[]⟩)))) (id:=0) (link_loop (mk:=fun(s:Int×Int)=>⟨mkE 44 0 [(0,dS b),(3,dI s.1),(4,dI s.2)],[]⟩) (fin:=(Sum.elim (fun(t:Int)=>(Exit.ret,⟨mkE 44 0 [(2,dI t)],[]⟩)) (fun(t:Int)=>((Exit.exit 0),⟨mkE 44 0 [(3,dI t)],[]⟩)))) (by
 rintro(t|t) f K h
 ·exact h
 ·exact h) (fun s=>link_map (Nqr b s.1 s.2) (Sum.elim (fun(t:Int×Int)=>Sum.inl (t.1,t.2)) (Sum.elim (fun(t:Int)=>Sum.inr (Sum.inl t)) (fun(t:Int)=>Sum.inr (Sum.inr t)))) (by
 rintro(t|t|t)
 ·kernel_rfl
 ·kernel_rfl
 ·kernel_rfl)) (0,0)) (Sum.elim (fun(t:Int)=>(Sum.inr t)) (fun(t:Int)=>(Sum.inl t))) (by
 rintro(t|t) K h
 ·exact Eq.mp (by kernel_rfl) h
 ·exact Eq.mp (by kernel_rfl) h)))) (fun(t:Int)=>(N11o t)) (fun(t:Int)=>t) (by
 rintro t
 ·kernel_rfl) (by
 rintro t f K h
 ·exact h))) (fun(t:Int)=>t) (by
 rintro t
 ·kernel_rfl) (by
 rintro t f K h
 ·exact h)))) (by unfold Nt;kernel_rfl) (by
 intro t
 exact ret_mk [dI t] (by kernel_rfl) (by kernel_rfl) (by kernel_rfl) (by kernel_rfl)) h
def Niq:Fun:=fun avs H=>
 match avs,H with
 |[.dat .str a],[]=>⟨_,Nt a,fun(t:Int)=>(dI t,[]),[],none⟩
 |_,_=>Ans.no
theorem Nsh:Sound Tryz.prog 47 Niq:=by
 refine fn_sound' (C:=N5h) (c:=bodyOf Tryz.f47) (cok_of tys_ok (allc N77 alln) (allc Tryz.call51 alln) (by kernel_rfl)) Tryz.func47 (by kernel_rfl) LL Nr ?_
 intro avs H r H' h
 unfold Niq at h
 split at h
 ·refine Awp.cast ?_ ?_ ?_ (N127 _ h)<;>kernel_rfl
 ·simp[Ans.no,Ans.run] at h
def N8:Ann:=(.seq (.leaf [0,2]) (.seq (.leaf [0,2,4]) (.seq (.leaf [0,2,4,5]) (.seq (.seq (.leaf [0,2,4,5,16]) (.cond (.draw [4,8] [0,1,2,3,5,6,7,4,8,9,10,11,12] [] [0,2,4,5]) (.leaf [0,2,4,5]))) (.seq (.seq (.leaf [0,2,4,5,31]) (.cond (.leaf [0,2,5]) (.leaf [0,2,5]))) (.seq (.seq (.leaf [0,2,5,6]) (.block (.loop (.seq (.seq (.leaf [0,2,5,6,43]) (.cond (.leaf [0,2,5,6]) (.leaf [2]))) (.seq (.block (.seq (.leaf [0,2,5,6,56]) (.cond (.seq (.leaf [2,3]) (.leaf [2,3])) (.leaf [0,2,5,6])))) (.leaf [0,2,5,6])))))) (.seq (.leaf [2,3]) (.leaf [2,3]))))))))
noncomputable def N17:Ctx:=⟨tlook tys,olook [(46,Ndi),(47,Niq),(40,N6g)],ioF,0,false,[]⟩
theorem N122 (a:ByteArray):Link N17 LL (Code.seq (cq [0] (bodyOf Tryz.f23)) (Code.seq (cq [0,1] (bodyOf Tryz.f23)) (cq [0,1,1] (bodyOf Tryz.f23)))) (Ann.seq (aq [0] N8) (Ann.seq (aq [0,1] N8) (aq [0,1,1] N8))) ⟨mkE 62 0 [(0,dS a)],[]⟩ (Nc5 a) (fun(t:(List ByteArray)×(List (Int×Int×Int×Unit)))=>(Exit.normal,⟨mkE 62 0 [(0,dS a),(2,.ptr 0 0),(4,.slc 1),(5,.slc 2)],[some (.box [dI 0,dI 0,dI 0]),some (.seq .str t.1),some (.seq (.pair (.int .i64) (.pair (.int .i64) (.pair (.int .i64) .unit))) t.2)]⟩)):= .of fun K h=>by
 simp only[Nc5,wpW] at h
 exact .of (by kernel_rfl) h
theorem Ny4 (a:ByteArray) (b:List ByteArray) (c:List (Int×Int×Int×Unit)):Link N17 LL (cq [0,0,1,1,1] (bodyOf Tryz.f23)) (aq [0,0,1,1,1] N8) ⟨mkE 62 0 [(0,dS a),(2,.ptr 0 0),(4,.slc 1),(5,.slc 2)],[some (.box [dI 0,dI 0,dI 0]),some (.seq .str b),some (.seq (.pair (.int .i64) (.pair (.int .i64) (.pair (.int .i64) .unit))) c)]⟩ (N8f b) (fun(t:Bool)=>(Exit.normal,⟨mkE 62 0 [(0,dS a),(2,.ptr 0 0),(4,.slc 1),(5,.slc 2),(16,dB t)],[some (.box [dI 0,dI 0,dI 0]),some (.seq .str b),some (.seq (.pair (.int .i64) (.pair (.int .i64) (.pair (.int .i64) .unit))) c)]⟩)):= .of fun K h=>by
 simp only[N8f,wpW] at h
 exact .of (by kernel_rfl) h
theorem Nwh (a:ByteArray) (b:Bool) (c:List ByteArray) (d:List (Int×Int×Int×Unit)):Link N17 LL (cq [0,1,0,1,1,1] (bodyOf Tryz.f23)) (aq [0,1,0,1,1,1] N8) ⟨mkE 62 0 [(0,dS a),(2,.ptr 0 0),(4,.slc 1),(5,.slc 2),(16,dB b)],[some (.box [dI 0,dI 0,dI 0]),some (.seq .str c),some (.seq (.pair (.int .i64) (.pair (.int .i64) (.pair (.int .i64) .unit))) d)]⟩ (Nby c d) (fun(t:(List (Int×Int×Int×Unit)))=>(Exit.normal,⟨mkE 62 0 [(0,dS a),(2,.ptr 0 0),(4,.slc 1),(5,.slc 2)],[some (.box [dI 0,dI 0,dI 0]),some (.seq .str c),some (.seq (.pair (.int .i64) (.pair (.int .i64) (.pair (.int .i64) .unit))) t)]⟩)):= .of fun K h=>by
 simp only[Nby,wpW] at h
 exact .of (by kernel_rfl) h
theorem N17o (a:ByteArray) (b:Bool) (c:List ByteArray) (d:List (Int×Int×Int×Unit)):Link N17 LL (cq [1,1,0,1,1,1] (bodyOf Tryz.f23)) (aq [1,1,0,1,1,1] N8) ⟨mkE 62 0 [(0,dS a),(2,.ptr 0 0),(4,.slc 1),(5,.slc 2),(16,dB b)],[some (.box [dI 0,dI 0,dI 0]),some (.seq .str c),some (.seq (.pair (.int .i64) (.pair (.int .i64) (.pair (.int .i64) .unit))) d)]⟩ (N8n) (fun(t:Unit)=>(Exit.normal,⟨mkE 62 0 [(0,dS a),(2,.ptr 0 0),(4,.slc 1),(5,.slc 2)],[some (.box [dI 0,dI 0,dI 0]),some (.seq .str c),some (.seq (.pair (.int .i64) (.pair (.int .i64) (.pair (.int .i64) .unit))) d)]⟩)):= .of fun K h=>by
 simp only[N8n,wpW] at h
 exact .of (by kernel_rfl) h
theorem N142 (a:ByteArray) (b:List ByteArray) (c:List (Int×Int×Int×Unit)):Link N17 LL (cq [0,1,1,1,1] (bodyOf Tryz.f23)) (aq [0,1,1,1,1] N8) ⟨mkE 62 0 [(0,dS a),(2,.ptr 0 0),(4,.slc 1),(5,.slc 2)],[some (.box [dI 0,dI 0,dI 0]),some (.seq .str b),some (.seq (.pair (.int .i64) (.pair (.int .i64) (.pair (.int .i64) .unit))) c)]⟩ (N7a b c) (fun(t:(List (Int×Int×Int×Unit)))=>(Exit.normal,⟨mkE 62 0 [(0,dS a),(2,.ptr 0 0),(5,.slc 1)],[some (.box [dI 0,dI 0,dI 0]),some (.seq (.pair (.int .i64) (.pair (.int .i64) (.pair (.int .i64) .unit))) t)]⟩)):= .of fun K h=>by
 simp only[N7a,wpW] at h
 exact .of (by kernel_rfl) h
theorem Ntx (a:ByteArray) (b:List (Int×Int×Int×Unit)):Link N17 LL (cq [0,0,1,1,1,1,1] (bodyOf Tryz.f23)) (aq [0,0,1,1,1,1,1] N8) ⟨mkE 62 0 [(0,dS a),(2,.ptr 0 0),(5,.slc 1)],[some (.box [dI 0,dI 0,dI 0]),some (.seq (.pair (.int .i64) (.pair (.int .i64) (.pair (.int .i64) .unit))) b)]⟩ (N97) (fun(t:Unit)=>(Exit.normal,⟨mkE 62 0 [(0,dS a),(2,.ptr 0 0),(5,.slc 1),(6,dI 0)],[some (.box [dI 0,dI 0,dI 0]),some (.seq (.pair (.int .i64) (.pair (.int .i64) (.pair (.int .i64) .unit))) b)]⟩)):= .of fun K h=>by
 simp only[N97,wpW] at h
 exact .of (by kernel_rfl) h
theorem N10g (a:ByteArray) (b:Int) (c:List (Int×Int×Int×Unit)):Link N17 LL (cq [0,0,1,0,1,1,1,1,1] (bodyOf Tryz.f23)) (aq [0,0,1,0,1,1,1,1,1] N8) ⟨mkE 62 0 [(0,dS a),(2,.ptr 0 0),(5,.slc 1),(6,dI b)],[some (.box [dI 0,dI 0,dI 0]),some (.seq (.pair (.int .i64) (.pair (.int .i64) (.pair (.int .i64) .unit))) c)]⟩ (N4g a b c) (Sum.elim (fun(t:Int)=>(Exit.normal,⟨mkE 62 0 [(0,dS a),(2,.ptr 0 0),(5,.slc 1),(6,dI t)],[some (.box [dI 0,dI 0,dI 0]),some (.seq (.pair (.int .i64) (.pair (.int .i64) (.pair (.int .i64) .unit))) c)]⟩)) (Sum.elim (fun(t:Bool×Int×Int×Int)=>(Exit.ret,⟨mkE 62 0 [(2,.ptr 0 0),(3,dB t.1)],[some (.box [dI t.2.1,dI t.2.2.1,dI t.2.2.2])]⟩)) (fun(t:Unit)=>((Exit.exit 0),⟨mkE 62 0 [(2,.ptr 0 0)],[some (.box [dI 0,dI 0,dI 0])]⟩)))):= .of fun K h=>by
 simp only[N4g,wpW] at h
 exact .of (by kernel_rfl) h
theorem Nsx:Link N17 LL (cq [1,1,1,1,1,1] (bodyOf Tryz.f23)) (aq [1,1,1,1,1,1] N8) ⟨mkE 62 0 [(2,.ptr 0 0)],[some (.box [dI 0,dI 0,dI 0])]⟩ (Nav) (fun(t:Bool×Int×Int×Int)=>(Exit.ret,⟨mkE 62 0 [(2,.ptr 0 0),(3,dB t.1)],[some (.box [dI t.2.1,dI t.2.2.1,dI t.2.2.2])]⟩)):= .of fun K h=>by
 simp only[Nav,wpW] at h
 exact .of (by kernel_rfl) h
theorem N102 (b:ByteArray) {r:AV} {H':Heap} (h:(Ans.mk _ (N2o b) (fun(t:Bool×Int×Int×Int)=>(.tup [.agg [dI t.2.1,dI t.2.2.1,dI t.2.2.2],dB t.1],[some (.box [dI t.2.1,dI t.2.2.1,dI t.2.2.2])])) [] none).run=some (r,H')):Awp N17 LL (bodyOf Tryz.f23) N8 ⟨mkE 62 0 [(0,dS b)],[]⟩ (Ret (tlook tys) Tryz.f23.results.toList r H'):=
 ret_of' (Link.cast (by kernel_rfl) (by kernel_rfl) (link_group (c:=(cq [0,1,1] (bodyOf Tryz.f23))) (a:=(aq [0,1,1] N8)) [(cq [0] (bodyOf Tryz.f23)),(cq [0,1] (bodyOf Tryz.f23))] [(aq [0] N8),(aq [0,1] N8)] rfl (link_seq (N122 b) (fun(t:(List ByteArray)×(List (Int×Int×Int×Unit)))=>(link_seq (link_seq (Ny4 b t.1 t.2) (fun(t56:Bool)=>(link_cond (c:= .tmp 16) (g:=t56) (by kernel_rfl) ((link_map (fin2:=(fun(t6:(List (Int×Int×Int×Unit)))=>(Exit.normal,⟨mkE 62 0 [(0,dS b),(2,.ptr 0 0),(4,.slc 1),(5,.slc 2)],[some (.box [dI 0,dI 0,dI 0]),some (.seq .str t.1),some (.seq (.pair (.int .i64) (.pair (.int .i64) (.pair (.int .i64) .unit))) t6)]⟩))) (Nwh b t56 t.1 t.2) (fun(t6:(List (Int×Int×Int×Unit)))=>t6) (by
 rintro t6
 ·kernel_rfl))) ((link_map (fin2:=(fun(t6:(List (Int×Int×Int×Unit)))=>(Exit.normal,⟨mkE 62 0 [(0,dS b),(2,.ptr 0 0),(4,.slc 1),(5,.slc 2)],[some (.box [dI 0,dI 0,dI 0]),some (.seq .str t.1),some (.seq (.pair (.int .i64) (.pair (.int .i64) (.pair (.int .i64) .unit))) t6)]⟩))) (N17o b t56 t.1 t.2) (fun(t6:Unit)=>t.2) (by
 rintro t6
 ·kernel_rfl)))))) (fun(t56:(List (Int×Int×Int×Unit)))=>(link_seq (N142 b t.1 t56) (fun(t7:(List (Int×Int×Int×Unit)))=>(link_seq2 (link_seq (Ntx b t7) (fun(t56:Unit)=>(link_block (fin2:=(Sum.elim (fun(t56:Unit)=>(Exit.normal,⟨mkE 62 0 [(2,.ptr 0 0)],[some (.box [dI 0,dI 0,dI 0])]⟩)) (fun(t56:Bool×Int×Int×Int)=>(Exit.ret,⟨mkE 62 0 [(2,.ptr 0 0),(3,dB t56.1)],[some (.box [dI t56.2.1,dI t56.2.2.1,dI t56.2.2.2])]⟩)))) (id:=0) (link_loop (mk:=fun(s:Int)=>⟨mkE 62 0 [(0,dS b),(2,.ptr 0 0),(5,.slc 1),(6,dI s)],[some (.box [dI 0,dI 0,dI 0]),some (.seq (.pair (.int .i64) (.pair (.int .i64) (.pair (.int .i64) .unit))) t7)]⟩) (fin:=(Sum.elim (fun(t56:Bool×Int×Int×Int)=>(Exit.ret,⟨mkE 62 0 [(2,.ptr 0 0),(3,dB t56.1)],[some (.box [dI t56.2.1,dI t56.2.2.1,dI t56.2.2.2])]⟩)) (fun(t56:Unit)=>((Exit.exit 0),⟨mkE 62 0 [(2,.ptr 0 0)],[some (.box [dI 0,dI 0,dI 0])]⟩)))) (by
 rintro(t56|t56) f K h
 ·exact h
 ·exact h) (fun s=>link_map (N10g b s t7) (Sum.elim (fun(t56:Int)=>Sum.inl t56) (Sum.elim (fun(t56:Bool×Int×Int×Int)=>Sum.inr (Sum.inl t56)) (fun(t56:Unit)=>Sum.inr (Sum.inr t56)))) (by
 rintro(t56|t56|t56)
 ·kernel_rfl
 ·kernel_rfl
 ·kernel_rfl)) 0) (Sum.elim (fun(t56:Bool×Int×Int×Int)=>(Sum.inr t56)) (fun(t56:Unit)=>(Sum.inl ()))) (by
 rintro(t56|t56) K h
 ·exact Eq.mp (by kernel_rfl) h
 ·exact Eq.mp (by kernel_rfl) h)))) (fun(t56:Unit)=>(Nsx)) (fun(t56:Bool×Int×Int×Int)=>t56) (by
 rintro t56
 ·kernel_rfl) (by
 rintro t56 f K h
 ·exact h)))))))))) (by unfold N2o;kernel_rfl) (by
 intro t
 exact ret_mk [.agg [dI t.2.1,dI t.2.2.1,dI t.2.2.2],dB t.1] (by kernel_rfl) (by kernel_rfl) (by kernel_rfl) (by kernel_rfl)) h
def Nfa:Fun:=fun avs H=>
 match avs,H with
 |[.dat .str a],[]=>⟨_,N2o a,fun(t:Bool×Int×Int×Int)=>(.tup [.agg [dI t.2.1,dI t.2.2.1,dI t.2.2.2],dB t.1],[some (.box [dI t.2.1,dI t.2.2.1,dI t.2.2.2])]),[],none⟩
 |_,_=>Ans.no
theorem Nz1:Sound Tryz.prog 23 Nfa:=by
 refine fn_sound' (C:=N17) (c:=bodyOf Tryz.f23) (cok_of tys_ok (allc N15y (allc Nsh (allc Nf6 alln))) (allc Tryz.call46 (allc Tryz.call47 (allc Tryz.call40 alln))) (by kernel_rfl)) Tryz.func23 (by kernel_rfl) LL N8 ?_
 intro avs H r H' h
 unfold Nfa at h
 split at h
 ·refine Awp.cast ?_ ?_ ?_ (N102 _ h)<;>kernel_rfl
 ·simp[Ans.no,Ans.run] at h
def N10:Ann:=(.seq (.leaf [0]) (.seq (.leaf [0,4]) (.seq (.leaf [0,4,5]) (.seq (.seq (.leaf [0,4,5,6]) (.block (.loop (.seq (.seq (.leaf [0,4,5,6,13]) (.cond (.leaf [0,4,5,6]) (.leaf [4,5]))) (.seq (.block (.seq (.leaf [0,4,5,6,19]) (.cond (.seq (.leaf [0,4,5,6,7,8]) (.seq (.seq (.leaf [0,4,5,6,7,29]) (.cond (.seq (.leaf [2,3]) (.leaf [2,3])) (.leaf [0,4,6,7]))) (.seq (.leaf [0,4,6]) (.leaf [0,4,5,6])))) (.leaf [0,4,5,6])))) (.leaf [0,4,5,6])))))) (.seq (.leaf [2,3]) (.leaf [2,3]))))))
noncomputable def N5x:Ctx:=⟨tlook tys,olook [(23,Nfa)],ioF,0,false,[]⟩
theorem Nru (a:ByteArray):Link N5x LL (Code.seq (cq [0] (bodyOf Tryz.f6)) (Code.seq (cq [0,1] (bodyOf Tryz.f6)) (cq [0,1,1] (bodyOf Tryz.f6)))) (Ann.seq (aq [0] N10) (Ann.seq (aq [0,1] N10) (aq [0,1,1] N10))) ⟨mkE 40 0 [(0,dS a)],[]⟩ (Ncc) (fun(t:Unit)=>(Exit.normal,⟨mkE 40 0 [(0,dS a),(4,.slc 0),(5,dI 0)],[some (.seq (.pair (.int .i64) (.pair (.int .i64) (.pair (.int .i64) .unit))) ([]:List (Int×Int×Int×Unit)))]⟩)):= .of fun K h=>by
 simp only[Ncc,wpW] at h
 exact .of (by kernel_rfl) h
theorem N12r (a:ByteArray):Link N5x LL (cq [0,0,1,1,1] (bodyOf Tryz.f6)) (aq [0,0,1,1,1] N10) ⟨mkE 40 0 [(0,dS a),(4,.slc 0),(5,dI 0)],[some (.seq (.pair (.int .i64) (.pair (.int .i64) (.pair (.int .i64) .unit))) ([]:List (Int×Int×Int×Unit)))]⟩ (N82) (fun(t:Unit)=>(Exit.normal,⟨mkE 40 0 [(0,dS a),(4,.slc 0),(5,dI 0),(6,dI 0)],[some (.seq (.pair (.int .i64) (.pair (.int .i64) (.pair (.int .i64) .unit))) ([]:List (Int×Int×Int×Unit)))]⟩)):= .of fun K h=>by
 simp only[N82,wpW] at h
 exact .of (by kernel_rfl) h
theorem Ntr (a:ByteArray) (b c:Int) (d:List (Int×Int×Int×Unit)):Link N5x LL (cq [0,0,1,0,1,1,1] (bodyOf Tryz.f6)) (aq [0,0,1,0,1,1,1] N10) ⟨mkE 40 0 [(0,dS a),(4,.slc 0),(5,dI b),(6,dI c)],[some (.seq (.pair (.int .i64) (.pair (.int .i64) (.pair (.int .i64) .unit))) d)]⟩ (N2d a b c d) (Sum.elim (fun(t:Int×Int×(List (Int×Int×Int×Unit)))=>(Exit.normal,⟨mkE 40 0 [(0,dS a),(4,.slc 0),(5,dI t.1),(6,dI t.2.1)],[some (.seq (.pair (.int .i64) (.pair (.int .i64) (.pair (.int .i64) .unit))) t.2.2)]⟩)) (Sum.elim (fun(t:Int×(List (Int×Int×Int×Unit)))=>(Exit.ret,⟨mkE 40 0 [(2,.slc 0),(3,dI t.1)],[some (.seq (.pair (.int .i64) (.pair (.int .i64) (.pair (.int .i64) .unit))) t.2)]⟩)) (fun(t:Int×(List (Int×Int×Int×Unit)))=>((Exit.exit 0),⟨mkE 40 0 [(4,.slc 0),(5,dI t.1)],[some (.seq (.pair (.int .i64) (.pair (.int .i64) (.pair (.int .i64) .unit))) t.2)]⟩)))):= .of fun K h=>by
 simp only[N2d,wpW] at h
 exact .of (by kernel_rfl) h
theorem N18a (a:Int) (b:List (Int×Int×Int×Unit)):Link N5x LL (cq [1,1,1,1] (bodyOf Tryz.f6)) (aq [1,1,1,1] N10) ⟨mkE 40 0 [(4,.slc 0),(5,dI a)],[some (.seq (.pair (.int .i64) (.pair (.int .i64) (.pair (.int .i64) .unit))) b)]⟩ (N8l a b) (fun(t:Int×(List (Int×Int×Int×Unit)))=>(Exit.ret,⟨mkE 40 0 [(2,.slc 0),(3,dI t.1)],[some (.seq (.pair (.int .i64) (.pair (.int .i64) (.pair (.int .i64) .unit))) t.2)]⟩)):= .of fun K h=>by
 simp only[N8l,wpW] at h
 exact .of (by kernel_rfl) h
theorem Nyx (b:ByteArray) {r:AV} {H':Heap} (h:(Ans.mk _ (N41 b) (fun(t:Int×(List (Int×Int×Int×Unit)))=>(.tup [.slc 0,dI t.1],[some (.seq (.pair (.int .i64) (.pair (.int .i64) (.pair (.int .i64) .unit))) t.2)])) [] none).run=some (r,H')):Awp N5x LL (bodyOf Tryz.f6) N10 ⟨mkE 40 0 [(0,dS b)],[]⟩ (Ret (tlook tys) Tryz.f6.results.toList r H'):=
 ret_of' (Link.cast (by kernel_rfl) (by kernel_rfl) (link_group (c:=(cq [0,1,1] (bodyOf Tryz.f6))) (a:=(aq [0,1,1] N10)) [(cq [0] (bodyOf Tryz.f6)),(cq [0,1] (bodyOf Tryz.f6))] [(aq [0] N10),(aq [0,1] N10)] rfl (link_seq (Nru b) (fun(t:Unit)=>(link_seq2 (link_seq (N12r b) (fun(t:Unit)=>(link_block (fin2:=(Sum.elim (fun(t:Int×(List (Int×Int×Int×Unit)))=>(Exit.normal,⟨mkE 40 0 [(4,.slc 0),(5,dI t.1)],[some (.seq (.pair (.int .i64) (.pair (.int .i64) (.pair (.int .i64) .unit))) t.2)]⟩)) (fun(t:Int×(List (Int×Int×Int×Unit)))=>(Exit.ret,⟨mkE 40 0 [(2,.slc 0),(3,dI t.1)],[some (.seq (.pair (.int .i64) (.pair (.int .i64) (.pair (.int .i64) .unit))) t.2)]⟩)))) (id:=0) (link_loop (mk:=fun(s:Int×Int×(List (Int×Int×Int×Unit)))=>⟨mkE 40 0 [(0,dS b),(4,.slc 0),(5,dI s.1),(6,dI s.2.1)],[some (.seq (.pair (.int .i64) (.pair (.int .i64) (.pair (.int .i64) .unit))) s.2.2)]⟩) (fin:=(Sum.elim (fun(t:Int×(List (Int×Int×Int×Unit)))=>(Exit.ret,⟨mkE 40 0 [(2,.slc 0),(3,dI t.1)],[some (.seq (.pair (.int .i64) (.pair (.int .i64) (.pair (.int .i64) .unit))) t.2)]⟩)) (fun(t:Int×(List (Int×Int×Int×Unit)))=>((Exit.exit 0),⟨mkE 40 0 [(4,.slc 0),(5,dI t.1)],[some (.seq (.pair (.int .i64) (.pair (.int .i64) (.pair (.int .i64) .unit))) t.2)]⟩)))) (by
 rintro(t|t) f K h
 ·exact h
 ·exact h) (fun s=>link_map (Ntr b s.1 s.2.1 s.2.2) (Sum.elim (fun(t:Int×Int×(List (Int×Int×Int×Unit)))=>Sum.inl (t.1,t.2.1,t.2.2)) (Sum.elim (fun(t:Int×(List (Int×Int×Int×Unit)))=>Sum.inr (Sum.inl t)) (fun(t:Int×(List (Int×Int×Int×Unit)))=>Sum.inr (Sum.inr t)))) (by
 rintro(t|t|t)
 ·kernel_rfl
 ·kernel_rfl
 ·kernel_rfl)) (0,0,([]:List (Int×Int×Int×Unit)))) (Sum.elim (fun(t:Int×(List (Int×Int×Int×Unit)))=>(Sum.inr t)) (fun(t:Int×(List (Int×Int×Int×Unit)))=>(Sum.inl (t.1,t.2)))) (by
 rintro(t|t) K h
 ·exact Eq.mp (by kernel_rfl) h
 ·exact Eq.mp (by kernel_rfl) h)))) (fun(t:Int×(List (Int×Int×Int×Unit)))=>(N18a t.1 t.2)) (fun(t:Int×(List (Int×Int×Int×Unit)))=>t) (by
 rintro t
 ·kernel_rfl) (by
 rintro t f K h
 ·exact h)))))) (by unfold N41;kernel_rfl) (by
 intro t
 exact ret_mk [.slc 0,dI t.1] (by kernel_rfl) (by kernel_rfl) (by kernel_rfl) (by kernel_rfl)) h
def Ng2:Fun:=fun avs H=>
 match avs,H with
 |[.dat .str a],[]=>⟨_,N41 a,fun(t:Int×(List (Int×Int×Int×Unit)))=>(.tup [.slc 0,dI t.1],[some (.seq (.pair (.int .i64) (.pair (.int .i64) (.pair (.int .i64) .unit))) t.2)]),[],none⟩
 |_,_=>Ans.no
theorem N14w:Sound Tryz.prog 6 Ng2:=by
 refine fn_sound' (C:=N5x) (c:=bodyOf Tryz.f6) (cok_of tys_ok (allc Nz1 alln) (allc Tryz.call23 alln) (by kernel_rfl)) Tryz.func6 (by kernel_rfl) LL N10 ?_
 intro avs H r H' h
 unfold Ng2 at h
 split at h
 ·refine Awp.cast ?_ ?_ ?_ (Nyx _ h)<;>kernel_rfl
 ·simp[Ans.no,Ans.run] at h
def N28:Ann:=(.seq (.leaf [0,1]) (.seq (.seq (.leaf [0,1,10]) (.cond (.seq (.leaf [4]) (.leaf [4])) (.leaf [0,1]))) (.seq (.seq (.leaf [0,1,5]) (.block (.loop (.seq (.seq (.leaf [0,1,5,14]) (.cond (.leaf [0,1,5]) (.leaf []))) (.seq (.block (.seq (.draw [100008] [0,1,2,3,4,5,6,7,8] [] [0,1,5,25]) (.cond (.seq (.leaf [4]) (.leaf [4])) (.leaf [0,1,5])))) (.leaf [0,1,5])))))) (.seq (.leaf [4]) (.leaf [4])))))
noncomputable def N47:Ctx:=⟨tlook tys,olook [],ioF,0,false,[]⟩
theorem N134 (a b:List (Int×Int×Int×Unit)):Link N47 LL (Code.seq (cq [0] (bodyOf Tryz.f7)) (cq [0,1] (bodyOf Tryz.f7))) (Ann.seq (aq [0] N28) (aq [0,1] N28)) ⟨mkE 26 0 [(0,.dat (.list (.pair (.int .i64) (.pair (.int .i64) (.pair (.int .i64) .unit)))) a),(1,.dat (.list (.pair (.int .i64) (.pair (.int .i64) (.pair (.int .i64) .unit)))) b)],[]⟩ (Ncm a b) (Sum.elim (fun(t:Unit)=>(Exit.normal,⟨mkE 26 0 [(0,.dat (.list (.pair (.int .i64) (.pair (.int .i64) (.pair (.int .i64) .unit)))) a),(1,.dat (.list (.pair (.int .i64) (.pair (.int .i64) (.pair (.int .i64) .unit)))) b)],[]⟩)) (fun(t:Bool)=>(Exit.ret,⟨mkE 26 0 [(4,dB t)],[]⟩))):= .of fun K h=>by
 simp only[Ncm,wpW] at h
 exact .of (by kernel_rfl) h
theorem N125 (a b:List (Int×Int×Int×Unit)):Link N47 LL (cq [0,0,1,1] (bodyOf Tryz.f7)) (aq [0,0,1,1] N28) ⟨mkE 26 0 [(0,.dat (.list (.pair (.int .i64) (.pair (.int .i64) (.pair (.int .i64) .unit)))) a),(1,.dat (.list (.pair (.int .i64) (.pair (.int .i64) (.pair (.int .i64) .unit)))) b)],[]⟩ (Ncb) (fun(t:Unit)=>(Exit.normal,⟨mkE 26 0 [(0,.dat (.list (.pair (.int .i64) (.pair (.int .i64) (.pair (.int .i64) .unit)))) a),(1,.dat (.list (.pair (.int .i64) (.pair (.int .i64) (.pair (.int .i64) .unit)))) b),(5,dI 0)],[]⟩)):= .of fun K h=>by
 simp only[Ncb,wpW] at h
 exact .of (by kernel_rfl) h
theorem Nqj (a b:List (Int×Int×Int×Unit)) (c:Int):Link N47 LL (cq [0,0,1,0,1,1] (bodyOf Tryz.f7)) (aq [0,0,1,0,1,1] N28) ⟨mkE 26 0 [(0,.dat (.list (.pair (.int .i64) (.pair (.int .i64) (.pair (.int .i64) .unit)))) a),(1,.dat (.list (.pair (.int .i64) (.pair (.int .i64) (.pair (.int .i64) .unit)))) b),(5,dI c)],[]⟩ (N5q a b c) (Sum.elim (fun(t:Int)=>(Exit.normal,⟨mkE 26 0 [(0,.dat (.list (.pair (.int .i64) (.pair (.int .i64) (.pair (.int .i64) .unit)))) a),(1,.dat (.list (.pair (.int .i64) (.pair (.int .i64) (.pair (.int .i64) .unit)))) b),(5,dI t)],[]⟩)) (Sum.elim (fun(t:Bool)=>(Exit.ret,⟨mkE 26 0 [(4,dB t)],[]⟩)) (fun(t:Unit)=>((Exit.exit 0),⟨mkE 26 0 [],[]⟩)))):= .of fun K h=>by
 simp only[N5q,wpW] at h
 exact .of (by kernel_rfl) h
theorem N185:Link N47 LL (cq [1,1,1] (bodyOf Tryz.f7)) (aq [1,1,1] N28) ⟨mkE 26 0 [],[]⟩ (Nbx) (fun(t:Bool)=>(Exit.ret,⟨mkE 26 0 [(4,dB t)],[]⟩)):= .of fun K h=>by
 simp only[Nbx,wpW] at h
 exact .of (by kernel_rfl) h
theorem Nwu (b d:List (Int×Int×Int×Unit)) {r:AV} {H':Heap} (h:(Ans.mk _ (N2i b d) (fun(t:Bool)=>(dB t,[])) [] none).run=some (r,H')):Awp N47 LL (bodyOf Tryz.f7) N28 ⟨mkE 26 0 [(0,.dat (.list (.pair (.int .i64) (.pair (.int .i64) (.pair (.int .i64) .unit)))) b),(1,.dat (.list (.pair (.int .i64) (.pair (.int .i64) (.pair (.int .i64) .unit)))) d)],[]⟩ (Ret (tlook tys) Tryz.f7.results.toList r H'):=
 ret_of' (Link.cast (by kernel_rfl) (by kernel_rfl) (link_group (c:=(cq [0,1] (bodyOf Tryz.f7))) (a:=(aq [0,1] N28)) [(cq [0] (bodyOf Tryz.f7))] [(aq [0] N28)] rfl (link_seq2 (N134 b d) (fun(t:Unit)=>(link_seq2 (link_seq (N125 b d) (fun(t:Unit)=>(link_block (fin2:=(Sum.elim (fun(t:Unit)=>(Exit.normal,⟨mkE 26 0 [],[]⟩)) (fun(t:Bool)=>(Exit.ret,⟨mkE 26 0 [(4,dB t)],[]⟩)))) (id:=0) (link_loop (mk:=fun(s:Int)=>⟨mkE 26 0 [(0,.dat (.list (.pair (.int .i64) (.pair (.int .i64) (.pair (.int .i64) .unit)))) b),(1,.dat (.list (.pair (.int .i64) (.pair (.int .i64) (.pair (.int .i64) .unit)))) d),(5,dI s)],[]⟩) (fin:=(Sum.elim (fun(t:Bool)=>(Exit.ret,⟨mkE 26 0 [(4,dB t)],[]⟩)) (fun(t:Unit)=>((Exit.exit 0),⟨mkE 26 0 [],[]⟩)))) (by
 rintro(t|t) f K h
 ·exact h
 ·exact h) (fun s=>link_map (Nqj b d s) (Sum.elim (fun(t:Int)=>Sum.inl t) (Sum.elim (fun(t:Bool)=>Sum.inr (Sum.inl t)) (fun(t:Unit)=>Sum.inr (Sum.inr t)))) (by
 rintro(t|t|t)
 ·kernel_rfl
 ·kernel_rfl
 ·kernel_rfl)) 0) (Sum.elim (fun(t:Bool)=>(Sum.inr t)) (fun(t:Unit)=>(Sum.inl ()))) (by
 rintro(t|t) K h
 ·exact Eq.mp (by kernel_rfl) h
 ·exact Eq.mp (by kernel_rfl) h)))) (fun(t:Unit)=>(N185)) (fun(t:Bool)=>t) (by
 rintro t
 ·kernel_rfl) (by
 rintro t f K h
 ·exact h))) (fun(t:Bool)=>t) (by
 rintro t
 ·kernel_rfl) (by
 rintro t f K h
 ·exact h)))) (by unfold N2i;kernel_rfl) (by
 intro t
 exact ret_mk [dB t] (by kernel_rfl) (by kernel_rfl) (by kernel_rfl) (by kernel_rfl)) h
def Ndg:Fun:=fun avs H=>
 match avs,H with
 |[.dat (.list (.pair (.int .i64) (.pair (.int .i64) (.pair (.int .i64) .unit)))) a,.dat (.list (.pair (.int .i64) (.pair (.int .i64) (.pair (.int .i64) .unit)))) b],[]=>⟨_,N2i a b,fun(t:Bool)=>(dB t,[]),[],none⟩
 |_,_=>Ans.no
theorem N101:Sound Tryz.prog 7 Ndg:=by
 refine fn_sound' (C:=N47) (c:=bodyOf Tryz.f7) (cok_of tys_ok (alln) (alln) (by kernel_rfl)) Tryz.func7 (by kernel_rfl) LL N28 ?_
 intro avs H r H' h
 unfold Ndg at h
 split at h
 ·refine Awp.cast ?_ ?_ ?_ (Nwu _ _ h)<;>kernel_rfl
 ·simp[Ans.no,Ans.run] at h
def Nht:Ann:=(.seq (.leaf [0,2]) (.seq (.seq (.leaf [0,2,6]) (.cond (.seq (.leaf [2,3]) (.leafF [⟨0,2,false,some 0,some (.int .i64)⟩] [2,3])) (.leaf [0,2]))) (.seq (.leaf [2,3]) (.leaf [2,3]))))
noncomputable def Nir:Ctx:=⟨tlook tys,olook [(27,N19)],ioF,0,false,[]⟩
theorem N10x (a:List Int):Link Nir LL (bodyOf Tryz.f48) Nht ⟨mkE 12 0 [(0,dL a)],[]⟩ (N6d a) (fun(t:Bool×(List Int))=>(Exit.ret,⟨mkE 12 0 [(2,.ptr 0 0),(3,dB t.1)],[some (.box [.slc 1,.nils]),some (sI t.2)]⟩)):= .of fun K h=>by
 simp only[N6d,wpW] at h
 exact .of (by kernel_rfl) h
theorem Nrp (a:List Int) {r:AV} {H':Heap} (h:(Ans.mk _ (N3v a) (fun(t:Bool×(List Int))=>(.tup [.agg [.slc 1,.nils],dB t.1],[some (.box [.slc 1,.nils]),some (sI t.2)])) [] none).run=some (r,H')):Awp Nir LL (bodyOf Tryz.f48) Nht ⟨mkE 12 0 [(0,dL a)],[]⟩ (Ret (tlook tys) Tryz.f48.results.toList r H'):=
 ret_of' (N10x a) (by unfold N3v;kernel_rfl) (by
 intro t
 exact ret_mk [.agg [.slc 1,.nils],dB t.1] (by kernel_rfl) (by kernel_rfl) (by kernel_rfl) (by kernel_rfl)) h
def Nd2:Fun:=fun avs H=>
 match avs,H with
 |[.dat (.list (.int .i64)) a],[]=>⟨_,N3v a,fun(t:Bool×(List Int))=>(.tup [.agg [.slc 1,.nils],dB t.1],[some (.box [.slc 1,.nils]),some (sI t.2)]),[],none⟩
 |_,_=>Ans.no
theorem N16w:Sound Tryz.prog 48 Nd2:=by
 refine fn_sound' (C:=Nir) (c:=bodyOf Tryz.f48) (cok_of tys_ok (allc N2j alln) (allc Tryz.call27 alln) (by kernel_rfl)) Tryz.func48 (by kernel_rfl) LL Nht ?_
 intro avs H r H' h
 unfold Nd2 at h
 split at h
 ·refine Awp.cast ?_ ?_ ?_ (Nrp _ h)<;>kernel_rfl
 ·simp[Ans.no,Ans.run] at h
def N4y:Ann:=(.seq (.leaf [1]) (.seq (.seq (.leaf [1,3]) (.block (.loop (.seq (.seq (.leaf [1,3,8]) (.cond (.leaf [1,3]) (.leaf [1]))) (.seq (.block (.seq (.leaf [1,3,17]) (.cond (.seq (.leaf [2]) (.leaf [2])) (.leaf [1,3])))) (.leaf [1,3])))))) (.seq (.leaf [2]) (.leaf [2]))))
noncomputable def N4l:Ctx:=⟨tlook tys,olook [(27,N19)],ioF,0,false,[]⟩
theorem Nyo (a:List Int) (b:List (List Int)):Link N4l LL (cq [0] (bodyOf Tryz.f9)) (aq [0] N4y) ⟨mkE 27 0 [(0,.agg [dL a,.dat (.list (.list (.int .i64))) b])],[]⟩ (N9a) (fun(t:Unit)=>(Exit.normal,⟨mkE 27 0 [(1,.ptr 0 0)],[some (.box [dL a,.dat (.list (.list (.int .i64))) b])]⟩)):= .of fun K h=>by
 simp only[N9a,wpW] at h
 exact .of (by kernel_rfl) h
theorem N15k (a:List Int) (b:List (List Int)):Link N4l LL (cq [0,0,1] (bodyOf Tryz.f9)) (aq [0,0,1] N4y) ⟨mkE 27 0 [(1,.ptr 0 0)],[some (.box [dL a,.dat (.list (.list (.int .i64))) b])]⟩ (Na6) (fun(t:Unit)=>(Exit.normal,⟨mkE 27 0 [(1,.ptr 0 0),(3,dI 0)],[some (.box [dL a,.dat (.list (.list (.int .i64))) b])]⟩)):= .of fun K h=>by
 simp only[Na6,wpW] at h
 exact .of (by kernel_rfl) h
theorem N13a (a:Int) (b:List Int) (c:List (List Int)):Link N4l LL (cq [0,0,1,0,1] (bodyOf Tryz.f9)) (aq [0,0,1,0,1] N4y) ⟨mkE 27 0 [(1,.ptr 0 0),(3,dI a)],[some (.box [dL b,.dat (.list (.list (.int .i64))) c])]⟩ (N37 a c) (Sum.elim (fun(t:Int)=>(Exit.normal,⟨mkE 27 0 [(1,.ptr 0 0),(3,dI t)],[some (.box [dL b,.dat (.list (.list (.int .i64))) c])]⟩)) (Sum.elim (fun(t:Bool)=>(Exit.ret,⟨mkE 27 0 [(2,dB t)],[]⟩)) (fun(t:Unit)=>((Exit.exit 0),⟨mkE 27 0 [(1,.ptr 0 0)],[some (.box [dL b,.dat (.list (.list (.int .i64))) c])]⟩)))):= .of fun K h=>by
 simp only[N37,wpW] at h
 exact .of (by kernel_rfl) h
theorem Nqe (a:List Int) (b:List (List Int)):Link N4l LL (cq [1,1] (bodyOf Tryz.f9)) (aq [1,1] N4y) ⟨mkE 27 0 [(1,.ptr 0 0)],[some (.box [dL a,.dat (.list (.list (.int .i64))) b])]⟩ (Ncj a b) (fun(t:Bool)=>(Exit.ret,⟨mkE 27 0 [(2,dB t)],[]⟩)):= .of fun K h=>by
 simp only[Ncj,wpW] at h
 exact .of (by kernel_rfl) h
theorem N13d (a:List Int) (b:List (List Int)) {r:AV} {H':Heap} (h:(Ans.mk _ (N13 a b) (fun(t:Bool)=>(dB t,[])) [] none).run=some (r,H')):Awp N4l LL (bodyOf Tryz.f9) N4y ⟨mkE 27 0 [(0,.agg [dL a,.dat (.list (.list (.int .i64))) b])],[]⟩ (Ret (tlook tys) Tryz.f9.results.toList r H'):=
 ret_of' (Link.cast (by kernel_rfl) (by kernel_rfl) (link_seq (Nyo a b) (fun(t:Unit)=>(link_seq2 (link_seq (N15k a b) (fun(t:Unit)=>(link_block (fin2:=(Sum.elim (fun(t:Unit)=>(Exit.normal,⟨mkE 27 0 [(1,.ptr 0 0)],[some (.box [dL a,.dat (.list (.list (.int .i64))) b])]⟩)) (fun(t:Bool)=>(Exit.ret,⟨mkE 27 0 [(2,dB t)],[]⟩)))) (id:=0) (link_loop (mk:=fun(s:Int)=>⟨mkE 27 0 [(1,.ptr 0 0),(3,dI s)],[some (.box [dL a,.dat (.list (.list (.int .i64))) b])]⟩) (fin:=(Sum.elim (fun(t:Bool)=>(Exit.ret,⟨mkE 27 0 [(2,dB t)],[]⟩)) (fun(t:Unit)=>((Exit.exit 0),⟨mkE 27 0 [(1,.ptr 0 0)],[some (.box [dL a,.dat (.list (.list (.int .i64))) b])]⟩)))) (by
 rintro(t|t) f K h
 ·exact h
 ·exact h) (fun s=>link_map (N13a s a b) (Sum.elim (fun(t:Int)=>Sum.inl t) (Sum.elim (fun(t:Bool)=>Sum.inr (Sum.inl t)) (fun(t:Unit)=>Sum.inr (Sum.inr t)))) (by
 rintro(t|t|t)
 ·kernel_rfl
 ·kernel_rfl
 ·kernel_rfl)) 0) (Sum.elim (fun(t:Bool)=>(Sum.inr t)) (fun(t:Unit)=>(Sum.inl ()))) (by
 rintro(t|t) K h
 ·exact Eq.mp (by kernel_rfl) h
 ·exact Eq.mp (by kernel_rfl) h)))) (fun(t:Unit)=>(Nqe a b)) (fun(t:Bool)=>t) (by
 rintro t
 ·kernel_rfl) (by
 rintro t f K h
 ·exact h))))) (by unfold N13;kernel_rfl) (by
 intro t
 exact ret_mk [dB t] (by kernel_rfl) (by kernel_rfl) (by kernel_rfl) (by kernel_rfl)) h
def N9w:Fun:=fun avs H=>
 match avs,H with
 |[.agg [.dat (.list (.int .i64)) a,.dat (.list (.list (.int .i64))) b]],[]=>⟨_,N13 a b,fun(t:Bool)=>(dB t,[]),[],none⟩
 |_,_=>Ans.no
theorem Nlj:Sound Tryz.prog 9 N9w:=by
 refine fn_sound' (C:=N4l) (c:=bodyOf Tryz.f9) (cok_of tys_ok (allc N2j alln) (allc Tryz.call27 alln) (by kernel_rfl)) Tryz.func9 (by kernel_rfl) LL N4y ?_
 intro avs H r H' h
 unfold N9w at h
 split at h
 ·refine Awp.cast ?_ ?_ ?_ (N13d _ _ h)<;>kernel_rfl
 ·simp[Ans.no,Ans.run] at h
def N26:Ann:=(.seq (.leaf [1,2]) (.seq (.leaf [1,2,3]) (.seq (.seq (.leafF [⟨1,3,true,some 1,some (.int .i64)⟩] [1,2,3,4]) (.block (.loop (.seq (.seq (.leaf [1,2,3,4,14]) (.cond (.leaf [1,2,3,4]) (.leaf [2,3]))) (.seq (.block (.draw [8,2,100010] [0,1,2,3,4,5,6,7,8,9,10,11,12] [] [1,2,3,4])) (.leaf [1,2,3,4])))))) (.seq (.leaf [2]) (.leaf [2])))))
noncomputable def N4s:Ctx:=⟨tlook tys,olook [],ioF,0,true,[]⟩
theorem Nz5 (a:List Int) (b:List (List Int)):Link N4s LL (Code.seq (cq [0] (bodyOf Tryz.f72)) (cq [0,1] (bodyOf Tryz.f72))) (Ann.seq (aq [0] N26) (aq [0,1] N26)) ⟨mkE 30 0 [(0,.agg [dL a,.dat (.list (.list (.int .i64))) b])],[]⟩ (N9q a) (fun(t:(List Int))=>(Exit.normal,⟨mkE 30 0 [(1,.ptr 0 0),(2,.ptr 1 0),(3,.ptr 2 0)],[some (.box [dL a,.dat (.list (.list (.int .i64))) b]),some (.box [.nils,.nils]),some (.box [.slc 3,.nils]),some (sI t)]⟩)):= .of fun K h=>by
 simp only[N9q,wpW] at h
 exact .of (by kernel_rfl) h
theorem N18i (a:List Int) (b:List (List Int)) (c:List Int):Link N4s LL (cq [0,0,1,1] (bodyOf Tryz.f72)) (aq [0,0,1,1] N26) ⟨mkE 30 0 [(1,.ptr 0 0),(2,.ptr 1 0),(3,.ptr 2 0)],[some (.box [dL a,.dat (.list (.list (.int .i64))) b]),some (.box [.nils,.nils]),some (.box [.slc 3,.nils]),some (sI c)]⟩ (N9t) (fun(t:Unit)=>(Exit.normal,⟨mkE 30 0 [(1,.ptr 0 0),(2,.ptr 1 0),(3,.ptr 2 0),(4,dI 0)],[some (.box [dL a,.dat (.list (.list (.int .i64))) b]),some (.box [.nils,.nils]),some (.box [.slc 3,.slc 4]),some (sI c),some (.nest (.int .i64) ([]:List (List Int)) 0 [])]⟩)):= .of fun K h=>by
 simp only[N9t,wpW] at h
 exact .of (by kernel_rfl) h
theorem Nq9 (a:Int) (b:List Int) (c:List (List Int)) (d:List Int) (g:List (List Int)):Link N4s LL (cq [0,0,1,0,1,1] (bodyOf Tryz.f72)) (aq [0,0,1,0,1,1] N26) ⟨mkE 30 0 [(1,.ptr 0 0),(2,.ptr 1 0),(3,.ptr 2 0),(4,dI a)],[some (.box [dL b,.dat (.list (.list (.int .i64))) c]),some (.box [.nils,.nils]),some (.box [.slc 3,.slc 4]),some (sI d),some (.nest (.int .i64) g 0 [])]⟩ (N50 a c g) (Sum.elim (fun(t:Int×(List (List Int)))=>(Exit.normal,⟨mkE 30 0 [(1,.ptr 0 0),(2,.ptr 1 0),(3,.ptr 2 0),(4,dI t.1)],[some (.box [dL b,.dat (.list (.list (.int .i64))) c]),some (.box [.nils,.nils]),some (.box [.slc 3,.slc 4]),some (sI d),some (.nest (.int .i64) t.2 0 [])]⟩)) (fun(t:(List (List Int)))=>((Exit.exit 0),⟨mkE 30 0 [(2,.ptr 0 0),(3,.ptr 1 0)],[some (.box [.nils,.nils]),some (.box [.slc 2,.slc 3]),some (sI d),some (.nest (.int .i64) t 0 [])]⟩))):= .of fun K h=>by
 simp only[N50,wpW] at h
 exact .of (by kernel_rfl) h
theorem N12m (a:List Int) (b:List (List Int)):Link N4s LL (cq [1,1,1] (bodyOf Tryz.f72)) (aq [1,1,1] N26) ⟨mkE 30 0 [(2,.ptr 0 0),(3,.ptr 1 0)],[some (.box [.nils,.nils]),some (.box [.slc 2,.slc 3]),some (sI a),some (.nest (.int .i64) b 0 [])]⟩ (Ncd a b) (fun(t:(List Int)×(List (List Int)))=>(Exit.ret,⟨mkE 30 0 [(2,.ptr 0 0)],[some (.box [.slc 1,.slc 2]),some (sI t.1),some (.nest (.int .i64) t.2 0 [])]⟩)):= .of fun K h=>by
 simp only[Ncd,wpW] at h
 exact .of (by kernel_rfl) h
theorem Nyb (b:List Int) (d:List (List Int)) {r:AV} {H':Heap} (h:(Ans.mk _ (N3n b d) (fun(t:(List Int)×(List (List Int)))=>(.agg [.slc 1,.slc 2],[some (.box [.slc 1,.slc 2]),some (sI t.1),some (.nest (.int .i64) t.2 0 [])])) [] none).run=some (r,H')):Awp N4s LL (bodyOf Tryz.f72) N26 ⟨mkE 30 0 [(0,.agg [dL b,.dat (.list (.list (.int .i64))) d])],[]⟩ (Ret (tlook tys) Tryz.f72.results.toList r H'):=
 ret_of' (Link.cast (by kernel_rfl) (by kernel_rfl) (link_group (c:=(cq [0,1] (bodyOf Tryz.f72))) (a:=(aq [0,1] N26)) [(cq [0] (bodyOf Tryz.f72))] [(aq [0] N26)] rfl (link_seq (Nz5 b d) (fun(t:(List Int))=>(link_seq (link_seq (N18i b d t) (fun(t49:Unit)=>(link_block (fin2:=(fun(t49:(List (List Int)))=>(Exit.normal,⟨mkE 30 0 [(2,.ptr 0 0),(3,.ptr 1 0)],[some (.box [.nils,.nils]),some (.box [.slc 2,.slc 3]),some (sI t),some (.nest (.int .i64) t49 0 [])]⟩))) (id:=0) (link_loop (mk:=fun(s:Int×(List (List Int)))=>⟨mkE 30 0 [(1,.ptr 0 0),(2,.ptr 1 0),(3,.ptr 2 0),(4,dI s.1)],[some (.box [dL b,.dat (.list (.list (.int .i64))) d]),some (.box [.nils,.nils]),some (.box [.slc 3,.slc 4]),some (sI t),some (.nest (.int .i64) s.2 0 [])]⟩) (fin:=(fun(t49:(List (List Int)))=>((Exit.exit 0),⟨mkE 30 0 [(2,.ptr 0 0),(3,.ptr 1 0)],[some (.box [.nils,.nils]),some (.box [.slc 2,.slc 3]),some (sI t),some (.nest (.int .i64) t49 0 [])]⟩))) (by
 rintro t49 f K h
 ·exact h) (fun s=>link_map (Nq9 s.1 b d t s.2) (Sum.elim (fun(t49:Int×(List (List Int)))=>Sum.inl (t49.1,t49.2)) (fun(t49:(List (List Int)))=>Sum.inr t49)) (by
 rintro(t49|t49)
 ·kernel_rfl
 ·kernel_rfl)) (0,([]:List (List Int)))) (fun(t49:(List (List Int)))=>t49) (by
 rintro t49 K h
 ·exact Eq.mp (by kernel_rfl) h)))) (fun(t49:(List (List Int)))=>(N12m t t49))))))) (by unfold N3n;kernel_rfl) (by
 intro t
 exact ret_mk [.agg [.slc 1,.slc 2]] (by kernel_rfl) (by kernel_rfl) (by kernel_rfl) (by kernel_rfl)) h
def Ne9:Fun:=fun avs H=>
 match avs,H with
 |[.agg [.dat (.list (.int .i64)) a,.dat (.list (.list (.int .i64))) b]],[]=>⟨_,N3n a b,fun(t:(List Int)×(List (List Int)))=>(.agg [.slc 1,.slc 2],[some (.box [.slc 1,.slc 2]),some (sI t.1),some (.nest (.int .i64) t.2 0 [])]),[],none⟩
 |_,_=>Ans.no
theorem N14r:Sound Tryz.prog 72 Ne9:=by
 refine fn_sound' (C:=N4s) (c:=bodyOf Tryz.f72) (cok_of tys_ok (alln) (alln) (by kernel_rfl)) Tryz.func72 (by kernel_rfl) LL N26 ?_
 intro avs H r H' h
 unfold Ne9 at h
 split at h
 ·refine Awp.cast ?_ ?_ ?_ (Nyb _ _ h)<;>kernel_rfl
 ·simp[Ans.no,Ans.run] at h
def Nv:Ann:=(.seq (.leaf [0]) (.seq (.leaf [0,3]) (.seq (.leaf [0,3,4]) (.seq (.seq (.leaf [0,3,4,5]) (.block (.loop (.seq (.seq (.leaf [0,3,4,5,16]) (.cond (.leaf [0,3,4,5]) (.leaf [3]))) (.seq (.block (.seq (.leaf [0,3,4,5,23]) (.cond (.leaf [0,3,4,5]) (.leaf [0,3,4,5])))) (.leaf [0,3,4,5])))))) (.seq (.leaf [2]) (.leaf [2]))))))
noncomputable def N4v:Ctx:=⟨tlook tys,olook [(27,N19)],ioF,0,false,[]⟩
theorem Nxo (a:List Int):Link N4v LL (Code.seq (cq [0] (bodyOf Tryz.f113)) (Code.seq (cq [0,1] (bodyOf Tryz.f113)) (cq [0,1,1] (bodyOf Tryz.f113)))) (Ann.seq (aq [0] Nv) (Ann.seq (aq [0,1] Nv) (aq [0,1,1] Nv))) ⟨mkE 38 0 [(0,dL a)],[]⟩ (Nbh a) (fun(t:Int)=>(Exit.normal,⟨mkE 38 0 [(0,dL a),(3,.slc 0),(4,dI t)],[some (sI ([]:List Int))]⟩)):= .of fun K h=>by
 simp only[Nbh,wpW] at h
 exact .of (by kernel_rfl) h
theorem N16h (a:List Int) (b:Int):Link N4v LL (cq [0,0,1,1,1] (bodyOf Tryz.f113)) (aq [0,0,1,1,1] Nv) ⟨mkE 38 0 [(0,dL a),(3,.slc 0),(4,dI b)],[some (sI ([]:List Int))]⟩ (Na9 b) (fun(t:Int)=>(Exit.normal,⟨mkE 38 0 [(0,dL a),(3,.slc 0),(4,dI b),(5,dI t)],[some (sI ([]:List Int))]⟩)):= .of fun K h=>by
 simp only[Na9,wpW] at h
 exact .of (by kernel_rfl) h
theorem N10i (a:List Int) (b c:Int) (d:List Int):Link N4v LL (cq [0,0,1,0,1,1,1] (bodyOf Tryz.f113)) (aq [0,0,1,0,1,1,1] Nv) ⟨mkE 38 0 [(0,dL a),(3,.slc 0),(4,dI b),(5,dI c)],[some (sI d)]⟩ (N2f a b c d) (Sum.elim (fun(t:Int×(List Int))=>(Exit.normal,⟨mkE 38 0 [(0,dL a),(3,.slc 0),(4,dI b),(5,dI t.1)],[some (sI t.2)]⟩)) (fun(t:(List Int))=>((Exit.exit 0),⟨mkE 38 0 [(3,.slc 0)],[some (sI t)]⟩))):= .of fun K h=>by
 simp only[N2f,wpW] at h
 exact .of (by kernel_rfl) h
theorem Nti (a:List Int):Link N4v LL (cq [1,1,1,1] (bodyOf Tryz.f113)) (aq [1,1,1,1] Nv) ⟨mkE 38 0 [(3,.slc 0)],[some (sI a)]⟩ (Na7 a) (fun(t:(List Int))=>(Exit.ret,⟨mkE 38 0 [(2,.slc 0)],[some (sI t)]⟩)):= .of fun K h=>by
 simp only[Na7,wpW] at h
 exact .of (by kernel_rfl) h
theorem N15b (b:List Int) {r:AV} {H':Heap} (h:(Ans.mk _ (N1v b) (fun(t:(List Int))=>(.slc 0,[some (sI t)])) [] none).run=some (r,H')):Awp N4v LL (bodyOf Tryz.f113) Nv ⟨mkE 38 0 [(0,dL b)],[]⟩ (Ret (tlook tys) Tryz.f113.results.toList r H'):=
 ret_of' (Link.cast (by kernel_rfl) (by kernel_rfl) (link_group (c:=(cq [0,1,1] (bodyOf Tryz.f113))) (a:=(aq [0,1,1] Nv)) [(cq [0] (bodyOf Tryz.f113)),(cq [0,1] (bodyOf Tryz.f113))] [(aq [0] Nv),(aq [0,1] Nv)] rfl (link_seq (Nxo b) (fun(t:Int)=>(link_seq (link_seq (N16h b t) (fun(t50:Int)=>(link_block (fin2:=(fun(t28:(List Int))=>(Exit.normal,⟨mkE 38 0 [(3,.slc 0)],[some (sI t28)]⟩))) (id:=0) (link_loop (mk:=fun(s:Int×(List Int))=>⟨mkE 38 0 [(0,dL b),(3,.slc 0),(4,dI t),(5,dI s.1)],[some (sI s.2)]⟩) (fin:=(fun(t28:(List Int))=>((Exit.exit 0),⟨mkE 38 0 [(3,.slc 0)],[some (sI t28)]⟩))) (by
 rintro t28 f K h
 ·exact h) (fun s=>link_map (N10i b t s.1 s.2) (Sum.elim (fun(t28:Int×(List Int))=>Sum.inl (t28.1,t28.2)) (fun(t28:(List Int))=>Sum.inr t28)) (by
 rintro(t28|t28)
 ·kernel_rfl
 ·kernel_rfl)) (t50,([]:List Int))) (fun(t28:(List Int))=>t28) (by
 rintro t28 K h
 ·exact Eq.mp (by kernel_rfl) h)))) (fun(t50:(List Int))=>(Nti t50))))))) (by unfold N1v;kernel_rfl) (by
 intro t
 exact ret_mk [.slc 0] (by kernel_rfl) (by kernel_rfl) (by kernel_rfl) (by kernel_rfl)) h
def Ni1:Fun:=fun avs H=>
 match avs,H with
 |[.dat (.list (.int .i64)) a],[]=>⟨_,N1v a,fun(t:(List Int))=>(.slc 0,[some (sI t)]),[],none⟩
 |_,_=>Ans.no
theorem N12z:Sound Tryz.prog 113 Ni1:=by
 refine fn_sound' (C:=N4v) (c:=bodyOf Tryz.f113) (cok_of tys_ok (allc N2j alln) (allc Tryz.call27 alln) (by kernel_rfl)) Tryz.func113 (by kernel_rfl) LL Nv ?_
 intro avs H r H' h
 unfold Ni1 at h
 split at h
 ·refine Awp.cast ?_ ?_ ?_ (N15b _ h)<;>kernel_rfl
 ·simp[Ans.no,Ans.run] at h
def N5f:Ann:=(.seq (.leaf [0]) (.seq (.seq (.leaf [0,3]) (.block (.loop (.seq (.seq (.leaf [0,3,11]) (.cond (.leaf [0,3]) (.leaf []))) (.seq (.block (.seq (.leaf [0,3,18]) (.cond (.seq (.leaf [2]) (.leaf [2])) (.leaf [0,3])))) (.leaf [0,3])))))) (.seq (.leaf [2]) (.leaf [2]))))
noncomputable def N5c:Ctx:=⟨tlook tys,olook [(27,N19)],ioF,0,false,[]⟩
theorem Nxm (a:List Int):Link N5c LL (cq [0] (bodyOf Tryz.f186)) (aq [0] N5f) ⟨mkE 21 0 [(0,dL a)],[]⟩ (N9b) (fun(t:Unit)=>(Exit.normal,⟨mkE 21 0 [(0,dL a)],[]⟩)):= .of fun K h=>by
 simp only[N9b,wpW] at h
 exact .of (by kernel_rfl) h
theorem N16l (a:List Int):Link N5c LL (cq [0,0,1] (bodyOf Tryz.f186)) (aq [0,0,1] N5f) ⟨mkE 21 0 [(0,dL a)],[]⟩ (Nb2) (fun(t:Unit)=>(Exit.normal,⟨mkE 21 0 [(0,dL a),(3,dI 0)],[]⟩)):= .of fun K h=>by
 simp only[Nb2,wpW] at h
 exact .of (by kernel_rfl) h
theorem N14m (a:List Int) (b:Int):Link N5c LL (cq [0,0,1,0,1] (bodyOf Tryz.f186)) (aq [0,0,1,0,1] N5f) ⟨mkE 21 0 [(0,dL a),(3,dI b)],[]⟩ (N39 a b) (Sum.elim (fun(t:Int)=>(Exit.normal,⟨mkE 21 0 [(0,dL a),(3,dI t)],[]⟩)) (Sum.elim (fun(t:Int)=>(Exit.ret,⟨mkE 21 0 [(2,dI t)],[]⟩)) (fun(t:Unit)=>((Exit.exit 0),⟨mkE 21 0 [],[]⟩)))):= .of fun K h=>by
 simp only[N39,wpW] at h
 exact .of (by kernel_rfl) h
theorem Ntm:Link N5c LL (cq [1,1] (bodyOf Tryz.f186)) (aq [1,1] N5f) ⟨mkE 21 0 [],[]⟩ (Ncp) (fun(t:Int)=>(Exit.ret,⟨mkE 21 0 [(2,dI t)],[]⟩)):= .of fun K h=>by
 simp only[Ncp,wpW] at h
 exact .of (by kernel_rfl) h
theorem Nze (a:List Int) {r:AV} {H':Heap} (h:(Ans.mk _ (N4p a) (fun(t:Int)=>(dI t,[])) [] none).run=some (r,H')):Awp N5c LL (bodyOf Tryz.f186) N5f ⟨mkE 21 0 [(0,dL a)],[]⟩ (Ret (tlook tys) Tryz.f186.results.toList r H'):=
 ret_of' (Link.cast (by kernel_rfl) (by kernel_rfl) (link_seq (Nxm a) (fun(t:Unit)=>(link_seq2 (link_seq (N16l a) (fun(t:Unit)=>(link_block (fin2:=(Sum.elim (fun(t:Unit)=>(Exit.normal,⟨mkE 21 0 [],[]⟩)) (fun(t:Int)=>(Exit.ret,⟨mkE 21 0 [(2,dI t)],[]⟩)))) (id:=0) (link_loop (mk:=fun(s:Int)=>⟨mkE 21 0 [(0,dL a),(3,dI s)],[]⟩) (fin:=(Sum.elim (fun(t:Int)=>(Exit.ret,⟨mkE 21 0 [(2,dI t)],[]⟩)) (fun(t:Unit)=>((Exit.exit 0),⟨mkE 21 0 [],[]⟩)))) (by
 rintro(t|t) f K h
 ·exact h
 ·exact h) (fun s=>link_map (N14m a s) (Sum.elim (fun(t:Int)=>Sum.inl t) (Sum.elim (fun(t:Int)=>Sum.inr (Sum.inl t)) (fun(t:Unit)=>Sum.inr (Sum.inr t)))) (by
 rintro(t|t|t)
 ·kernel_rfl
 ·kernel_rfl
 ·kernel_rfl)) 0) (Sum.elim (fun(t:Int)=>(Sum.inr t)) (fun(t:Unit)=>(Sum.inl ()))) (by
 rintro(t|t) K h
 ·exact Eq.mp (by kernel_rfl) h
 ·exact Eq.mp (by kernel_rfl) h)))) (fun(t:Unit)=>(Ntm)) (fun(t:Int)=>t) (by
 rintro t
 ·kernel_rfl) (by
 rintro t f K h
 ·exact h))))) (by unfold N4p;kernel_rfl) (by
 intro t
 exact ret_mk [dI t] (by kernel_rfl) (by kernel_rfl) (by kernel_rfl) (by kernel_rfl)) h
def Nij:Fun:=fun avs H=>
 match avs,H with
 |[.dat (.list (.int .i64)) a],[]=>⟨_,N4p a,fun(t:Int)=>(dI t,[]),[],none⟩
 |_,_=>Ans.no
theorem Nrd:Sound Tryz.prog 186 Nij:=by
 refine fn_sound' (C:=N5c) (c:=bodyOf Tryz.f186) (cok_of tys_ok (allc N2j alln) (allc Tryz.call27 alln) (by kernel_rfl)) Tryz.func186 (by kernel_rfl) LL N5f ?_
 intro avs H r H' h
 unfold Nij at h
 split at h
 ·refine Awp.cast ?_ ?_ ?_ (Nze _ h)<;>kernel_rfl
 ·simp[Ans.no,Ans.run] at h
def Nm:Ann:=(.seq (.leaf [0,1]) (.seq (.leaf [0,1,5]) (.seq (.seq (.leaf [0,1,5,6]) (.block (.loop (.seq (.seq (.leaf [0,1,5,6,11]) (.cond (.leaf [0,1,5,6]) (.leaf [0,1,5]))) (.seq (.block (.seq (.leaf [0,1,5,6,20]) (.cond (.leaf [0,1,5,6]) (.leaf [0,1,5,6])))) (.leaf [0,1,5,6])))))) (.seq (.leaf [0,1,5]) (.seq (.seq (.leaf [0,1,5,7]) (.block (.loop (.seq (.seq (.leaf [0,1,5,7,35]) (.cond (.leaf [0,1,5,7]) (.leaf [5]))) (.seq (.block (.seq (.leaf [0,1,5,7,44]) (.cond (.leaf [0,1,5,7]) (.leaf [0,1,5,7])))) (.leaf [0,1,5,7])))))) (.seq (.leaf [4]) (.leaf [4])))))))
def N23 (n:Nat):Fun:=fun avs H=>
 match avs,H with
 |[.dat (.list (.int .i64)) a,.dat (.int .i64) b],[]=>⟨_,Nd n a b,fun(t:(List Int))=>(.slc 0,[some (sI t)]),[],none⟩
 |_,_=>Ans.no
noncomputable def N1e (n:Nat):Ctx:=⟨tlook tys,olook [(185,N23 n)],ioF,0,false,[]⟩
theorem Nr7 (n:Nat) (a:List Int) (b:Int):Link (N1e n) LL (Code.seq (cq [0] (bodyOf Tryz.f185)) (cq [0,1] (bodyOf Tryz.f185))) (Ann.seq (aq [0] Nm) (aq [0,1] Nm)) ⟨mkE 51 0 [(0,dL a),(1,dI b)],[]⟩ (Nce (Nd n)) (fun(t:Unit)=>(Exit.normal,⟨mkE 51 0 [(0,dL a),(1,dI b),(5,.slc 0)],[some (sI ([]:List Int))]⟩)):= .of fun K h=>by
 simp only[Nce,wpW] at h
 exact .of (by kernel_rfl) h
theorem Nu7 (n:Nat) (a:List Int) (b:Int):Link (N1e n) LL (cq [0,0,1,1] (bodyOf Tryz.f185)) (aq [0,0,1,1] Nm) ⟨mkE 51 0 [(0,dL a),(1,dI b),(5,.slc 0)],[some (sI ([]:List Int))]⟩ (N8r (Nd n)) (fun(t:Unit)=>(Exit.normal,⟨mkE 51 0 [(0,dL a),(1,dI b),(5,.slc 0),(6,dI 1)],[some (sI ([]:List Int))]⟩)):= .of fun K h=>by
 simp only[N8r,wpW] at h
 exact .of (by kernel_rfl) h
theorem Nsy (n:Nat) (a:List Int) (b c:Int) (d:List Int):Link (N1e n) LL (cq [0,0,1,0,1,1] (bodyOf Tryz.f185)) (aq [0,0,1,0,1,1] Nm) ⟨mkE 51 0 [(0,dL a),(1,dI b),(5,.slc 0),(6,dI c)],[some (sI d)]⟩ (N5d (Nd n) a b c d) (Sum.elim (fun(t:Int×(List Int))=>(Exit.normal,⟨mkE 51 0 [(0,dL a),(1,dI b),(5,.slc 0),(6,dI t.1)],[some (sI t.2)]⟩)) (fun(t:(List Int))=>((Exit.exit 0),⟨mkE 51 0 [(0,dL a),(1,dI b),(5,.slc 0)],[some (sI t)]⟩))):= .of fun K h=>by
 simp only[N5d,wpW] at h
 exact .of (by kernel_rfl) h
theorem Nro (n:Nat) (a:List Int) (b:Int) (c:List Int):Link (N1e n) LL (cq [0,1,1,1] (bodyOf Tryz.f185)) (aq [0,1,1,1] Nm) ⟨mkE 51 0 [(0,dL a),(1,dI b),(5,.slc 0)],[some (sI c)]⟩ (Ncr (Nd n) b c) (fun(t:(List Int))=>(Exit.normal,⟨mkE 51 0 [(0,dL a),(1,dI b),(5,.slc 0)],[some (sI t)]⟩)):= .of fun K h=>by
 simp only[Ncr,wpW] at h
 exact .of (by kernel_rfl) h
theorem N14e (n:Nat) (a:List Int) (b:Int) (c:List Int):Link (N1e n) LL (cq [0,0,1,1,1,1] (bodyOf Tryz.f185)) (aq [0,0,1,1,1,1] Nm) ⟨mkE 51 0 [(0,dL a),(1,dI b),(5,.slc 0)],[some (sI c)]⟩ (Naw (Nd n) b) (fun(t:Int)=>(Exit.normal,⟨mkE 51 0 [(0,dL a),(1,dI b),(5,.slc 0),(7,dI t)],[some (sI c)]⟩)):= .of fun K h=>by
 simp only[Naw,wpW] at h
 exact .of (by kernel_rfl) h
theorem Nx1 (n:Nat) (a:List Int) (b c:Int) (d:List Int):Link (N1e n) LL (cq [0,0,1,0,1,1,1,1] (bodyOf Tryz.f185)) (aq [0,0,1,0,1,1,1,1] Nm) ⟨mkE 51 0 [(0,dL a),(1,dI b),(5,.slc 0),(7,dI c)],[some (sI d)]⟩ (N63 (Nd n) a b c d) (Sum.elim (fun(t:Int×(List Int))=>(Exit.normal,⟨mkE 51 0 [(0,dL a),(1,dI b),(5,.slc 0),(7,dI t.1)],[some (sI t.2)]⟩)) (fun(t:(List Int))=>((Exit.exit 2),⟨mkE 51 0 [(5,.slc 0)],[some (sI t)]⟩))):= .of fun K h=>by
 simp only[N63,wpW] at h
 exact .of (by kernel_rfl) h
theorem N14p (n:Nat) (a:List Int):Link (N1e n) LL (cq [1,1,1,1,1] (bodyOf Tryz.f185)) (aq [1,1,1,1,1] Nm) ⟨mkE 51 0 [(5,.slc 0)],[some (sI a)]⟩ (N9p (Nd n) a) (fun(t:(List Int))=>(Exit.ret,⟨mkE 51 0 [(4,.slc 0)],[some (sI t)]⟩)):= .of fun K h=>by
 simp only[N9p,wpW] at h
 exact .of (by kernel_rfl) h
theorem Nuz (n:Nat) (b:List Int) (d:Int) {r:AV} {H':Heap} (h:(Ans.mk _ (Nd (n+1) b d) (fun(t:(List Int))=>(.slc 0,[some (sI t)])) [] none).run=some (r,H')):Awp (N1e n) LL (bodyOf Tryz.f185) Nm ⟨mkE 51 0 [(0,dL b),(1,dI d)],[]⟩ (Ret (tlook tys) Tryz.f185.results.toList r H'):=
 ret_of' (Link.cast (by kernel_rfl) (by kernel_rfl) (link_group (c:=(cq [0,1] (bodyOf Tryz.f185))) (a:=(aq [0,1] Nm)) [(cq [0] (bodyOf Tryz.f185))] [(aq [0] Nm)] rfl (link_seq (Nr7 n b d) (fun(t:Unit)=>(link_seq (link_seq (Nu7 n b d) (fun(t:Unit)=>(link_block (fin2:=(fun(t:(List Int))=>(Exit.normal,⟨mkE 51 0 [(0,dL b),(1,dI d),(5,.slc 0)],[some (sI t)]⟩))) (id:=0) (link_loop (mk:=fun(s:Int×(List Int))=>⟨mkE 51 0 [(0,dL b),(1,dI d),(5,.slc 0),(6,dI s.1)],[some (sI s.2)]⟩) (fin:=(fun(t:(List Int))=>((Exit.exit 0),⟨mkE 51 0 [(0,dL b),(1,dI d),(5,.slc 0)],[some (sI t)]⟩))) (by
 rintro t f K h
 ·exact h) (fun s=>link_map (Nsy n b d s.1 s.2) (Sum.elim (fun(t:Int×(List Int))=>Sum.inl (t.1,t.2)) (fun(t:(List Int))=>Sum.inr t)) (by
 rintro(t|t)
 ·kernel_rfl
 ·kernel_rfl)) (1,([]:List Int))) (fun(t:(List Int))=>t) (by
 rintro t K h
 ·exact Eq.mp (by kernel_rfl) h)))) (fun(t:(List Int))=>(link_seq (Nro n b d t) (fun(t57:(List Int))=>(link_seq (link_seq (N14e n b d t57) (fun(t51:Int)=>(link_block (fin2:=(fun(t29:(List Int))=>(Exit.normal,⟨mkE 51 0 [(5,.slc 0)],[some (sI t29)]⟩))) (id:=2) (link_loop (mk:=fun(s:Int×(List Int))=>⟨mkE 51 0 [(0,dL b),(1,dI d),(5,.slc 0),(7,dI s.1)],[some (sI s.2)]⟩) (fin:=(fun(t29:(List Int))=>((Exit.exit 2),⟨mkE 51 0 [(5,.slc 0)],[some (sI t29)]⟩))) (by
 rintro t29 f K h
 ·exact h) (fun s=>link_map (Nx1 n b d s.1 s.2) (Sum.elim (fun(t29:Int×(List Int))=>Sum.inl (t29.1,t29.2)) (fun(t29:(List Int))=>Sum.inr t29)) (by
 rintro(t29|t29)
 ·kernel_rfl
 ·kernel_rfl)) (t51,t57)) (fun(t29:(List Int))=>t29) (by
 rintro t29 K h
 ·exact Eq.mp (by kernel_rfl) h)))) (fun(t51:(List Int))=>(N14p n t51))))))))))) (by(show _=_);kernel_rfl) (by
 intro t
 exact ret_mk [.slc 0] (by kernel_rfl) (by kernel_rfl) (by kernel_rfl) (by kernel_rfl)) h
theorem Nqz (n:Nat) (h185:Sound Tryz.prog 185 (N23 n)):Sound Tryz.prog 185 (N23 (n+1)):=by
 refine fn_sound' (C:=N1e n) (c:=bodyOf Tryz.f185) (cok_of tys_ok (allc h185 alln) (allc Tryz.call185 alln) (by kernel_rfl)) Tryz.func185 (by kernel_rfl) LL Nm ?_
 intro avs H r H' h
 unfold N23 at h
 split at h
 ·refine Awp.cast ?_ ?_ ?_ (Nuz n _ _ h)<;>kernel_rfl
 ·simp[Ans.no,Ans.run] at h
theorem Nuc:Sound Tryz.prog 185 (N23 0):=by
 intro avs H r H' h
 unfold N23 at h
 split at h
 ·simp[Nd,N3b,Ans.run] at h
 ·simp[Ans.no,Ans.run] at h
theorem Npg: ∀n,Sound Tryz.prog 185 (N23 n)
 |0=>Nuc
 |n+1=>by
  have h185:=Npg n
  exact Nqz n h185
def N7y:Fun:=fun avs H=>
 match avs,H with
 |[.dat (.list (.int .i64)) a,.dat (.int .i64) b],[]=>⟨_,N6j a b,fun(t:(List Int))=>(.slc 0,[some (sI t)]),[],none⟩
 |_,_=>Ans.no
theorem Nsb:Sound Tryz.prog 185 N7y:=by
 have e:N7y=N23 RR:=by
  funext avs H
  unfold N7y N23
  split<;>first|rfl|(simp only[N6j])
 rw[e]
 exact(Npg RR)
def Nil:Ann:=(.seq (.leaf [0]) (.seq (.seq (.leaf [0,5]) (.cond (.seq (.leaf [2]) (.leaf [2])) (.leaf [0]))) (.seq (.leaf [2]) (.leaf [2]))))
noncomputable def Ncy:Ctx:=⟨tlook tys,olook [(27,N19),(186,Nij),(185,N7y)],ioF,0,false,[]⟩
theorem N12e (a:List Int):Link Ncy LL (bodyOf Tryz.f149) Nil ⟨mkE 11 0 [(0,dL a)],[]⟩ (Nck a) (fun(t:(List Int))=>(Exit.ret,⟨mkE 11 0 [(2,.slc 0)],[some (sI t)]⟩)):= .of fun K h=>by
 simp only[Nck,wpW] at h
 exact .of (by kernel_rfl) h
theorem N10h (a:List Int) {r:AV} {H':Heap} (h:(Ans.mk _ (N4c a) (fun(t:(List Int))=>(.slc 0,[some (sI t)])) [] none).run=some (r,H')):Awp Ncy LL (bodyOf Tryz.f149) Nil ⟨mkE 11 0 [(0,dL a)],[]⟩ (Ret (tlook tys) Tryz.f149.results.toList r H'):=
 ret_of' (N12e a) (by unfold N4c;kernel_rfl) (by
 intro t
 exact ret_mk [.slc 0] (by kernel_rfl) (by kernel_rfl) (by kernel_rfl) (by kernel_rfl)) h
def Nit:Fun:=fun avs H=>
 match avs,H with
 |[.dat (.list (.int .i64)) a],[]=>⟨_,N4c a,fun(t:(List Int))=>(.slc 0,[some (sI t)]),[],none⟩
 |_,_=>Ans.no
theorem Nyw:Sound Tryz.prog 149 Nit:=by
 refine fn_sound' (C:=Ncy) (c:=bodyOf Tryz.f149) (cok_of tys_ok (allc N2j (allc Nrd (allc Nsb alln))) (allc Tryz.call27 (allc Tryz.call186 (allc Tryz.call185 alln))) (by kernel_rfl)) Tryz.func149 (by kernel_rfl) LL Nil ?_
 intro avs H r H' h
 unfold Nit at h
 split at h
 ·refine Awp.cast ?_ ?_ ?_ (N10h _ h)<;>kernel_rfl
 ·simp[Ans.no,Ans.run] at h
def Nis:Ann:=(.seq (.leaf [0]) (.seq (.leaf [3]) (.seq (.leaf [2]) (.leaf [2]))))
noncomputable def Ni3:Ctx:=⟨tlook tys,olook [(149,Nit),(65,Nb9)],ioF,0,false,[]⟩
theorem N13c (a:List Int):Link Ni3 LL (bodyOf Tryz.f114) Nis ⟨mkE 13 0 [(0,dL a)],[]⟩ (Nag a) (fun(t:(List Int))=>(Exit.ret,⟨mkE 13 0 [(2,.slc 0)],[some (sI t)]⟩)):= .of fun K h=>by
 simp only[Nag,wpW] at h
 exact .of (by kernel_rfl) h
theorem N167 (a:List Int) {r:AV} {H':Heap} (h:(Ans.mk _ (N2n a) (fun(t:(List Int))=>(.slc 0,[some (sI t)])) [] none).run=some (r,H')):Awp Ni3 LL (bodyOf Tryz.f114) Nis ⟨mkE 13 0 [(0,dL a)],[]⟩ (Ret (tlook tys) Tryz.f114.results.toList r H'):=
 ret_of' (N13c a) (by unfold N2n;kernel_rfl) (by
 intro t
 exact ret_mk [.slc 0] (by kernel_rfl) (by kernel_rfl) (by kernel_rfl) (by kernel_rfl)) h
def Nhf:Fun:=fun avs H=>
 match avs,H with
 |[.dat (.list (.int .i64)) a],[]=>⟨_,N2n a,fun(t:(List Int))=>(.slc 0,[some (sI t)]),[],none⟩
 |_,_=>Ans.no
theorem N11g:Sound Tryz.prog 114 Nhf:=by
 refine fn_sound' (C:=Ni3) (c:=bodyOf Tryz.f114) (cok_of tys_ok (allc Nyw (allc Nog alln)) (allc Tryz.call149 (allc Tryz.call65 alln)) (by kernel_rfl)) Tryz.func114 (by kernel_rfl) LL Nis ?_
 intro avs H r H' h
 unfold Nhf at h
 split at h
 ·refine Awp.cast ?_ ?_ ?_ (N167 _ h)<;>kernel_rfl
 ·simp[Ans.no,Ans.run] at h
end Go.Rv
