/-
  The checked code answers as the plain functions do; written by program. Conditions: none.
-/
import Derived.Test.YtihgceegapfngadDoorGFnDeskDo
import Derived.Test.YtihgceegapfngadDoorFB
import Derived.Test.YtihgceegapfngadDoorProg
set_option linter.unusedVariables false
set_option linter.unusedSimpArgs false
set_option linter.defProp false
set_option maxRecDepth 100000
namespace Go.Rv
open Go.Proofs
theorem ty3 : TIOk Tryd.prog 3 ⟨.int .i64,1,8,some (.int .i64),[.int .i64 0],false⟩ := ⟨⟨infoOf (Tryd.prog.info? 3),by kernel_rfl,by kernel_rfl,by kernel_rfl,.int .i64 0,by kernel_rfl,by kernel_rfl⟩,(by kernel_rfl : Tryd.prog.underlying 3 = some (.int .i64)),no_eq⟩
theorem ty4 : TIOk Tryd.prog 4 ⟨.bool,1,1,some .bool,[.bool false],false⟩ := ⟨⟨infoOf (Tryd.prog.info? 4),by kernel_rfl,by kernel_rfl,by kernel_rfl,.bool false,by kernel_rfl,by kernel_rfl⟩,(by kernel_rfl : Tryd.prog.underlying 4 = some .bool),no_eq⟩
theorem ty5 : TIOk Tryd.prog 5 ⟨.int .u8,1,1,some (.int .u8),[.int .u8 0],false⟩ := ⟨⟨infoOf (Tryd.prog.info? 5),by kernel_rfl,by kernel_rfl,by kernel_rfl,.int .u8 0,by kernel_rfl,by kernel_rfl⟩,(by kernel_rfl : Tryd.prog.underlying 5 = some (.int .u8)),no_eq⟩
theorem ty22 : TIOk Tryd.prog 22 ⟨.slice 5,1,24,some (.list (.int .u8)),[.slice none 0 0],false⟩ := ⟨⟨infoOf (Tryd.prog.info? 22),by kernel_rfl,by kernel_rfl,by kernel_rfl,.slice none 0 0,by kernel_rfl,by kernel_rfl⟩,(by kernel_rfl : Tryd.prog.underlying 22 = some (.slice 5)),no_eq⟩
theorem ty23 : TIOk Tryd.prog 23 ⟨.slice 3,1,24,some (.list (.int .i64)),[.slice none 0 0],false⟩ := ⟨⟨infoOf (Tryd.prog.info? 23),by kernel_rfl,by kernel_rfl,by kernel_rfl,.slice none 0 0,by kernel_rfl,by kernel_rfl⟩,(by kernel_rfl : Tryd.prog.underlying 23 = some (.slice 3)),no_eq⟩
theorem ty24 : TIOk Tryd.prog 24 ⟨.slice 23,1,24,some (.list (.list (.int .i64))),[.slice none 0 0],false⟩ := ⟨⟨infoOf (Tryd.prog.info? 24),by kernel_rfl,by kernel_rfl,by kernel_rfl,.slice none 0 0,by kernel_rfl,by kernel_rfl⟩,(by kernel_rfl : Tryd.prog.underlying 24 = some (.slice 23)),no_eq⟩
theorem ty26 : TIOk Tryd.prog 26 ⟨.strct [(0,23),(1,24)],2,48,some (.pair (.list (.int .i64)) (.pair (.list (.list (.int .i64))) .unit)),[.slice none 0 0,.slice none 0 0],false⟩ := ⟨⟨infoOf (Tryd.prog.info? 26),by kernel_rfl,by kernel_rfl,by kernel_rfl,.agg #[.slice none 0 0,.slice none 0 0],by kernel_rfl,by kernel_rfl⟩,⟨fieldsOf (Tryd.prog.underlying 26),by kernel_rfl,by kernel_rfl⟩,no_eq⟩
theorem ty28 : TIOk Tryd.prog 28 ⟨.strct [(0,3),(1,3),(2,3)],3,24,some (.pair (.int .i64) (.pair (.int .i64) (.pair (.int .i64) .unit))),[.int .i64 0,.int .i64 0,.int .i64 0],true⟩ := ⟨⟨infoOf (Tryd.prog.info? 28),by kernel_rfl,by kernel_rfl,by kernel_rfl,.agg #[.int .i64 0,.int .i64 0,.int .i64 0],by kernel_rfl,by kernel_rfl⟩,⟨fieldsOf (Tryd.prog.underlying 28),by kernel_rfl,by kernel_rfl⟩,fun _ => by kernel_rfl⟩
theorem ty39 : TIOk Tryd.prog 39 ⟨.slice 28,1,24,some (.list (.pair (.int .i64) (.pair (.int .i64) (.pair (.int .i64) .unit)))),[.slice none 0 0],false⟩ := ⟨⟨infoOf (Tryd.prog.info? 39),by kernel_rfl,by kernel_rfl,by kernel_rfl,.slice none 0 0,by kernel_rfl,by kernel_rfl⟩,(by kernel_rfl : Tryd.prog.underlying 39 = some (.slice 28)),no_eq⟩
theorem ty57 : TIOk Tryd.prog 57 ⟨.strct [(0,3),(1,3)],2,16,some (.pair (.int .i64) (.pair (.int .i64) .unit)),[.int .i64 0,.int .i64 0],false⟩ := ⟨⟨infoOf (Tryd.prog.info? 57),by kernel_rfl,by kernel_rfl,by kernel_rfl,.agg #[.int .i64 0,.int .i64 0],by kernel_rfl,by kernel_rfl⟩,⟨fieldsOf (Tryd.prog.underlying 57),by kernel_rfl,by kernel_rfl⟩,no_eq⟩
theorem ty58 : TIOk Tryd.prog 58 ⟨.slice 57,1,24,some (.list (.pair (.int .i64) (.pair (.int .i64) .unit))),[.slice none 0 0],false⟩ := ⟨⟨infoOf (Tryd.prog.info? 58),by kernel_rfl,by kernel_rfl,by kernel_rfl,.slice none 0 0,by kernel_rfl,by kernel_rfl⟩,(by kernel_rfl : Tryd.prog.underlying 58 = some (.slice 57)),no_eq⟩
theorem ty62 : TIOk Tryd.prog 62 ⟨.slice 65,1,24,some (.list (.int .u64)),[.slice none 0 0],false⟩ := ⟨⟨infoOf (Tryd.prog.info? 62),by kernel_rfl,by kernel_rfl,by kernel_rfl,.slice none 0 0,by kernel_rfl,by kernel_rfl⟩,(by kernel_rfl : Tryd.prog.underlying 62 = some (.slice 65)),no_eq⟩
theorem ty65 : TIOk Tryd.prog 65 ⟨.int .u64,1,8,some (.int .u64),[.int .u64 0],false⟩ := ⟨⟨infoOf (Tryd.prog.info? 65),by kernel_rfl,by kernel_rfl,by kernel_rfl,.int .u64 0,by kernel_rfl,by kernel_rfl⟩,(by kernel_rfl : Tryd.prog.underlying 65 = some (.int .u64)),no_eq⟩
theorem ty69 : TIOk Tryd.prog 69 ⟨.strct [(0,22),(1,3)],2,32,some (.pair (.list (.int .u8)) (.pair (.int .i64) .unit)),[.slice none 0 0,.int .i64 0],false⟩ := ⟨⟨infoOf (Tryd.prog.info? 69),by kernel_rfl,by kernel_rfl,by kernel_rfl,.agg #[.slice none 0 0,.int .i64 0],by kernel_rfl,by kernel_rfl⟩,⟨fieldsOf (Tryd.prog.underlying 69),by kernel_rfl,by kernel_rfl⟩,no_eq⟩
theorem ty85 : TIOk Tryd.prog 85 ⟨.strct [(0,23),(1,3),(2,3)],3,40,some (.pair (.list (.int .i64)) (.pair (.int .i64) (.pair (.int .i64) .unit))),[.slice none 0 0,.int .i64 0,.int .i64 0],false⟩ := ⟨⟨infoOf (Tryd.prog.info? 85),by kernel_rfl,by kernel_rfl,by kernel_rfl,.agg #[.slice none 0 0,.int .i64 0,.int .i64 0],by kernel_rfl,by kernel_rfl⟩,⟨fieldsOf (Tryd.prog.underlying 85),by kernel_rfl,by kernel_rfl⟩,no_eq⟩
theorem ty100 : TIOk Tryd.prog 100 ⟨.int .u64,1,8,some (.int .u64),[.int .u64 0],false⟩ := ⟨⟨infoOf (Tryd.prog.info? 100),by kernel_rfl,by kernel_rfl,by kernel_rfl,.int .u64 0,by kernel_rfl,by kernel_rfl⟩,(by kernel_rfl : Tryd.prog.underlying 100 = some (.int .u64)),no_eq⟩
theorem ty101 : TIOk Tryd.prog 101 ⟨.arr 9 4,9,9,none,[.bool false,.bool false,.bool false,.bool false,.bool false,.bool false,.bool false,.bool false,.bool false],false⟩ := ⟨⟨infoOf (Tryd.prog.info? 101),by kernel_rfl,by kernel_rfl,by kernel_rfl,.agg #[.bool false,.bool false,.bool false,.bool false,.bool false,.bool false,.bool false,.bool false,.bool false],by kernel_rfl,by kernel_rfl⟩,(by kernel_rfl : Tryd.prog.underlying 101 = some (.array 9 4)),no_eq⟩
theorem ty106 : TIOk Tryd.prog 106 ⟨.arr 64 5,64,64,none,[.int .u8 0,.int .u8 0,.int .u8 0,.int .u8 0,.int .u8 0,.int .u8 0,.int .u8 0,.int .u8 0,.int .u8 0,.int .u8 0,.int .u8 0,.int .u8 0,.int .u8 0,.int .u8 0,.int .u8 0,.int .u8 0,.int .u8 0,.int .u8 0,.int .u8 0,.int .u8 0,.int .u8 0,.int .u8 0,.int .u8 0,.int .u8 0,.int .u8 0,.int .u8 0,.int .u8 0,.int .u8 0,.int .u8 0,.int .u8 0,.int .u8 0,.int .u8 0,.int .u8 0,.int .u8 0,.int .u8 0,.int .u8 0,.int .u8 0,.int .u8 0,.int .u8 0,.int .u8 0,.int .u8 0,.int .u8 0,.int .u8 0,.int .u8 0,.int .u8 0,.int .u8 0,.int .u8 0,.int .u8 0,.int .u8 0,.int .u8 0,.int .u8 0,.int .u8 0,.int .u8 0,.int .u8 0,.int .u8 0,.int .u8 0,.int .u8 0,.int .u8 0,.int .u8 0,.int .u8 0,.int .u8 0,.int .u8 0,.int .u8 0,.int .u8 0],false⟩ := ⟨⟨infoOf (Tryd.prog.info? 106),by kernel_rfl,by kernel_rfl,by kernel_rfl,.agg #[.int .u8 0,.int .u8 0,.int .u8 0,.int .u8 0,.int .u8 0,.int .u8 0,.int .u8 0,.int .u8 0,.int .u8 0,.int .u8 0,.int .u8 0,.int .u8 0,.int .u8 0,.int .u8 0,.int .u8 0,.int .u8 0,.int .u8 0,.int .u8 0,.int .u8 0,.int .u8 0,.int .u8 0,.int .u8 0,.int .u8 0,.int .u8 0,.int .u8 0,.int .u8 0,.int .u8 0,.int .u8 0,.int .u8 0,.int .u8 0,.int .u8 0,.int .u8 0,.int .u8 0,.int .u8 0,.int .u8 0,.int .u8 0,.int .u8 0,.int .u8 0,.int .u8 0,.int .u8 0,.int .u8 0,.int .u8 0,.int .u8 0,.int .u8 0,.int .u8 0,.int .u8 0,.int .u8 0,.int .u8 0,.int .u8 0,.int .u8 0,.int .u8 0,.int .u8 0,.int .u8 0,.int .u8 0,.int .u8 0,.int .u8 0,.int .u8 0,.int .u8 0,.int .u8 0,.int .u8 0,.int .u8 0,.int .u8 0,.int .u8 0,.int .u8 0],by kernel_rfl,by kernel_rfl⟩,(by kernel_rfl : Tryd.prog.underlying 106 = some (.array 64 5)),no_eq⟩
def tys : List (TypeId × TI) := [(3,⟨.int .i64,1,8,some (.int .i64),[.int .i64 0],false⟩),(4,⟨.bool,1,1,some .bool,[.bool false],false⟩),(5,⟨.int .u8,1,1,some (.int .u8),[.int .u8 0],false⟩),(22,⟨.slice 5,1,24,some (.list (.int .u8)),[.slice none 0 0],false⟩),(23,⟨.slice 3,1,24,some (.list (.int .i64)),[.slice none 0 0],false⟩),(24,⟨.slice 23,1,24,some (.list (.list (.int .i64))),[.slice none 0 0],false⟩),(26,⟨.strct [(0,23),(1,24)],2,48,some (.pair (.list (.int .i64)) (.pair (.list (.list (.int .i64))) .unit)),[.slice none 0 0,.slice none 0 0],false⟩),(28,⟨.strct [(0,3),(1,3),(2,3)],3,24,some (.pair (.int .i64) (.pair (.int .i64) (.pair (.int .i64) .unit))),[.int .i64 0,.int .i64 0,.int .i64 0],true⟩),(39,⟨.slice 28,1,24,some (.list (.pair (.int .i64) (.pair (.int .i64) (.pair (.int .i64) .unit)))),[.slice none 0 0],false⟩),(57,⟨.strct [(0,3),(1,3)],2,16,some (.pair (.int .i64) (.pair (.int .i64) .unit)),[.int .i64 0,.int .i64 0],false⟩),(58,⟨.slice 57,1,24,some (.list (.pair (.int .i64) (.pair (.int .i64) .unit))),[.slice none 0 0],false⟩),(62,⟨.slice 65,1,24,some (.list (.int .u64)),[.slice none 0 0],false⟩),(65,⟨.int .u64,1,8,some (.int .u64),[.int .u64 0],false⟩),(69,⟨.strct [(0,22),(1,3)],2,32,some (.pair (.list (.int .u8)) (.pair (.int .i64) .unit)),[.slice none 0 0,.int .i64 0],false⟩),(85,⟨.strct [(0,23),(1,3),(2,3)],3,40,some (.pair (.list (.int .i64)) (.pair (.int .i64) (.pair (.int .i64) .unit))),[.slice none 0 0,.int .i64 0,.int .i64 0],false⟩),(100,⟨.int .u64,1,8,some (.int .u64),[.int .u64 0],false⟩),(101,⟨.arr 9 4,9,9,none,[.bool false,.bool false,.bool false,.bool false,.bool false,.bool false,.bool false,.bool false,.bool false],false⟩),(106,⟨.arr 64 5,64,64,none,[.int .u8 0,.int .u8 0,.int .u8 0,.int .u8 0,.int .u8 0,.int .u8 0,.int .u8 0,.int .u8 0,.int .u8 0,.int .u8 0,.int .u8 0,.int .u8 0,.int .u8 0,.int .u8 0,.int .u8 0,.int .u8 0,.int .u8 0,.int .u8 0,.int .u8 0,.int .u8 0,.int .u8 0,.int .u8 0,.int .u8 0,.int .u8 0,.int .u8 0,.int .u8 0,.int .u8 0,.int .u8 0,.int .u8 0,.int .u8 0,.int .u8 0,.int .u8 0,.int .u8 0,.int .u8 0,.int .u8 0,.int .u8 0,.int .u8 0,.int .u8 0,.int .u8 0,.int .u8 0,.int .u8 0,.int .u8 0,.int .u8 0,.int .u8 0,.int .u8 0,.int .u8 0,.int .u8 0,.int .u8 0,.int .u8 0,.int .u8 0,.int .u8 0,.int .u8 0,.int .u8 0,.int .u8 0,.int .u8 0,.int .u8 0,.int .u8 0,.int .u8 0,.int .u8 0,.int .u8 0,.int .u8 0,.int .u8 0,.int .u8 0,.int .u8 0],false⟩)]
theorem tys_ok : TOk Tryd.prog (tlook tys) := tok_of (allc ty3 (allc ty4 (allc ty5 (allc ty22 (allc ty23 (allc ty24 (allc ty26 (allc ty28 (allc ty39 (allc ty57 (allc ty58 (allc ty62 (allc ty65 (allc ty69 (allc ty85 (allc ty100 (allc ty101 (allc ty106 alln))))))))))))))))))
def ioF (f : FuncId) (i : Nat) : Bool := [(54,0),(69,1),(81,0),(86,0)].any fun (p : Nat × Nat) => Nat.beq p.1 f && Nat.beq p.2 i

def Ndd : Ann := (.seq (.leaf [0]) (.seq (.seq (.leaf [0,5]) (.cond (.leaf [0]) (.leaf [0]))) (.seq (.leaf [2]) (.leaf [2]))))
noncomputable def Naa : Ctx := ⟨tlook tys,olook [],ioF,0,false,[]⟩
theorem Nql (a : List Int) : Link Naa LL (bodyOf Tryd.f18) Ndd ⟨mkE 11 0 [(0,dV a)],[]⟩ (N6g a) (fun (t : (List Int)) => (Exit.ret,⟨mkE 11 0 [(2,.ptr 0 0)],[some (.box [dV t,dI 0])]⟩)) := .of fun K h => by
  simp only [N6g,wpW] at h
  exact .of (by kernel_rfl) h
theorem Nzs (a : List Int) {r : AV} {H' : Heap} (h : (Ans.mk _ (N3t a) (fun (t : (List Int)) => (.ptr 0 0,[some (.box [dV t,dI 0])])) [] none).run = some (r,H')) : Awp Naa LL (bodyOf Tryd.f18) Ndd ⟨mkE 11 0 [(0,dV a)],[]⟩ (Ret (tlook tys) Tryd.f18.results.toList r H') :=
  ret_of' (Nql a) (by unfold N3t; kernel_rfl) (by
  intro t
  exact ret_mk [.ptr 0 0] (by kernel_rfl) (by kernel_rfl) (by kernel_rfl) (by kernel_rfl)) h
def Nd1 : Fun := fun avs H =>
  match avs,H with
  | [.dat (.list (.int .u8)) a],[] => ⟨_,N3t a,fun (t : (List Int)) => (.ptr 0 0,[some (.box [dV t,dI 0])]),[],none⟩
  | _,_ => Ans.no
theorem Nq7 : Sound Tryd.prog 18 Nd1 := by
  refine fn_sound' (C := Naa) (c := bodyOf Tryd.f18) (cok_of tys_ok (alln) (alln) (by kernel_rfl)) Tryd.func18 (by kernel_rfl) LL Ndd ?_
  intro avs H r H' h
  unfold Nd1 at h
  split at h
  · refine Awp.cast ?_ ?_ ?_ (Nzs _ h) <;> kernel_rfl
  · simp [Ans.no,Ans.run] at h

def Ney : Ann := (.seq (.leaf [0,1]) (.seq (.leaf [0,1]) (.seq (.seq (.leaf [0,1,24]) (.cond (.seq (.leaf [4]) (.leaf [4])) (.leaf [0,1]))) (.seq (.leaf [0,1,5]) (.seq (.seq (.leaf [0,1,5,36]) (.cond (.seq (.leaf [4]) (.leaf [4])) (.leaf [0,1,5]))) (.seq (.draw [] [0,1,2,3,4,5,6,7,8,9,10,11,12,13,14,15,16,17,18,19,20,21,22,23,24,25,26,27,28,29,30,31,32,33,34,35,36,37,38,39,40,41,42,43,44,45] [] [1,6]) (.seq (.leaf [1,6]) (.seq (.leaf [4]) (.leaf [4])))))))))
noncomputable def Nak : Ctx := ⟨tlook tys,olook [],ioF,1,false,[]⟩
theorem Nr9 (a : Int) (b : List Int) (c : Int) : Link Nak LL (bodyOf Tryd.f40) Ney ⟨mkE 99 0 [(0,.ptr 0 0),(1,dI a)],[some (.box [dV b,dI c])]⟩ (N6n a b c) (fun (t : Int × Int) => (Exit.ret,⟨mkE 99 0 [(4,dI t.1)],[some (.box [dV b,dI t.2])]⟩)) := .of fun K h => by
  simp only [N6n,wpW] at h
  exact .of (by kernel_rfl) h
theorem No4 (a : Int) (b : List Int) (c : Int) {r : AV} {H' : Heap} (h : (Ans.mk _ (N0 a b c) (fun (t : Int × Int) => (dI t.1,[some (.box [dV b,dI t.2])])) [] none).run = some (r,H')) : Awp Nak LL (bodyOf Tryd.f40) Ney ⟨mkE 99 0 [(0,.ptr 0 0),(1,dI a)],[some (.box [dV b,dI c])]⟩ (Ret (tlook tys) Tryd.f40.results.toList r H') :=
  ret_of' (Nr9 a b c) (by unfold N0; kernel_rfl) (by
  intro t
  exact ret_mk [dI t.1] (by kernel_rfl) (by kernel_rfl) (by kernel_rfl) (by kernel_rfl)) h
def Nu : Fun := fun avs H =>
  match avs,H with
  | [.ptr 0 0,.dat (.int .i64) a],[some (.box [.dat (.list (.int .u8)) b,.dat (.int .i64) c])] => ⟨_,N0 a b c,fun (t : Int × Int) => (dI t.1,[some (.box [dV b,dI t.2])]),[],none⟩
  | _,_ => Ans.no
theorem N23 : Sound Tryd.prog 40 Nu := by
  refine fn_sound' (C := Nak) (c := bodyOf Tryd.f40) (cok_of tys_ok (alln) (alln) (by kernel_rfl)) Tryd.func40 (by kernel_rfl) LL Ney ?_
  intro avs H r H' h
  unfold Nu at h
  split at h
  · refine Awp.cast ?_ ?_ ?_ (No4 _ _ _ h) <;> kernel_rfl
  · simp [Ans.no,Ans.run] at h

def Np : Ann := (.seq (.leaf [0,1]) (.seq (.leaf [0,1,5]) (.seq (.leaf [0,1,5,6]) (.seq (.seq (.leaf [0,1,5,6,7]) (.block (.loop (.seq (.seq (.leaf [0,1,5,6,7,15]) (.cond (.leaf [0,1,5,6,7]) (.leaf [5]))) (.seq (.block (.seq (.leaf [0,1,5,6,7,8]) (.seq (.seq (.leaf [0,1,5,6,7,8,26]) (.cond (.leaf [0,1,5,6,7,8]) (.leaf [0,1,5,6,7,8]))) (.seq (.leaf [0,1,5,6,7,8,9]) (.seq (.leaf [0,1,5,6,7,8,9]) (.leaf [0,1,5,6,7])))))) (.leaf [0,1,5,6,7])))))) (.seq (.leaf [4]) (.leaf [4]))))))
noncomputable def N3p : Ctx := ⟨tlook tys,olook [(40,Nu)],ioF,1,false,[]⟩
theorem Nnw (a : Int) (b : List Int) (c : Int) : Link N3p LL (Code.seq (cq [0] (bodyOf Tryd.f58)) (Code.seq (cq [0,1] (bodyOf Tryd.f58)) (cq [0,1,1] (bodyOf Tryd.f58)))) (Ann.seq (aq [0] Np) (Ann.seq (aq [0,1] Np) (aq [0,1,1] Np))) ⟨mkE 45 0 [(0,.ptr 0 0),(1,dI a)],[some (.box [dV b,dI c])]⟩ (N6p b c) (fun (t : Int × Int) => (Exit.normal,⟨mkE 45 0 [(0,.ptr 0 0),(1,dI a),(5,.slc 1),(6,dI t.1)],[some (.box [dV b,dI t.2]),some (sI ([] : List Int))]⟩)) := .of fun K h => by
  simp only [N6p,wpW] at h
  exact .of (by kernel_rfl) h
theorem Nqu (a b : Int) (c : List Int) (d : Int) : Link N3p LL (cq [0,0,1,1,1] (bodyOf Tryd.f58)) (aq [0,0,1,1,1] Np) ⟨mkE 45 0 [(0,.ptr 0 0),(1,dI a),(5,.slc 1),(6,dI b)],[some (.box [dV c,dI d]),some (sI ([] : List Int))]⟩ (N8e) (fun (t : Unit) => (Exit.normal,⟨mkE 45 0 [(0,.ptr 0 0),(1,dI a),(5,.slc 1),(6,dI b),(7,dI 1)],[some (.box [dV c,dI d]),some (sI ([] : List Int))]⟩)) := .of fun K h => by
  simp only [N8e,wpW] at h
  exact .of (by kernel_rfl) h
theorem Noe (a b c : Int) (d : List Int) (g : Int) (i : List Int) : Link N3p LL (cq [0,0,1,0,1,1,1] (bodyOf Tryd.f58)) (aq [0,0,1,0,1,1,1] Np) ⟨mkE 45 0 [(0,.ptr 0 0),(1,dI a),(5,.slc 1),(6,dI b),(7,dI c)],[some (.box [dV d,dI g]),some (sI i)]⟩ (N5c a b c d g i) (Sum.elim (fun (t : Int × Int × (List Int)) => (Exit.normal,⟨mkE 45 0 [(0,.ptr 0 0),(1,dI a),(5,.slc 1),(6,dI b),(7,dI t.1)],[some (.box [dV d,dI t.2.1]),some (sI t.2.2)]⟩)) (fun (t : Int × (List Int)) => ((Exit.exit 0),⟨mkE 45 0 [(5,.slc 1)],[some (.box [dV d,dI t.1]),some (sI t.2)]⟩))) := .of fun K h => by
  simp only [N5c,wpW] at h
  exact .of (by kernel_rfl) h
theorem Nt5 (a : List Int) (b : Int) (c : List Int) : Link N3p LL (cq [1,1,1,1] (bodyOf Tryd.f58)) (aq [1,1,1,1] Np) ⟨mkE 45 0 [(5,.slc 1)],[some (.box [dV a,dI b]),some (sI c)]⟩ (Nbs b c) (fun (t : Int × (List Int)) => (Exit.ret,⟨mkE 45 0 [(4,.slc 1)],[some (.box [dV a,dI t.1]),some (sI t.2)]⟩)) := .of fun K h => by
  simp only [Nbs,wpW] at h
  exact .of (by kernel_rfl) h
theorem Nrz (b : Int) (d : List Int) (g : Int) {r : AV} {H' : Heap} (h : (Ans.mk _ (N2s b d g) (fun (t : Int × (List Int)) => (.slc 1,[some (.box [dV d,dI t.1]),some (sI t.2)])) [] none).run = some (r,H')) : Awp N3p LL (bodyOf Tryd.f58) Np ⟨mkE 45 0 [(0,.ptr 0 0),(1,dI b)],[some (.box [dV d,dI g])]⟩ (Ret (tlook tys) Tryd.f58.results.toList r H') :=
  ret_of' (Link.cast (by kernel_rfl) (by kernel_rfl) (link_group (c := (cq [0,1,1] (bodyOf Tryd.f58))) (a := (aq [0,1,1] Np)) [(cq [0] (bodyOf Tryd.f58)),(cq [0,1] (bodyOf Tryd.f58))] [(aq [0] Np),(aq [0,1] Np)] rfl (link_seq (Nnw b d g) (fun (t : Int × Int) => (link_seq (link_seq (Nqu b t.1 d t.2) (fun (t29 : Unit) => (link_block (fin2 := (fun (t29 : Int × (List Int)) => (Exit.normal,⟨mkE 45 0 [(5,.slc 1)],[some (.box [dV d,dI t29.1]),some (sI t29.2)]⟩))) (id := 0) (link_loop (mk := fun (s : Int × Int × (List Int)) => ⟨mkE 45 0 [(0,.ptr 0 0),(1,dI b),(5,.slc 1),(6,dI t.1),(7,dI s.1)],[some (.box [dV d,dI s.2.1]),some (sI s.2.2)]⟩) (fin := (fun (t29 : Int × (List Int)) => ((Exit.exit 0),⟨mkE 45 0 [(5,.slc 1)],[some (.box [dV d,dI t29.1]),some (sI t29.2)]⟩))) (by
  rintro t29 f K h
  · exact h) (fun s => link_map (Noe b t.1 s.1 d s.2.1 s.2.2) (Sum.elim (fun (t29 : Int × Int × (List Int)) => Sum.inl (t29.1,t29.2.1,t29.2.2)) (fun (t29 : Int × (List Int)) => Sum.inr t29)) (by
  rintro (t29 | t29)
  · kernel_rfl
  · kernel_rfl)) (1,t.2,([] : List Int))) (fun (t29 : Int × (List Int)) => (t29.1,t29.2)) (by
  rintro t29 K h
  · exact Eq.mp (by kernel_rfl) h)))) (fun (t29 : Int × (List Int)) => (Nt5 d t29.1 t29.2))))))) (by unfold N2s; kernel_rfl) (by
  intro t
  exact ret_mk [.slc 1] (by kernel_rfl) (by kernel_rfl) (by kernel_rfl) (by kernel_rfl)) h
def N8r : Fun := fun avs H =>
  match avs,H with
  | [.ptr 0 0,.dat (.int .i64) a],[some (.box [.dat (.list (.int .u8)) b,.dat (.int .i64) c])] => ⟨_,N2s a b c,fun (t : Int × (List Int)) => (.slc 1,[some (.box [dV b,dI t.1]),some (sI t.2)]),[],none⟩
  | _,_ => Ans.no
theorem Nj4 : Sound Tryd.prog 58 N8r := by
  refine fn_sound' (C := N3p) (c := bodyOf Tryd.f58) (cok_of tys_ok (allc N23 alln) (allc Tryd.call40 alln) (by kernel_rfl)) Tryd.func58 (by kernel_rfl) LL Np ?_
  intro avs H r H' h
  unfold N8r at h
  split at h
  · refine Awp.cast ?_ ?_ ?_ (Nrz _ _ _ h) <;> kernel_rfl
  · simp [Ans.no,Ans.run] at h

def Nc8 : Ann := (.seq (.leaf [0,1]) (.seq (.leaf [4]) (.leaf [4])))
noncomputable def Nbf : Ctx := ⟨tlook tys,olook [(40,Nu)],ioF,1,false,[]⟩
theorem Npd (a : Int) (b : List Int) (c : Int) : Link Nbf LL (bodyOf Tryd.f36) Nc8 ⟨mkE 15 0 [(0,.ptr 0 0),(1,dI a)],[some (.box [dV b,dI c])]⟩ (N6w a b c) (fun (t : Bool × Int) => (Exit.ret,⟨mkE 15 0 [(4,dB t.1)],[some (.box [dV b,dI t.2])]⟩)) := .of fun K h => by
  simp only [N6w,wpW] at h
  exact .of (by kernel_rfl) h
theorem Ny2 (a : Int) (b : List Int) (c : Int) {r : AV} {H' : Heap} (h : (Ans.mk _ (Nl a b c) (fun (t : Bool × Int) => (dB t.1,[some (.box [dV b,dI t.2])])) [] none).run = some (r,H')) : Awp Nbf LL (bodyOf Tryd.f36) Nc8 ⟨mkE 15 0 [(0,.ptr 0 0),(1,dI a)],[some (.box [dV b,dI c])]⟩ (Ret (tlook tys) Tryd.f36.results.toList r H') :=
  ret_of' (Npd a b c) (by unfold Nl; kernel_rfl) (by
  intro t
  exact ret_mk [dB t.1] (by kernel_rfl) (by kernel_rfl) (by kernel_rfl) (by kernel_rfl)) h
def N4x : Fun := fun avs H =>
  match avs,H with
  | [.ptr 0 0,.dat (.int .i64) a],[some (.box [.dat (.list (.int .u8)) b,.dat (.int .i64) c])] => ⟨_,Nl a b c,fun (t : Bool × Int) => (dB t.1,[some (.box [dV b,dI t.2])]),[],none⟩
  | _,_ => Ans.no
theorem Ne3 : Sound Tryd.prog 36 N4x := by
  refine fn_sound' (C := Nbf) (c := bodyOf Tryd.f36) (cok_of tys_ok (allc N23 alln) (allc Tryd.call40 alln) (by kernel_rfl)) Tryd.func36 (by kernel_rfl) LL Nc8 ?_
  intro avs H r H' h
  unfold N4x at h
  split at h
  · refine Awp.cast ?_ ?_ ?_ (Ny2 _ _ _ h) <;> kernel_rfl
  · simp [Ans.no,Ans.run] at h

def N7 : Ann := (.seq (.leaf [0,1]) (.seq (.leaf [0,1,5]) (.seq (.leaf [0,1,5,6]) (.seq (.leaf [0,1,5,6,7]) (.seq (.leaf [0,1,5,6,7,8]) (.seq (.seq (.leaf [0,1,5,6,7,8,9]) (.block (.loop (.seq (.seq (.leaf [0,1,5,6,7,8,9,23]) (.cond (.leaf [0,1,5,6,7,8,9]) (.leaf [0,1,5,7]))) (.seq (.block (.seq (.leaf [0,1,5,6,7,8,9,10]) (.seq (.seq (.leaf [0,1,5,6,7,8,9,10,35]) (.cond (.leaf [0,1,5,6,7,8,9,10]) (.leaf [0,1,5,6,7,8,9,10]))) (.draw [] [0,1,2,3,4,5,6,7,8,9,10,11] [] [0,1,5,6,7,8,9])))) (.leaf [0,1,5,6,7,8,9])))))) (.seq (.seq (.leaf [0,5,7,51]) (.cond (.seq (.leaf [0,5,7,53]) (.block (.seq (.leaf [0,5,7,53,63]) (.cond (.seq (.leaf [4]) (.leaf [4])) (.seq (.leaf [0,5,7,53,66]) (.cond (.seq (.leaf [4]) (.leaf [4])) (.seq (.leaf [0,5,7,69]) (.cond (.seq (.leaf [7]) (.seq (.leaf [4]) (.leaf [4]))) (.leaf [7]))))))))) (.leaf [7]))) (.seq (.leaf [4]) (.leaf [4])))))))))
noncomputable def N4s : Ctx := ⟨tlook tys,olook [(40,Nu),(58,N8r),(36,N4x)],ioF,1,false,[]⟩
theorem Nye (a : Int) (b : List Int) (c : Int) : Link N4s LL (Code.seq (cq [0] (bodyOf Tryd.f56)) (Code.seq (cq [0,1] (bodyOf Tryd.f56)) (Code.seq (cq [0,1,1] (bodyOf Tryd.f56)) (Code.seq (cq [0,1,1,1] (bodyOf Tryd.f56)) (cq [0,1,1,1,1] (bodyOf Tryd.f56)))))) (Ann.seq (aq [0] N7) (Ann.seq (aq [0,1] N7) (Ann.seq (aq [0,1,1] N7) (Ann.seq (aq [0,1,1,1] N7) (aq [0,1,1,1,1] N7))))) ⟨mkE 80 0 [(0,.ptr 0 0),(1,dI a)],[some (.box [dV b,dI c])]⟩ (N76 b c) (fun (t : Int × Int × Int × (List Int) × (List Int)) => (Exit.normal,⟨mkE 80 0 [(0,.ptr 0 0),(1,dI a),(5,dI t.1),(6,.slc 1),(7,.slc 2),(8,dI t.2.1)],[some (.box [dV b,dI t.2.2.1]),some (sI t.2.2.2.1),some (sI t.2.2.2.2)]⟩)) := .of fun K h => by
  simp only [N76,wpW] at h
  exact .of (by kernel_rfl) h
theorem Nvg (a b c : Int) (d : List Int) (g : Int) (i j : List Int) : Link N4s LL (cq [0,0,1,1,1,1,1] (bodyOf Tryd.f56)) (aq [0,0,1,1,1,1,1] N7) ⟨mkE 80 0 [(0,.ptr 0 0),(1,dI a),(5,dI b),(6,.slc 1),(7,.slc 2),(8,dI c)],[some (.box [dV d,dI g]),some (sI i),some (sI j)]⟩ (N71) (fun (t : Unit) => (Exit.normal,⟨mkE 80 0 [(0,.ptr 0 0),(1,dI a),(5,dI b),(6,.slc 1),(7,.slc 2),(8,dI c),(9,dI 1)],[some (.box [dV d,dI g]),some (sI i),some (sI j)]⟩)) := .of fun K h => by
  simp only [N71,wpW] at h
  exact .of (by kernel_rfl) h
theorem Nsm (a b c d : Int) (g : List Int) (i : Int) (j k : List Int) : Link N4s LL (cq [0,0,1,0,1,1,1,1,1] (bodyOf Tryd.f56)) (aq [0,0,1,0,1,1,1,1,1] N7) ⟨mkE 80 0 [(0,.ptr 0 0),(1,dI a),(5,dI b),(6,.slc 1),(7,.slc 2),(8,dI c),(9,dI d)],[some (.box [dV g,dI i]),some (sI j),some (sI k)]⟩ (N60 b c d g i j k) (Sum.elim (fun (t : Int × Int × (List Int)) => (Exit.normal,⟨mkE 80 0 [(0,.ptr 0 0),(1,dI a),(5,dI b),(6,.slc 1),(7,.slc 2),(8,dI c),(9,dI t.1)],[some (.box [dV g,dI t.2.1]),some (sI j),some (sI t.2.2)]⟩)) (fun (t : Int × (List Int)) => ((Exit.exit 0),⟨mkE 80 0 [(0,.ptr 0 0),(1,dI a),(5,dI b),(7,.slc 1)],[some (.box [dV g,dI t.1]),some (sI t.2)]⟩))) := .of fun K h => by
  simp only [N60,wpW] at h
  exact .of (by kernel_rfl) h
theorem Nxd (a b : Int) (c : List Int) (d : Int) (g : List Int) : Link N4s LL (cq [1,1,1,1,1,1] (bodyOf Tryd.f56)) (aq [1,1,1,1,1,1] N7) ⟨mkE 80 0 [(0,.ptr 0 0),(1,dI a),(5,dI b),(7,.slc 1)],[some (.box [dV c,dI d]),some (sI g)]⟩ (N8i a b c d g) (fun (t : Int × (List Int)) => (Exit.ret,⟨mkE 80 0 [(4,.slc 1)],[some (.box [dV c,dI t.1]),some (sI t.2)]⟩)) := .of fun K h => by
  simp only [N8i,wpW] at h
  exact .of (by kernel_rfl) h
theorem Nyc (b : Int) (d : List Int) (g : Int) {r : AV} {H' : Heap} (h : (Ans.mk _ (N38 b d g) (fun (t : Int × (List Int)) => (.slc 1,[some (.box [dV d,dI t.1]),some (sI t.2)])) [] none).run = some (r,H')) : Awp N4s LL (bodyOf Tryd.f56) N7 ⟨mkE 80 0 [(0,.ptr 0 0),(1,dI b)],[some (.box [dV d,dI g])]⟩ (Ret (tlook tys) Tryd.f56.results.toList r H') :=
  ret_of' (Link.cast (by kernel_rfl) (by kernel_rfl) (link_group (c := (cq [0,1,1,1,1] (bodyOf Tryd.f56))) (a := (aq [0,1,1,1,1] N7)) [(cq [0] (bodyOf Tryd.f56)),(cq [0,1] (bodyOf Tryd.f56)),(cq [0,1,1] (bodyOf Tryd.f56)),(cq [0,1,1,1] (bodyOf Tryd.f56))] [(aq [0] N7),(aq [0,1] N7),(aq [0,1,1] N7),(aq [0,1,1,1] N7)] rfl (link_seq (Nye b d g) (fun (t : Int × Int × Int × (List Int) × (List Int)) => (link_seq (link_seq (Nvg b t.1 t.2.1 d t.2.2.1 t.2.2.2.1 t.2.2.2.2) (fun (t30 : Unit) => (link_block (fin2 := (fun (t30 : Int × (List Int)) => (Exit.normal,⟨mkE 80 0 [(0,.ptr 0 0),(1,dI b),(5,dI t.1),(7,.slc 1)],[some (.box [dV d,dI t30.1]),some (sI t30.2)]⟩))) (id := 0) (link_loop (mk := fun (s : Int × Int × (List Int)) => ⟨mkE 80 0 [(0,.ptr 0 0),(1,dI b),(5,dI t.1),(6,.slc 1),(7,.slc 2),(8,dI t.2.1),(9,dI s.1)],[some (.box [dV d,dI s.2.1]),some (sI t.2.2.2.1),some (sI s.2.2)]⟩) (fin := (fun (t30 : Int × (List Int)) => ((Exit.exit 0),⟨mkE 80 0 [(0,.ptr 0 0),(1,dI b),(5,dI t.1),(7,.slc 1)],[some (.box [dV d,dI t30.1]),some (sI t30.2)]⟩))) (by
  rintro t30 f K h
  · exact h) (fun s => link_map (Nsm b t.1 t.2.1 s.1 d s.2.1 t.2.2.2.1 s.2.2) (Sum.elim (fun (t30 : Int × Int × (List Int)) => Sum.inl (t30.1,t30.2.1,t30.2.2)) (fun (t30 : Int × (List Int)) => Sum.inr t30)) (by
  rintro (t30 | t30)
  · kernel_rfl
  · kernel_rfl)) (1,t.2.2.1,t.2.2.2.2)) (fun (t30 : Int × (List Int)) => (t30.1,t30.2)) (by
  rintro t30 K h
  · exact Eq.mp (by kernel_rfl) h)))) (fun (t30 : Int × (List Int)) => (Nxd b t.1 d t30.1 t30.2))))))) (by unfold N38; kernel_rfl) (by
  intro t
  exact ret_mk [.slc 1] (by kernel_rfl) (by kernel_rfl) (by kernel_rfl) (by kernel_rfl)) h
def N9j : Fun := fun avs H =>
  match avs,H with
  | [.ptr 0 0,.dat (.int .i64) a],[some (.box [.dat (.list (.int .u8)) b,.dat (.int .i64) c])] => ⟨_,N38 a b c,fun (t : Int × (List Int)) => (.slc 1,[some (.box [dV b,dI t.1]),some (sI t.2)]),[],none⟩
  | _,_ => Ans.no
theorem Nju : Sound Tryd.prog 56 N9j := by
  refine fn_sound' (C := N4s) (c := bodyOf Tryd.f56) (cok_of tys_ok (allc N23 (allc Nj4 (allc Ne3 alln))) (allc Tryd.call40 (allc Tryd.call58 (allc Tryd.call36 alln))) (by kernel_rfl)) Tryd.func56 (by kernel_rfl) LL N7 ?_
  intro avs H r H' h
  unfold N9j at h
  split at h
  · refine Awp.cast ?_ ?_ ?_ (Nyc _ _ _ h) <;> kernel_rfl
  · simp [Ans.no,Ans.run] at h

def Ndx : Ann := (.seq (.leaf [0,1,2]) (.seq (.leaf [6]) (.leaf [6])))
noncomputable def Nfa : Ctx := ⟨tlook tys,olook [],ioF,0,false,[]⟩
theorem Nwh (a b c : Int) : Link Nfa LL (bodyOf Tryd.f46) Ndx ⟨mkE 15 0 [(0,dI a),(1,dI b),(2,dI c)],[]⟩ (N9o a b c) (fun (t : Bool) => (Exit.ret,⟨mkE 15 0 [(6,dB t)],[]⟩)) := .of fun K h => by
  simp only [N9o,wpW] at h
  exact .of (by kernel_rfl) h
theorem Nvy (a b c : Int) {r : AV} {H' : Heap} (h : (Ans.mk _ (Nn a b c) (fun (t : Bool) => (dB t,[])) [] none).run = some (r,H')) : Awp Nfa LL (bodyOf Tryd.f46) Ndx ⟨mkE 15 0 [(0,dI a),(1,dI b),(2,dI c)],[]⟩ (Ret (tlook tys) Tryd.f46.results.toList r H') :=
  ret_of' (Nwh a b c) (by unfold Nn; kernel_rfl) (by
  intro t
  exact ret_mk [dB t] (by kernel_rfl) (by kernel_rfl) (by kernel_rfl) (by kernel_rfl)) h
def N61 : Fun := fun avs H =>
  match avs,H with
  | [.dat (.int .i64) a,.dat (.int .i64) b,.dat (.int .i64) c],[] => ⟨_,Nn a b c,fun (t : Bool) => (dB t,[]),[],none⟩
  | _,_ => Ans.no
theorem Ncl : Sound Tryd.prog 46 N61 := by
  refine fn_sound' (C := Nfa) (c := bodyOf Tryd.f46) (cok_of tys_ok (alln) (alln) (by kernel_rfl)) Tryd.func46 (by kernel_rfl) LL Ndx ?_
  intro avs H r H' h
  unfold N61 at h
  split at h
  · refine Awp.cast ?_ ?_ ?_ (Nvy _ _ _ h) <;> kernel_rfl
  · simp [Ans.no,Ans.run] at h

def N1 : Ann := (.seq (.leaf [0]) (.seq (.leaf [0,3]) (.seq (.seq (.leaf [0,3,12]) (.cond (.seq (.leaf [2]) (.leaf [2])) (.leaf [0,3]))) (.seq (.leaf [0,3,4]) (.seq (.seq (.leaf [0,3,4,5]) (.block (.loop (.seq (.seq (.leaf [0,3,4,5,15]) (.cond (.leaf [0,3,4,5]) (.leaf [4]))) (.seq (.block (.seq (.seq (.leaf [0,3,4,5,33]) (.cond (.seq (.leaf [2]) (.leaf [2])) (.leaf [0,3,4,5]))) (.seq (.seq (.leaf [0,3,4,5,38]) (.cond (.leaf [0,3,4,5]) (.leaf [0,3,4,5]))) (.seq (.leaf [0,3,4,5,6]) (.seq (.seq (.leaf [0,3,4,5,6,7]) (.block (.loop (.seq (.seq (.leaf [0,3,4,5,6,7,49]) (.cond (.leaf [0,3,4,5,6,7]) (.leaf [0,3,4,5,6]))) (.seq (.block (.seq (.leaf [0,3,4,5,6,7]) (.seq (.leaf [0,3,4,5,6,7,60]) (.cond (.seq (.leaf [2]) (.leaf [2])) (.leaf [0,3,4,5,6,7]))))) (.leaf [0,3,4,5,6,7])))))) (.seq (.leaf [0,3,4,5,62]) (.cond (.seq (.leaf [2]) (.leaf [2])) (.leaf [0,3,4,5])))))))) (.leaf [0,3,4,5])))))) (.seq (.leaf [2]) (.leaf [2])))))))
noncomputable def Nk : Ctx := ⟨tlook tys,olook [(46,N61)],ioF,0,false,[]⟩
theorem Nn3 (a : List Int) : Link Nk LL (Code.seq (cq [0] (bodyOf Tryd.f27)) (Code.seq (cq [0,1] (bodyOf Tryd.f27)) (Code.seq (cq [0,1,1] (bodyOf Tryd.f27)) (cq [0,1,1,1] (bodyOf Tryd.f27))))) (Ann.seq (aq [0] N1) (Ann.seq (aq [0,1] N1) (Ann.seq (aq [0,1,1] N1) (aq [0,1,1,1] N1)))) ⟨mkE 65 0 [(0,dL a)],[]⟩ (N96 a) (Sum.elim (fun (t : Int) => (Exit.normal,⟨mkE 65 0 [(0,dL a),(3,dI t),(4,dI 0)],[]⟩)) (fun (t : Bool) => (Exit.ret,⟨mkE 65 0 [(2,dB t)],[]⟩))) := .of fun K h => by
  simp only [N96,wpW] at h
  exact .of (by kernel_rfl) h
theorem Nr4 (a : List Int) (b : Int) : Link Nk LL (cq [0,0,1,1,1,1] (bodyOf Tryd.f27)) (aq [0,0,1,1,1,1] N1) ⟨mkE 65 0 [(0,dL a),(3,dI b),(4,dI 0)],[]⟩ (N9d) (fun (t : Unit) => (Exit.normal,⟨mkE 65 0 [(0,dL a),(3,dI b),(4,dI 0),(5,dI 0)],[]⟩)) := .of fun K h => by
  simp only [N9d,wpW] at h
  exact .of (by kernel_rfl) h
theorem Nok (a : List Int) (b c d : Int) : Link Nk LL (cq [0,0,0,1,0,1,1,1,1] (bodyOf Tryd.f27)) (aq [0,0,0,1,0,1,1,1,1] N1) ⟨mkE 65 0 [(0,dL a),(3,dI b),(4,dI c),(5,dI d)],[]⟩ (N56 b c d) (Sum.elim (fun (t : Unit) => (Exit.normal,⟨mkE 65 0 [(0,dL a),(3,dI b),(4,dI c),(5,dI d)],[]⟩)) (fun (t : Int) => ((Exit.exit 0),⟨mkE 65 0 [(4,dI t)],[]⟩))) := .of fun K h => by
  simp only [N56,wpW] at h
  exact .of (by kernel_rfl) h
theorem Nx5 (a : List Int) (b c d : Int) : Link Nk LL (Code.seq (cq [0,0,0,1,0,0,1,0,1,1,1,1] (bodyOf Tryd.f27)) (Code.seq (cq [0,1,0,0,1,0,0,1,0,1,1,1,1] (bodyOf Tryd.f27)) (cq [0,1,1,0,0,1,0,0,1,0,1,1,1,1] (bodyOf Tryd.f27)))) (Ann.seq (aq [0,0,0,1,0,0,1,0,1,1,1,1] N1) (Ann.seq (aq [0,1,0,0,1,0,0,1,0,1,1,1,1] N1) (aq [0,1,1,0,0,1,0,0,1,0,1,1,1,1] N1))) ⟨mkE 65 0 [(0,dL a),(3,dI b),(4,dI c),(5,dI d)],[]⟩ (N83 a b c d) (Sum.elim (fun (t : Int × Int) => (Exit.normal,⟨mkE 65 0 [(0,dL a),(3,dI b),(4,dI t.1),(5,dI d),(6,dI t.2)],[]⟩)) (fun (t : Bool) => (Exit.ret,⟨mkE 65 0 [(2,dB t)],[]⟩))) := .of fun K h => by
  simp only [N83,wpW] at h
  exact .of (by kernel_rfl) h
theorem N105 (a : List Int) (b c d g : Int) : Link Nk LL (cq [0,0,1,1,1,0,0,1,0,0,1,0,1,1,1,1] (bodyOf Tryd.f27)) (aq [0,0,1,1,1,0,0,1,0,0,1,0,1,1,1,1] N1) ⟨mkE 65 0 [(0,dL a),(3,dI b),(4,dI c),(5,dI d),(6,dI g)],[]⟩ (Na6) (fun (t : Unit) => (Exit.normal,⟨mkE 65 0 [(0,dL a),(3,dI b),(4,dI c),(5,dI d),(6,dI g),(7,dI 0)],[]⟩)) := .of fun K h => by
  simp only [Na6,wpW] at h
  exact .of (by kernel_rfl) h
theorem Nlv (a : List Int) (b c d g i : Int) : Link Nk LL (cq [0,0,1,0,1,1,1,0,0,1,0,0,1,0,1,1,1,1] (bodyOf Tryd.f27)) (aq [0,0,1,0,1,1,1,0,0,1,0,0,1,0,1,1,1,1] N1) ⟨mkE 65 0 [(0,dL a),(3,dI b),(4,dI c),(5,dI d),(6,dI g),(7,dI i)],[]⟩ (N5p a b g i) (Sum.elim (fun (t : Int × Int) => (Exit.normal,⟨mkE 65 0 [(0,dL a),(3,dI b),(4,dI c),(5,dI d),(6,dI t.1),(7,dI t.2)],[]⟩)) (Sum.elim (fun (t : Bool) => (Exit.ret,⟨mkE 65 0 [(2,dB t)],[]⟩)) (fun (t : Int) => ((Exit.exit 2),⟨mkE 65 0 [(0,dL a),(3,dI b),(4,dI c),(5,dI d),(6,dI t)],[]⟩)))) := .of fun K h => by
  simp only [N5p,wpW] at h
  exact .of (by kernel_rfl) h
theorem Nz0 (a : List Int) (b c d g : Int) : Link Nk LL (cq [1,1,1,1,0,0,1,0,0,1,0,1,1,1,1] (bodyOf Tryd.f27)) (aq [1,1,1,1,0,0,1,0,0,1,0,1,1,1,1] N1) ⟨mkE 65 0 [(0,dL a),(3,dI b),(4,dI c),(5,dI d),(6,dI g)],[]⟩ (N8m g) (Sum.elim (fun (t : Unit) => (Exit.normal,⟨mkE 65 0 [(0,dL a),(3,dI b),(4,dI c),(5,dI d)],[]⟩)) (fun (t : Bool) => (Exit.ret,⟨mkE 65 0 [(2,dB t)],[]⟩))) := .of fun K h => by
  simp only [N8m,wpW] at h
  exact .of (by kernel_rfl) h
theorem Nz2 (a : List Int) (b c d : Int) : Link Nk LL (cq [1,1,0,0,1,0,1,1,1,1] (bodyOf Tryd.f27)) (aq [1,1,0,0,1,0,1,1,1,1] N1) ⟨mkE 65 0 [(0,dL a),(3,dI b),(4,dI c),(5,dI d)],[]⟩ (N9y d) (fun (t : Int) => (Exit.normal,⟨mkE 65 0 [(0,dL a),(3,dI b),(4,dI c),(5,dI t)],[]⟩)) := .of fun K h => by
  simp only [N9y,wpW] at h
  exact .of (by kernel_rfl) h
theorem Nw5 (a : Int) : Link Nk LL (cq [1,1,1,1,1] (bodyOf Tryd.f27)) (aq [1,1,1,1,1] N1) ⟨mkE 65 0 [(4,dI a)],[]⟩ (N6b a) (fun (t : Bool) => (Exit.ret,⟨mkE 65 0 [(2,dB t)],[]⟩)) := .of fun K h => by
  simp only [N6b,wpW] at h
  exact .of (by kernel_rfl) h
theorem Ns4 (b : List Int) {r : AV} {H' : Heap} (h : (Ans.mk _ (N8 b) (fun (t : Bool) => (dB t,[])) [] none).run = some (r,H')) : Awp Nk LL (bodyOf Tryd.f27) N1 ⟨mkE 65 0 [(0,dL b)],[]⟩ (Ret (tlook tys) Tryd.f27.results.toList r H') :=
  ret_of' (Link.cast (by kernel_rfl) (by kernel_rfl) (link_group (c := (cq [0,1,1,1] (bodyOf Tryd.f27))) (a := (aq [0,1,1,1] N1)) [(cq [0] (bodyOf Tryd.f27)),(cq [0,1] (bodyOf Tryd.f27)),(cq [0,1,1] (bodyOf Tryd.f27))] [(aq [0] N1),(aq [0,1] N1),(aq [0,1,1] N1)] rfl (link_seq2 (Nn3 b) (fun (t : Int) => (link_seq2 (link_seq (Nr4 b t) (fun (t32 : Unit) => (link_block (fin2 := (Sum.elim (fun (t32 : Int) => (Exit.normal,⟨mkE 65 0 [(4,dI t32)],[]⟩)) (fun (t32 : Bool) => (Exit.ret,⟨mkE 65 0 [(2,dB t32)],[]⟩)))) (id := 0) (link_loop (mk := fun (s : Int × Int) => ⟨mkE 65 0 [(0,dL b),(3,dI t),(4,dI s.1),(5,dI s.2)],[]⟩) (fin := (Sum.elim (fun (t32 : Bool) => (Exit.ret,⟨mkE 65 0 [(2,dB t32)],[]⟩)) (fun (t32 : Int) => ((Exit.exit 0),⟨mkE 65 0 [(4,dI t32)],[]⟩)))) (by
  rintro (t32 | t32) f K h
  · exact h
  · exact h) (fun s => link_map (link_seq2 (Nok b t s.1 s.2) (fun (t48 : Unit) => (link_map (fin2 := (Sum.elim (fun (t48 : Int × Int) => (Exit.normal,⟨mkE 65 0 [(0,dL b),(3,dI t),(4,dI t48.1),(5,dI t48.2)],[]⟩)) (Sum.elim (fun (t48 : Bool) => (Exit.ret,⟨mkE 65 0 [(2,dB t48)],[]⟩)) (fun (t48 : Int) => ((Exit.exit 0),⟨mkE 65 0 [(4,dI t48)],[]⟩))))) (link_seq2 (link_block (fin2 := (Sum.elim (fun (t48 : Int) => (Exit.normal,⟨mkE 65 0 [(0,dL b),(3,dI t),(4,dI t48),(5,dI s.2)],[]⟩)) (fun (t48 : Bool) => (Exit.ret,⟨mkE 65 0 [(2,dB t48)],[]⟩)))) (id := 1) (link_group (c := (cq [0,1,1,0,0,1,0,0,1,0,1,1,1,1] (bodyOf Tryd.f27))) (a := (aq [0,1,1,0,0,1,0,0,1,0,1,1,1,1] N1)) [(cq [0,0,0,1,0,0,1,0,1,1,1,1] (bodyOf Tryd.f27)),(cq [0,1,0,0,1,0,0,1,0,1,1,1,1] (bodyOf Tryd.f27))] [(aq [0,0,0,1,0,0,1,0,1,1,1,1] N1),(aq [0,1,0,0,1,0,0,1,0,1,1,1,1] N1)] rfl (link_seq2 (Nx5 b t s.1 s.2) (fun (t48 : Int × Int) => (link_map (fin2 := (Sum.elim (fun (t48 : Int) => (Exit.normal,⟨mkE 65 0 [(0,dL b),(3,dI t),(4,dI t48),(5,dI s.2)],[]⟩)) (fun (t48 : Bool) => (Exit.ret,⟨mkE 65 0 [(2,dB t48)],[]⟩)))) (link_seq2 (link_seq (N105 b t t48.1 s.2 t48.2) (fun (t31 : Unit) => (link_block (fin2 := (Sum.elim (fun (t31 : Int) => (Exit.normal,⟨mkE 65 0 [(0,dL b),(3,dI t),(4,dI t48.1),(5,dI s.2),(6,dI t31)],[]⟩)) (fun (t31 : Bool) => (Exit.ret,⟨mkE 65 0 [(2,dB t31)],[]⟩)))) (id := 2) (link_loop (mk := fun (s47 : Int × Int) => ⟨mkE 65 0 [(0,dL b),(3,dI t),(4,dI t48.1),(5,dI s.2),(6,dI s47.1),(7,dI s47.2)],[]⟩) (fin := (Sum.elim (fun (t31 : Bool) => (Exit.ret,⟨mkE 65 0 [(2,dB t31)],[]⟩)) (fun (t31 : Int) => ((Exit.exit 2),⟨mkE 65 0 [(0,dL b),(3,dI t),(4,dI t48.1),(5,dI s.2),(6,dI t31)],[]⟩)))) (by
  rintro (t31 | t31) f K h
  · exact h
  · exact h) (fun s47 => link_map (Nlv b t t48.1 s.2 s47.1 s47.2) (Sum.elim (fun (t31 : Int × Int) => Sum.inl (t31.1,t31.2)) (Sum.elim (fun (t31 : Bool) => Sum.inr (Sum.inl t31)) (fun (t31 : Int) => Sum.inr (Sum.inr t31)))) (by
  rintro (t31 | t31 | t31)
  · kernel_rfl
  · kernel_rfl
  · kernel_rfl)) (t48.2,0)) (Sum.elim (fun (t31 : Bool) => (Sum.inr t31)) (fun (t31 : Int) => (Sum.inl t31))) (by
  rintro (t31 | t31) K h
  · exact Eq.mp (by kernel_rfl) h
  · exact Eq.mp (by kernel_rfl) h)))) (fun (t31 : Int) => (Nz0 b t t48.1 s.2 t31)) (fun (t31 : Bool) => (Sum.inr t31)) (by
  rintro t31
  · kernel_rfl) (by
  rintro t31 f K h
  · exact h)) (Sum.elim (fun (u : Unit) => (Sum.inl t48.1)) (fun (u : Bool) => (Sum.inr u))) (by
  rintro (t48 | t48)
  · kernel_rfl
  · kernel_rfl))) (fun (t48 : Bool) => (Sum.inr t48)) (by
  rintro t48
  · kernel_rfl) (by
  rintro t48 f K h
  · exact h))) (Sum.elim (fun (t48 : Int) => (Sum.inl t48)) (fun (t48 : Bool) => (Sum.inr t48))) (by
  rintro (t48 | t48) K h
  · exact Eq.mp (by kernel_rfl) h
  · exact Eq.mp (by kernel_rfl) h)) (fun (t48 : Int) => (link_map (fin2 := (Sum.elim (fun (t48 : Int × Int) => (Exit.normal,⟨mkE 65 0 [(0,dL b),(3,dI t),(4,dI t48.1),(5,dI t48.2)],[]⟩)) (fun (t48 : Bool) => (Exit.ret,⟨mkE 65 0 [(2,dB t48)],[]⟩)))) (Nz2 b t t48 s.2) (fun (u : Int) => (Sum.inl (t48,u))) (by
  rintro t48
  · kernel_rfl))) (fun (t48 : Bool) => (Sum.inr t48)) (by
  rintro t48
  · kernel_rfl) (by
  rintro t48 f K h
  · exact h)) (Sum.elim (fun (t48 : Int × Int) => (Sum.inl (t48.1,t48.2))) (fun (t48 : Bool) => (Sum.inr (Sum.inl t48)))) (by
  rintro (t48 | t48)
  · kernel_rfl
  · kernel_rfl))) (fun (t48 : Int) => (Sum.inr (Sum.inr t48))) (by
  rintro t48
  · kernel_rfl) (by
  rintro t48 f K h
  · exact h)) (Sum.elim (fun (t32 : Int × Int) => Sum.inl (t32.1,t32.2)) (Sum.elim (fun (t32 : Bool) => Sum.inr (Sum.inl t32)) (fun (t32 : Int) => Sum.inr (Sum.inr t32)))) (by
  rintro (t32 | t32 | t32)
  · kernel_rfl
  · kernel_rfl
  · kernel_rfl)) (0,0)) (Sum.elim (fun (t32 : Bool) => (Sum.inr t32)) (fun (t32 : Int) => (Sum.inl t32))) (by
  rintro (t32 | t32) K h
  · exact Eq.mp (by kernel_rfl) h
  · exact Eq.mp (by kernel_rfl) h)))) (fun (t32 : Int) => (Nw5 t32)) (fun (t32 : Bool) => t32) (by
  rintro t32
  · kernel_rfl) (by
  rintro t32 f K h
  · exact h))) (fun (t : Bool) => t) (by
  rintro t
  · kernel_rfl) (by
  rintro t f K h
  · exact h)))) (by unfold N8; kernel_rfl) (by
  intro t
  exact ret_mk [dB t] (by kernel_rfl) (by kernel_rfl) (by kernel_rfl) (by kernel_rfl)) h
def Nw : Fun := fun avs H =>
  match avs,H with
  | [.dat (.list (.int .i64)) a],[] => ⟨_,N8 a,fun (t : Bool) => (dB t,[]),[],none⟩
  | _,_ => Ans.no
theorem N22 : Sound Tryd.prog 27 Nw := by
  refine fn_sound' (C := Nk) (c := bodyOf Tryd.f27) (cok_of tys_ok (allc Ncl alln) (allc Tryd.call46 alln) (by kernel_rfl)) Tryd.func27 (by kernel_rfl) LL N1 ?_
  intro avs H r H' h
  unfold Nw at h
  split at h
  · refine Awp.cast ?_ ?_ ?_ (Ns4 _ h) <;> kernel_rfl
  · simp [Ans.no,Ans.run] at h

def Nf : Ann := (.seq (.leaf [0,1]) (.seq (.seq (.leaf [0,1,5]) (.block (.loop (.seq (.seq (.leaf [0,1,5,10]) (.cond (.leaf [0,1,5]) (.leaf [0,1]))) (.seq (.block (.seq (.seq (.leaf [0,1,5,19]) (.cond (.seq (.leaf [4]) (.leaf [4])) (.leaf [0,1,5]))) (.seq (.leaf [0,1,5,6]) (.block (.loop (.seq (.seq (.leaf [0,1,5,6,22]) (.cond (.leaf [0,1,5,6]) (.leaf [0,1,5]))) (.seq (.block (.seq (.draw [] [0,1,2,3,4,5,6,7,8] [] [0,1,5,6,33]) (.cond (.seq (.leaf [4]) (.leaf [4])) (.leaf [0,1,5,6])))) (.leaf [0,1,5,6])))))))) (.leaf [0,1,5])))))) (.seq (.leaf [4]) (.leaf [4]))))
noncomputable def N11 : Ctx := ⟨tlook tys,olook [(46,N61)],ioF,0,false,[]⟩
theorem Nl7 (a : List Int) (b : Int) : Link N11 LL (cq [0] (bodyOf Tryd.f68)) (aq [0] Nf) ⟨mkE 42 0 [(0,dL a),(1,dI b)],[]⟩ (N6s) (fun (t : Unit) => (Exit.normal,⟨mkE 42 0 [(0,dL a),(1,dI b)],[]⟩)) := .of fun K h => by
  simp only [N6s,wpW] at h
  exact .of (by kernel_rfl) h
theorem Nza (a : List Int) (b : Int) : Link N11 LL (cq [0,0,1] (bodyOf Tryd.f68)) (aq [0,0,1] Nf) ⟨mkE 42 0 [(0,dL a),(1,dI b)],[]⟩ (N87) (fun (t : Unit) => (Exit.normal,⟨mkE 42 0 [(0,dL a),(1,dI b),(5,dI 0)],[]⟩)) := .of fun K h => by
  simp only [N87,wpW] at h
  exact .of (by kernel_rfl) h
theorem Nym (a : List Int) (b c : Int) : Link N11 LL (cq [0,0,0,1,0,1] (bodyOf Tryd.f68)) (aq [0,0,0,1,0,1] Nf) ⟨mkE 42 0 [(0,dL a),(1,dI b),(5,dI c)],[]⟩ (N79 a c) (Sum.elim (fun (t : Unit) => (Exit.normal,⟨mkE 42 0 [(0,dL a),(1,dI b),(5,dI c)],[]⟩)) (fun (t : Unit) => ((Exit.exit 0),⟨mkE 42 0 [(0,dL a),(1,dI b)],[]⟩))) := .of fun K h => by
  simp only [N79,wpW] at h
  exact .of (by kernel_rfl) h
theorem Nm1 (a : List Int) (b c : Int) : Link N11 LL (Code.seq (cq [0,0,0,1,0,0,1,0,1] (bodyOf Tryd.f68)) (cq [0,1,0,0,1,0,0,1,0,1] (bodyOf Tryd.f68))) (Ann.seq (aq [0,0,0,1,0,0,1,0,1] Nf) (aq [0,1,0,0,1,0,0,1,0,1] Nf)) ⟨mkE 42 0 [(0,dL a),(1,dI b),(5,dI c)],[]⟩ (Na2 a b c) (Sum.elim (fun (t : Unit) => (Exit.normal,⟨mkE 42 0 [(0,dL a),(1,dI b),(5,dI c),(6,dI 0)],[]⟩)) (fun (t : Bool) => (Exit.ret,⟨mkE 42 0 [(4,dB t)],[]⟩))) := .of fun K h => by
  simp only [Na2,wpW] at h
  exact .of (by kernel_rfl) h
theorem Nre (a : List Int) (b c d : Int) : Link N11 LL (cq [0,0,1,1,0,0,1,0,0,1,0,1] (bodyOf Tryd.f68)) (aq [0,0,1,1,0,0,1,0,0,1,0,1] Nf) ⟨mkE 42 0 [(0,dL a),(1,dI b),(5,dI c),(6,dI d)],[]⟩ (N5r a c d) (Sum.elim (fun (t : Int) => (Exit.normal,⟨mkE 42 0 [(0,dL a),(1,dI b),(5,dI c),(6,dI t)],[]⟩)) (Sum.elim (fun (t : Bool) => (Exit.ret,⟨mkE 42 0 [(4,dB t)],[]⟩)) (fun (t : Unit) => ((Exit.exit 2),⟨mkE 42 0 [(0,dL a),(1,dI b),(5,dI c)],[]⟩)))) := .of fun K h => by
  simp only [N5r,wpW] at h
  exact .of (by kernel_rfl) h
theorem Nmw (a : List Int) (b c : Int) : Link N11 LL (cq [1,1,0,0,1,0,1] (bodyOf Tryd.f68)) (aq [1,1,0,0,1,0,1] Nf) ⟨mkE 42 0 [(0,dL a),(1,dI b),(5,dI c)],[]⟩ (N7w c) (fun (t : Int) => (Exit.normal,⟨mkE 42 0 [(0,dL a),(1,dI b),(5,dI t)],[]⟩)) := .of fun K h => by
  simp only [N7w,wpW] at h
  exact .of (by kernel_rfl) h
theorem Noz (a : List Int) (b : Int) : Link N11 LL (cq [1,1] (bodyOf Tryd.f68)) (aq [1,1] Nf) ⟨mkE 42 0 [(0,dL a),(1,dI b)],[]⟩ (N9m a b) (fun (t : Bool) => (Exit.ret,⟨mkE 42 0 [(4,dB t)],[]⟩)) := .of fun K h => by
  simp only [N9m,wpW] at h
  exact .of (by kernel_rfl) h
theorem Nuf (b : List Int) (d : Int) {r : AV} {H' : Heap} (h : (Ans.mk _ (N3k b d) (fun (t : Bool) => (dB t,[])) [] none).run = some (r,H')) : Awp N11 LL (bodyOf Tryd.f68) Nf ⟨mkE 42 0 [(0,dL b),(1,dI d)],[]⟩ (Ret (tlook tys) Tryd.f68.results.toList r H') :=
  ret_of' (Link.cast (by kernel_rfl) (by kernel_rfl) (link_seq (Nl7 b d) (fun (t : Unit) => (link_seq2 (link_seq (Nza b d) (fun (t : Unit) => (link_block (fin2 := (Sum.elim (fun (t : Unit) => (Exit.normal,⟨mkE 42 0 [(0,dL b),(1,dI d)],[]⟩)) (fun (t : Bool) => (Exit.ret,⟨mkE 42 0 [(4,dB t)],[]⟩)))) (id := 0) (link_loop (mk := fun (s : Int) => ⟨mkE 42 0 [(0,dL b),(1,dI d),(5,dI s)],[]⟩) (fin := (Sum.elim (fun (t : Bool) => (Exit.ret,⟨mkE 42 0 [(4,dB t)],[]⟩)) (fun (t : Unit) => ((Exit.exit 0),⟨mkE 42 0 [(0,dL b),(1,dI d)],[]⟩)))) (by
  rintro (t | t) f K h
  · exact h
  · exact h) (fun s => link_map (link_seq2 (Nym b d s) (fun (t : Unit) => (link_map (fin2 := (Sum.elim (fun (t : Int) => (Exit.normal,⟨mkE 42 0 [(0,dL b),(1,dI d),(5,dI t)],[]⟩)) (Sum.elim (fun (t : Bool) => (Exit.ret,⟨mkE 42 0 [(4,dB t)],[]⟩)) (fun (t : Unit) => ((Exit.exit 0),⟨mkE 42 0 [(0,dL b),(1,dI d)],[]⟩))))) (link_seq2 (link_block (fin2 := (Sum.elim (fun (t : Unit) => (Exit.normal,⟨mkE 42 0 [(0,dL b),(1,dI d),(5,dI s)],[]⟩)) (fun (t : Bool) => (Exit.ret,⟨mkE 42 0 [(4,dB t)],[]⟩)))) (id := 1) (link_group (c := (cq [0,1,0,0,1,0,0,1,0,1] (bodyOf Tryd.f68))) (a := (aq [0,1,0,0,1,0,0,1,0,1] Nf)) [(cq [0,0,0,1,0,0,1,0,1] (bodyOf Tryd.f68))] [(aq [0,0,0,1,0,0,1,0,1] Nf)] rfl (link_seq2 (Nm1 b d s) (fun (t : Unit) => (link_block (fin2 := (Sum.elim (fun (t : Unit) => (Exit.normal,⟨mkE 42 0 [(0,dL b),(1,dI d),(5,dI s)],[]⟩)) (fun (t : Bool) => (Exit.ret,⟨mkE 42 0 [(4,dB t)],[]⟩)))) (id := 2) (link_loop (mk := fun (s33 : Int) => ⟨mkE 42 0 [(0,dL b),(1,dI d),(5,dI s),(6,dI s33)],[]⟩) (fin := (Sum.elim (fun (t : Bool) => (Exit.ret,⟨mkE 42 0 [(4,dB t)],[]⟩)) (fun (t : Unit) => ((Exit.exit 2),⟨mkE 42 0 [(0,dL b),(1,dI d),(5,dI s)],[]⟩)))) (by
  rintro (t | t) f K h
  · exact h
  · exact h) (fun s33 => link_map (Nre b d s s33) (Sum.elim (fun (t : Int) => Sum.inl t) (Sum.elim (fun (t : Bool) => Sum.inr (Sum.inl t)) (fun (t : Unit) => Sum.inr (Sum.inr t)))) (by
  rintro (t | t | t)
  · kernel_rfl
  · kernel_rfl
  · kernel_rfl)) 0) (Sum.elim (fun (t : Bool) => (Sum.inr t)) (fun (t : Unit) => (Sum.inl ()))) (by
  rintro (t | t) K h
  · exact Eq.mp (by kernel_rfl) h
  · exact Eq.mp (by kernel_rfl) h))) (fun (t : Bool) => (Sum.inr t)) (by
  rintro t
  · kernel_rfl) (by
  rintro t f K h
  · exact h))) (Sum.elim (fun (t : Unit) => (Sum.inl ())) (fun (t : Bool) => (Sum.inr t))) (by
  rintro (t | t) K h
  · exact Eq.mp (by kernel_rfl) h
  · exact Eq.mp (by kernel_rfl) h)) (fun (t : Unit) => (link_map (fin2 := (Sum.elim (fun (t : Int) => (Exit.normal,⟨mkE 42 0 [(0,dL b),(1,dI d),(5,dI t)],[]⟩)) (fun (t : Bool) => (Exit.ret,⟨mkE 42 0 [(4,dB t)],[]⟩)))) (Nmw b d s) (fun (t : Int) => (Sum.inl t)) (by
  rintro t
  · kernel_rfl))) (fun (t : Bool) => (Sum.inr t)) (by
  rintro t
  · kernel_rfl) (by
  rintro t f K h
  · exact h)) (Sum.elim (fun (t : Int) => (Sum.inl t)) (fun (t : Bool) => (Sum.inr (Sum.inl t)))) (by
  rintro (t | t)
  · kernel_rfl
  · kernel_rfl))) (fun (t : Unit) => (Sum.inr (Sum.inr t))) (by
  rintro t
  · kernel_rfl) (by
  rintro t f K h
  · exact h)) (Sum.elim (fun (t : Int) => Sum.inl t) (Sum.elim (fun (t : Bool) => Sum.inr (Sum.inl t)) (fun (t : Unit) => Sum.inr (Sum.inr t)))) (by
  rintro (t | t | t)
  · kernel_rfl
  · kernel_rfl
  · kernel_rfl)) 0) (Sum.elim (fun (t : Bool) => (Sum.inr t)) (fun (t : Unit) => (Sum.inl ()))) (by
  rintro (t | t) K h
  · exact Eq.mp (by kernel_rfl) h
  · exact Eq.mp (by kernel_rfl) h)))) (fun (t : Unit) => (Noz b d)) (fun (t : Bool) => t) (by
  rintro t
  · kernel_rfl) (by
  rintro t f K h
  · exact h))))) (by unfold N3k; kernel_rfl) (by
  intro t
  exact ret_mk [dB t] (by kernel_rfl) (by kernel_rfl) (by kernel_rfl) (by kernel_rfl)) h
def Ne4 : Fun := fun avs H =>
  match avs,H with
  | [.dat (.list (.int .i64)) a,.dat (.int .i64) b],[] => ⟨_,N3k a b,fun (t : Bool) => (dB t,[]),[],none⟩
  | _,_ => Ans.no
theorem Nvp : Sound Tryd.prog 68 Ne4 := by
  refine fn_sound' (C := N11) (c := bodyOf Tryd.f68) (cok_of tys_ok (allc Ncl alln) (allc Tryd.call46 alln) (by kernel_rfl)) Tryd.func68 (by kernel_rfl) LL Nf ?_
  intro avs H r H' h
  unfold Ne4 at h
  split at h
  · refine Awp.cast ?_ ?_ ?_ (Nuf _ _ h) <;> kernel_rfl
  · simp [Ans.no,Ans.run] at h

def Na : Ann := (.seq (.leaf [0,1]) (.seq (.seq (.leaf [0,1,19]) (.cond (.seq (.leaf [4,5]) (.leaf [4,5])) (.leaf [0,1]))) (.seq (.leaf [0,1,6]) (.seq (.seq (.leaf [0,1,6,7]) (.block (.loop (.seq (.seq (.leaf [0,1,6,7,28]) (.cond (.leaf [0,1,6,7]) (.leaf [0,1,6]))) (.seq (.block (.leaf [0,1,6,7])) (.leaf [0,1,6,7])))))) (.seq (.leaf [0,1,6,8]) (.seq (.seq (.leaf [0,1,6,8,9]) (.block (.loop (.seq (.seq (.leaf [0,1,6,8,9,43]) (.cond (.leaf [0,1,6,8,9]) (.leaf [8]))) (.seq (.block (.leaf [0,1,6,8,9])) (.leaf [0,1,6,8,9])))))) (.seq (.leaf [4,5]) (.leaf [4,5]))))))))
noncomputable def N10 : Ctx := ⟨tlook tys,olook [(27,Nw),(68,Ne4)],ioF,0,false,[]⟩
theorem Nwq (a b : List Int) : Link N10 LL (Code.seq (cq [0] (bodyOf Tryd.f57)) (Code.seq (cq [0,1] (bodyOf Tryd.f57)) (cq [0,1,1] (bodyOf Tryd.f57)))) (Ann.seq (aq [0] Na) (Ann.seq (aq [0,1] Na) (aq [0,1,1] Na))) ⟨mkE 61 0 [(0,dL a),(1,dL b)],[]⟩ (N7m a b) (Sum.elim (fun (t : (List Int)) => (Exit.normal,⟨mkE 61 0 [(0,dL a),(1,dL b),(6,.slc 0)],[some (sI t)]⟩)) (fun (t : Bool × (List Int)) => (Exit.ret,⟨mkE 61 0 [(4,.slc 0),(5,dB t.1)],[some (sI t.2)]⟩))) := .of fun K h => by
  simp only [N7m,wpW] at h
  exact .of (by kernel_rfl) h
theorem Nn8 (a b c : List Int) : Link N10 LL (cq [0,0,1,1,1] (bodyOf Tryd.f57)) (aq [0,0,1,1,1] Na) ⟨mkE 61 0 [(0,dL a),(1,dL b),(6,.slc 0)],[some (sI c)]⟩ (N8k) (fun (t : Unit) => (Exit.normal,⟨mkE 61 0 [(0,dL a),(1,dL b),(6,.slc 0),(7,dI 0)],[some (sI c)]⟩)) := .of fun K h => by
  simp only [N8k,wpW] at h
  exact .of (by kernel_rfl) h
theorem Nuq (a b : List Int) (c : Int) (d : List Int) : Link N10 LL (cq [0,0,1,0,1,1,1] (bodyOf Tryd.f57)) (aq [0,0,1,0,1,1,1] Na) ⟨mkE 61 0 [(0,dL a),(1,dL b),(6,.slc 0),(7,dI c)],[some (sI d)]⟩ (N6e b c d) (Sum.elim (fun (t : Int × (List Int)) => (Exit.normal,⟨mkE 61 0 [(0,dL a),(1,dL b),(6,.slc 0),(7,dI t.1)],[some (sI t.2)]⟩)) (fun (t : (List Int)) => ((Exit.exit 0),⟨mkE 61 0 [(0,dL a),(1,dL b),(6,.slc 0)],[some (sI t)]⟩))) := .of fun K h => by
  simp only [N6e,wpW] at h
  exact .of (by kernel_rfl) h
theorem Ntj (a b c : List Int) : Link N10 LL (cq [0,1,1,1,1] (bodyOf Tryd.f57)) (aq [0,1,1,1,1] Na) ⟨mkE 61 0 [(0,dL a),(1,dL b),(6,.slc 0)],[some (sI c)]⟩ (N73) (fun (t : Unit) => (Exit.normal,⟨mkE 61 0 [(0,dL a),(1,dL b),(6,.slc 0),(8,.slc 1)],[some (sI c),some (sI ([] : List Int))]⟩)) := .of fun K h => by
  simp only [N73,wpW] at h
  exact .of (by kernel_rfl) h
theorem Nse (a b c : List Int) : Link N10 LL (cq [0,0,1,1,1,1,1] (bodyOf Tryd.f57)) (aq [0,0,1,1,1,1,1] Na) ⟨mkE 61 0 [(0,dL a),(1,dL b),(6,.slc 0),(8,.slc 1)],[some (sI c),some (sI ([] : List Int))]⟩ (N7o) (fun (t : Unit) => (Exit.normal,⟨mkE 61 0 [(0,dL a),(1,dL b),(6,.slc 0),(8,.slc 1),(9,dI 0)],[some (sI c),some (sI ([] : List Int))]⟩)) := .of fun K h => by
  simp only [N7o,wpW] at h
  exact .of (by kernel_rfl) h
theorem Nub (a b : List Int) (c : Int) (d g : List Int) : Link N10 LL (cq [0,0,1,0,1,1,1,1,1] (bodyOf Tryd.f57)) (aq [0,0,1,0,1,1,1,1,1] Na) ⟨mkE 61 0 [(0,dL a),(1,dL b),(6,.slc 0),(8,.slc 1),(9,dI c)],[some (sI d),some (sI g)]⟩ (N5x a b c d g) (Sum.elim (fun (t : Int × (List Int)) => (Exit.normal,⟨mkE 61 0 [(0,dL a),(1,dL b),(6,.slc 0),(8,.slc 1),(9,dI t.1)],[some (sI d),some (sI t.2)]⟩)) (fun (t : (List Int)) => ((Exit.exit 2),⟨mkE 61 0 [(8,.slc 0)],[some (sI t)]⟩))) := .of fun K h => by
  simp only [N5x,wpW] at h
  exact .of (by kernel_rfl) h
theorem Nvu (a : List Int) : Link N10 LL (cq [1,1,1,1,1,1] (bodyOf Tryd.f57)) (aq [1,1,1,1,1,1] Na) ⟨mkE 61 0 [(8,.slc 0)],[some (sI a)]⟩ (N6x a) (fun (t : Bool × (List Int)) => (Exit.ret,⟨mkE 61 0 [(4,.slc 0),(5,dB t.1)],[some (sI t.2)]⟩)) := .of fun K h => by
  simp only [N6x,wpW] at h
  exact .of (by kernel_rfl) h
theorem Nz3 (b d : List Int) {r : AV} {H' : Heap} (h : (Ans.mk _ (N2b b d) (fun (t : Bool × (List Int)) => (.tup [.slc 0,dB t.1],[some (sI t.2)])) [] none).run = some (r,H')) : Awp N10 LL (bodyOf Tryd.f57) Na ⟨mkE 61 0 [(0,dL b),(1,dL d)],[]⟩ (Ret (tlook tys) Tryd.f57.results.toList r H') :=
  ret_of' (Link.cast (by kernel_rfl) (by kernel_rfl) (link_group (c := (cq [0,1,1] (bodyOf Tryd.f57))) (a := (aq [0,1,1] Na)) [(cq [0] (bodyOf Tryd.f57)),(cq [0,1] (bodyOf Tryd.f57))] [(aq [0] Na),(aq [0,1] Na)] rfl (link_seq2 (Nwq b d) (fun (t : (List Int)) => (link_seq (link_seq (Nn8 b d t) (fun (t34 : Unit) => (link_block (fin2 := (fun (t34 : (List Int)) => (Exit.normal,⟨mkE 61 0 [(0,dL b),(1,dL d),(6,.slc 0)],[some (sI t34)]⟩))) (id := 0) (link_loop (mk := fun (s : Int × (List Int)) => ⟨mkE 61 0 [(0,dL b),(1,dL d),(6,.slc 0),(7,dI s.1)],[some (sI s.2)]⟩) (fin := (fun (t34 : (List Int)) => ((Exit.exit 0),⟨mkE 61 0 [(0,dL b),(1,dL d),(6,.slc 0)],[some (sI t34)]⟩))) (by
  rintro t34 f K h
  · exact h) (fun s => link_map (Nuq b d s.1 s.2) (Sum.elim (fun (t34 : Int × (List Int)) => Sum.inl (t34.1,t34.2)) (fun (t34 : (List Int)) => Sum.inr t34)) (by
  rintro (t34 | t34)
  · kernel_rfl
  · kernel_rfl)) (0,t)) (fun (t34 : (List Int)) => t34) (by
  rintro t34 K h
  · exact Eq.mp (by kernel_rfl) h)))) (fun (t34 : (List Int)) => (link_seq (Ntj b d t34) (fun (t : Unit) => (link_seq (link_seq (Nse b d t34) (fun (t : Unit) => (link_block (fin2 := (fun (t : (List Int)) => (Exit.normal,⟨mkE 61 0 [(8,.slc 0)],[some (sI t)]⟩))) (id := 2) (link_loop (mk := fun (s : Int × (List Int)) => ⟨mkE 61 0 [(0,dL b),(1,dL d),(6,.slc 0),(8,.slc 1),(9,dI s.1)],[some (sI t34),some (sI s.2)]⟩) (fin := (fun (t : (List Int)) => ((Exit.exit 2),⟨mkE 61 0 [(8,.slc 0)],[some (sI t)]⟩))) (by
  rintro t f K h
  · exact h) (fun s => link_map (Nub b d s.1 t34 s.2) (Sum.elim (fun (t : Int × (List Int)) => Sum.inl (t.1,t.2)) (fun (t : (List Int)) => Sum.inr t)) (by
  rintro (t | t)
  · kernel_rfl
  · kernel_rfl)) (0,([] : List Int))) (fun (t : (List Int)) => t) (by
  rintro t K h
  · exact Eq.mp (by kernel_rfl) h)))) (fun (t : (List Int)) => (Nvu t)))))))) (fun (t : Bool × (List Int)) => t) (by
  rintro t
  · kernel_rfl) (by
  rintro t f K h
  · exact h)))) (by unfold N2b; kernel_rfl) (by
  intro t
  exact ret_mk [.slc 0,dB t.1] (by kernel_rfl) (by kernel_rfl) (by kernel_rfl) (by kernel_rfl)) h
def N6k : Fun := fun avs H =>
  match avs,H with
  | [.dat (.list (.int .i64)) a,.dat (.list (.int .i64)) b],[] => ⟨_,N2b a b,fun (t : Bool × (List Int)) => (.tup [.slc 0,dB t.1],[some (sI t.2)]),[],none⟩
  | _,_ => Ans.no
theorem Nj6 : Sound Tryd.prog 57 N6k := by
  refine fn_sound' (C := N10) (c := bodyOf Tryd.f57) (cok_of tys_ok (allc N22 (allc Nvp alln)) (allc Tryd.call27 (allc Tryd.call68 alln)) (by kernel_rfl)) Tryd.func57 (by kernel_rfl) LL Na ?_
  intro avs H r H' h
  unfold N6k at h
  split at h
  · refine Awp.cast ?_ ?_ ?_ (Nz3 _ _ h) <;> kernel_rfl
  · simp [Ans.no,Ans.run] at h

def Nc : Ann := (.seq (.seq (.leaf [0,1,2,3,4,16]) (.cond (.leaf []) (.leaf [0,1,2,3,4]))) (.seq (.leaf [0,1,2,3,4,10]) (.seq (.leaf [0,1,2,3,10]) (.seq (.leaf [0,1,3,10,11]) (.seq (.block (.loop (.seq (.seq (.leaf [0,1,3,10,11,33]) (.cond (.leaf [0,1,3,10,11]) (.leaf [0,1,3,10]))) (.block (.seq (.leaf [0,1,3,10,11,12]) (.seq (.leaf [0,1,3,10,12]) (.leaf [0,1,3,10,11]))))))) (.seq (.leaf [0,1,3,10,11]) (.block (.loop (.seq (.seq (.leaf [0,1,3,10,11,53]) (.cond (.leaf [0,1,3,10,11]) (.leaf []))) (.block (.seq (.leaf [0,1,3,10,11,13]) (.seq (.leaf [0,1,3,10,13]) (.leaf [0,1,3,10,11])))))))))))))
def N14 (n : Nat) : Fun := fun avs H =>
  match avs,H with
  | [.ptr 0 0,.slc 1,.dat (.int .i64) a,.dat (.int .i64) b,.dat (.int .i64) c],[some (.box [.dat (.list (.int .u8)) d,.dat (.int .i64) g]),some (.seq (.int .i64) i)] => ⟨_,N1l n a b c d g i,fun (t : Int × (List Int)) => (.tup [],[some (.box [dV d,dI t.1]),some (sI t.2)]),[],none⟩
  | _,_ => Ans.no
noncomputable def N3v (n : Nat) : Ctx := ⟨tlook tys,olook [(40,Nu),(69,N14 n)],ioF,2,false,[]⟩
theorem Nqw (n : Nat) (a b c : Int) (d : List Int) (g : Int) (i : List Int) : Link (N3v n) LL (Code.seq (cq [0] (bodyOf Tryd.f69)) (Code.seq (cq [0,1] (bodyOf Tryd.f69)) (Code.seq (cq [0,1,1] (bodyOf Tryd.f69)) (cq [0,1,1,1] (bodyOf Tryd.f69))))) (Ann.seq (aq [0] Nc) (Ann.seq (aq [0,1] Nc) (Ann.seq (aq [0,1,1] Nc) (aq [0,1,1,1] Nc)))) ⟨mkE 70 0 [(0,.ptr 0 0),(1,.slc 1),(2,dI a),(3,dI b),(4,dI c)],[some (.box [dV d,dI g]),some (sI i)]⟩ (N8l (N1l n) a b c d g i) (Sum.elim (fun (t : Int × Int × (List Int)) => (Exit.normal,⟨mkE 70 0 [(0,.ptr 0 0),(1,.slc 1),(3,dI b),(10,dI t.1),(11,dI a)],[some (.box [dV d,dI t.2.1]),some (sI t.2.2)]⟩)) (fun (t : Int × (List Int)) => (Exit.ret,⟨mkE 70 0 [],[some (.box [dV d,dI t.1]),some (sI t.2)]⟩))) := .of fun K h => by
  simp only [N8l,wpW] at h
  exact .of (by kernel_rfl) h
theorem Nx8 (n : Nat) (a b c : Int) (d : List Int) (g : Int) (i : List Int) : Link (N3v n) LL (cq [0,0,0,1,1,1,1] (bodyOf Tryd.f69)) (aq [0,0,0,1,1,1,1] Nc) ⟨mkE 70 0 [(0,.ptr 0 0),(1,.slc 1),(3,dI a),(10,dI b),(11,dI c)],[some (.box [dV d,dI g]),some (sI i)]⟩ (N4z (N1l n) b c d g i) (Sum.elim (fun (t : Int × Int × (List Int)) => (Exit.normal,⟨mkE 70 0 [(0,.ptr 0 0),(1,.slc 1),(3,dI a),(10,dI b),(11,dI t.1)],[some (.box [dV d,dI t.2.1]),some (sI t.2.2)]⟩)) (fun (t : Int × (List Int)) => ((Exit.exit 0),⟨mkE 70 0 [(0,.ptr 0 0),(1,.slc 1),(3,dI a),(10,dI b)],[some (.box [dV d,dI t.1]),some (sI t.2)]⟩))) := .of fun K h => by
  simp only [N4z,wpW] at h
  exact .of (by kernel_rfl) h
theorem Nzy (n : Nat) (a b : Int) (c : List Int) (d : Int) (g : List Int) : Link (N3v n) LL (cq [0,1,1,1,1,1] (bodyOf Tryd.f69)) (aq [0,1,1,1,1,1] Nc) ⟨mkE 70 0 [(0,.ptr 0 0),(1,.slc 1),(3,dI a),(10,dI b)],[some (.box [dV c,dI d]),some (sI g)]⟩ (N7s (N1l n) b) (fun (t : Int) => (Exit.normal,⟨mkE 70 0 [(0,.ptr 0 0),(1,.slc 1),(3,dI a),(10,dI b),(11,dI t)],[some (.box [dV c,dI d]),some (sI g)]⟩)) := .of fun K h => by
  simp only [N7s,wpW] at h
  exact .of (by kernel_rfl) h
theorem Nyv (n : Nat) (a b c : Int) (d : List Int) (g : Int) (i : List Int) : Link (N3v n) LL (cq [0,0,1,1,1,1,1,1] (bodyOf Tryd.f69)) (aq [0,0,1,1,1,1,1,1] Nc) ⟨mkE 70 0 [(0,.ptr 0 0),(1,.slc 1),(3,dI a),(10,dI b),(11,dI c)],[some (.box [dV d,dI g]),some (sI i)]⟩ (N5w (N1l n) a b c d g i) (Sum.elim (fun (t : Int × Int × (List Int)) => (Exit.normal,⟨mkE 70 0 [(0,.ptr 0 0),(1,.slc 1),(3,dI a),(10,dI b),(11,dI t.1)],[some (.box [dV d,dI t.2.1]),some (sI t.2.2)]⟩)) (fun (t : Int × (List Int)) => ((Exit.exit 2),⟨mkE 70 0 [],[some (.box [dV d,dI t.1]),some (sI t.2)]⟩))) := .of fun K h => by
  simp only [N5w,wpW] at h
  exact .of (by kernel_rfl) h
theorem No8 (n : Nat) (b d g : Int) (i : List Int) (j : Int) (k : List Int) {r : AV} {H' : Heap} (h : (Ans.mk _ (N1l (n + 1) b d g i j k) (fun (t : Int × (List Int)) => (.tup [],[some (.box [dV i,dI t.1]),some (sI t.2)])) [] none).run = some (r,H')) : Awp (N3v n) LL (bodyOf Tryd.f69) Nc ⟨mkE 70 0 [(0,.ptr 0 0),(1,.slc 1),(2,dI b),(3,dI d),(4,dI g)],[some (.box [dV i,dI j]),some (sI k)]⟩ (Ret (tlook tys) Tryd.f69.results.toList r H') :=
  ret_of (Link.cast (by kernel_rfl) (by kernel_rfl) (link_group (c := (cq [0,1,1,1] (bodyOf Tryd.f69))) (a := (aq [0,1,1,1] Nc)) [(cq [0] (bodyOf Tryd.f69)),(cq [0,1] (bodyOf Tryd.f69)),(cq [0,1,1] (bodyOf Tryd.f69))] [(aq [0] Nc),(aq [0,1] Nc),(aq [0,1,1] Nc)] rfl (link_seq2 (Nqw n b d g i j k) (fun (t : Int × Int × (List Int)) => (link_map (fin2 := (Sum.elim (fun (t : Int × (List Int)) => (Exit.normal,⟨mkE 70 0 [],[some (.box [dV i,dI t.1]),some (sI t.2)]⟩)) (fun (t : Int × (List Int)) => (Exit.ret,⟨mkE 70 0 [],[some (.box [dV i,dI t.1]),some (sI t.2)]⟩)))) (link_seq (link_block (fin2 := (fun (t49 : Int × (List Int)) => (Exit.normal,⟨mkE 70 0 [(0,.ptr 0 0),(1,.slc 1),(3,dI d),(10,dI t.1)],[some (.box [dV i,dI t49.1]),some (sI t49.2)]⟩))) (id := 0) (link_loop (mk := fun (s : Int × Int × (List Int)) => ⟨mkE 70 0 [(0,.ptr 0 0),(1,.slc 1),(3,dI d),(10,dI t.1),(11,dI s.1)],[some (.box [dV i,dI s.2.1]),some (sI s.2.2)]⟩) (fin := (fun (t49 : Int × (List Int)) => ((Exit.exit 0),⟨mkE 70 0 [(0,.ptr 0 0),(1,.slc 1),(3,dI d),(10,dI t.1)],[some (.box [dV i,dI t49.1]),some (sI t49.2)]⟩))) (by
  rintro t49 f K h
  · exact h) (fun s => link_map (Nx8 n d t.1 s.1 i s.2.1 s.2.2) (Sum.elim (fun (t49 : Int × Int × (List Int)) => Sum.inl (t49.1,t49.2.1,t49.2.2)) (fun (t49 : Int × (List Int)) => Sum.inr t49)) (by
  rintro (t49 | t49)
  · kernel_rfl
  · kernel_rfl)) (b,t.2.1,t.2.2)) (fun (t49 : Int × (List Int)) => (t49.1,t49.2)) (by
  rintro t49 K h
  · exact Eq.mp (by kernel_rfl) h)) (fun (t49 : Int × (List Int)) => (link_seq (Nzy n d t.1 i t49.1 t49.2) (fun (t1 : Int) => (link_block (fin2 := (fun (t35 : Int × (List Int)) => (Exit.normal,⟨mkE 70 0 [],[some (.box [dV i,dI t35.1]),some (sI t35.2)]⟩))) (id := 2) (link_loop (mk := fun (s : Int × Int × (List Int)) => ⟨mkE 70 0 [(0,.ptr 0 0),(1,.slc 1),(3,dI d),(10,dI t.1),(11,dI s.1)],[some (.box [dV i,dI s.2.1]),some (sI s.2.2)]⟩) (fin := (fun (t35 : Int × (List Int)) => ((Exit.exit 2),⟨mkE 70 0 [],[some (.box [dV i,dI t35.1]),some (sI t35.2)]⟩))) (by
  rintro t35 f K h
  · exact h) (fun s => link_map (Nyv n d t.1 s.1 i s.2.1 s.2.2) (Sum.elim (fun (t35 : Int × Int × (List Int)) => Sum.inl (t35.1,t35.2.1,t35.2.2)) (fun (t35 : Int × (List Int)) => Sum.inr t35)) (by
  rintro (t35 | t35)
  · kernel_rfl
  · kernel_rfl)) (t1,t49.1,t49.2)) (fun (t35 : Int × (List Int)) => (t35.1,t35.2)) (by
  rintro t35 K h
  · exact Eq.mp (by kernel_rfl) h)))))) (fun (u : Int × (List Int)) => (Sum.inl (u.1,u.2))) (by
  rintro t
  · kernel_rfl))) (fun (t : Int × (List Int)) => (Sum.inr t)) (by
  rintro t
  · kernel_rfl) (by
  rintro t f K h
  · exact h)))) (Sum.elim (fun (t : Int × (List Int)) => (t.1,t.2)) (fun (t : Int × (List Int)) => t)) (by (show _ = _); kernel_rfl) (by
  rintro (t | t)
  · exact ret_mk [] (by kernel_rfl) (by kernel_rfl) (by kernel_rfl) (by kernel_rfl)
  · exact ret_mk [] (by kernel_rfl) (by kernel_rfl) (by kernel_rfl) (by kernel_rfl)) h
theorem Nsp (n : Nat) (h69 : Sound Tryd.prog 69 (N14 n)) : Sound Tryd.prog 69 (N14 (n + 1)) := by
  refine fn_sound' (C := N3v n) (c := bodyOf Tryd.f69) (cok_of tys_ok (allc N23 (allc h69 alln)) (allc Tryd.call40 (allc Tryd.call69 alln)) (by kernel_rfl)) Tryd.func69 (by kernel_rfl) LL Nc ?_
  intro avs H r H' h
  unfold N14 at h
  split at h
  · refine Awp.cast ?_ ?_ ?_ (No8 n _ _ _ _ _ _ h) <;> kernel_rfl
  · simp [Ans.no,Ans.run] at h
theorem Nwv : Sound Tryd.prog 69 (N14 0) := by
  intro avs H r H' h
  unfold N14 at h
  split at h
  · simp [N1l,N2z,Ans.run] at h
  · simp [Ans.no,Ans.run] at h
theorem Ngl : ∀ n,Sound Tryd.prog 69 (N14 n)
  | 0 => Nwv
  | n + 1 => by
    have h69 := Ngl n
    exact Nsp n h69
def N9a : Fun := fun avs H =>
  match avs,H with
  | [.ptr 0 0,.slc 1,.dat (.int .i64) a,.dat (.int .i64) b,.dat (.int .i64) c],[some (.box [.dat (.list (.int .u8)) d,.dat (.int .i64) g]),some (.seq (.int .i64) i)] => ⟨_,N52 a b c d g i,fun (t : Int × (List Int)) => (.tup [],[some (.box [dV d,dI t.1]),some (sI t.2)]),[],none⟩
  | _,_ => Ans.no
theorem Nwz : Sound Tryd.prog 69 N9a := by
  have e : N9a = N14 RR := by
    funext avs H
    unfold N9a N14
    split <;> first | rfl | (simp only [N52])
  rw [e]
  exact (Ngl RR)

def Ndy : Ann := (.seq (.leaf [0,1]) (.seq (.seq (.leaf [0,1,9]) (.cond (.seq (.leaf [4]) (.leaf [4])) (.leaf [0]))) (.seq (.leaf [0,5]) (.seq (.leaf [0,5,6]) (.seq (.leaf [6]) (.seq (.leaf [4]) (.leaf [4])))))))
noncomputable def Nbw : Ctx := ⟨tlook tys,olook [(40,Nu),(56,N9j),(69,N9a)],ioF,1,false,[]⟩
theorem Nxb (a : Int) (b : List Int) (c : Int) : Link Nbw LL (bodyOf Tryd.f59) Ndy ⟨mkE 23 0 [(0,.ptr 0 0),(1,dI a)],[some (.box [dV b,dI c])]⟩ (N53 a b c) (fun (t : Int × (List Int)) => (Exit.ret,⟨mkE 23 0 [(4,.slc 1)],[some (.box [dV b,dI t.1]),some (sI t.2)]⟩)) := .of fun K h => by
  simp only [N53,wpW] at h
  exact .of (by kernel_rfl) h
theorem Nus (a : Int) (b : List Int) (c : Int) {r : AV} {H' : Heap} (h : (Ans.mk _ (N1f a b c) (fun (t : Int × (List Int)) => (.slc 1,[some (.box [dV b,dI t.1]),some (sI t.2)])) [] none).run = some (r,H')) : Awp Nbw LL (bodyOf Tryd.f59) Ndy ⟨mkE 23 0 [(0,.ptr 0 0),(1,dI a)],[some (.box [dV b,dI c])]⟩ (Ret (tlook tys) Tryd.f59.results.toList r H') :=
  ret_of' (Nxb a b c) (by unfold N1f; kernel_rfl) (by
  intro t
  exact ret_mk [.slc 1] (by kernel_rfl) (by kernel_rfl) (by kernel_rfl) (by kernel_rfl)) h
def Nf4 : Fun := fun avs H =>
  match avs,H with
  | [.ptr 0 0,.dat (.int .i64) a],[some (.box [.dat (.list (.int .u8)) b,.dat (.int .i64) c])] => ⟨_,N1f a b c,fun (t : Int × (List Int)) => (.slc 1,[some (.box [dV b,dI t.1]),some (sI t.2)]),[],none⟩
  | _,_ => Ans.no
theorem N104 : Sound Tryd.prog 59 Nf4 := by
  refine fn_sound' (C := Nbw) (c := bodyOf Tryd.f59) (cok_of tys_ok (allc N23 (allc Nju (allc Nwz alln))) (allc Tryd.call40 (allc Tryd.call56 (allc Tryd.call69 alln))) (by kernel_rfl)) Tryd.func59 (by kernel_rfl) LL Ndy ?_
  intro avs H r H' h
  unfold Nf4 at h
  split at h
  · refine Awp.cast ?_ ?_ ?_ (Nus _ _ _ h) <;> kernel_rfl
  · simp [Ans.no,Ans.run] at h

def Nay : Ann := (.seq (.leaf [0,1]) (.seq (.leaf [0,1,5]) (.seq (.seq (.leaf [0,1,5,17]) (.cond (.seq (.leaf [6]) (.seq (.leaf [4]) (.leaf [4]))) (.leaf [0,1,5]))) (.seq (.seq (.leaf [0,1,5,30]) (.cond (.seq (.leaf [4]) (.leaf [4])) (.leaf [5]))) (.seq (.leaf [4]) (.leaf [4]))))))
noncomputable def Nfe : Ctx := ⟨tlook tys,olook [(56,N9j),(40,Nu),(27,Nw),(58,N8r),(57,N6k),(59,Nf4)],ioF,1,false,[]⟩
theorem Nzj (a : Int) (b : List Int) (c : Int) : Link Nfe LL (bodyOf Tryd.f39) Nay ⟨mkE 35 0 [(0,.ptr 0 0),(1,dI a)],[some (.box [dV b,dI c])]⟩ (N51 a b c) (fun (t : Int × (List Int)) => (Exit.ret,⟨mkE 35 0 [(4,.slc 1)],[some (.box [dV b,dI t.1]),some (sI t.2)]⟩)) := .of fun K h => by
  simp only [N51,wpW] at h
  exact .of (by kernel_rfl) h
theorem Nwj (a : Int) (b : List Int) (c : Int) {r : AV} {H' : Heap} (h : (Ans.mk _ (N2p a b c) (fun (t : Int × (List Int)) => (.slc 1,[some (.box [dV b,dI t.1]),some (sI t.2)])) [] none).run = some (r,H')) : Awp Nfe LL (bodyOf Tryd.f39) Nay ⟨mkE 35 0 [(0,.ptr 0 0),(1,dI a)],[some (.box [dV b,dI c])]⟩ (Ret (tlook tys) Tryd.f39.results.toList r H') :=
  ret_of' (Nzj a b c) (by unfold N2p; kernel_rfl) (by
  intro t
  exact ret_mk [.slc 1] (by kernel_rfl) (by kernel_rfl) (by kernel_rfl) (by kernel_rfl)) h
def Nbg : Fun := fun avs H =>
  match avs,H with
  | [.ptr 0 0,.dat (.int .i64) a],[some (.box [.dat (.list (.int .u8)) b,.dat (.int .i64) c])] => ⟨_,N2p a b c,fun (t : Int × (List Int)) => (.slc 1,[some (.box [dV b,dI t.1]),some (sI t.2)]),[],none⟩
  | _,_ => Ans.no
theorem Nq8 : Sound Tryd.prog 39 Nbg := by
  refine fn_sound' (C := Nfe) (c := bodyOf Tryd.f39) (cok_of tys_ok (allc Nju (allc N23 (allc N22 (allc Nj4 (allc Nj6 (allc N104 alln)))))) (allc Tryd.call56 (allc Tryd.call40 (allc Tryd.call27 (allc Tryd.call58 (allc Tryd.call57 (allc Tryd.call59 alln)))))) (by kernel_rfl)) Tryd.func39 (by kernel_rfl) LL Nay ?_
  intro avs H r H' h
  unfold Nbg at h
  split at h
  · refine Awp.cast ?_ ?_ ?_ (Nwj _ _ _ h) <;> kernel_rfl
  · simp [Ans.no,Ans.run] at h

def Nfg : Ann := (.seq (.leaf [0,2]) (.seq (.seq (.leaf [0,2,6]) (.cond (.seq (.leaf [2,3]) (.leafF [⟨0,2,false,some 0,some (.int .i64)⟩] [2,3])) (.leaf [0,2]))) (.seq (.leaf [2,3]) (.leaf [2,3]))))
noncomputable def Nbl : Ctx := ⟨tlook tys,olook [(27,Nw)],ioF,0,false,[]⟩
theorem N10f (a : List Int) : Link Nbl LL (bodyOf Tryd.f38) Nfg ⟨mkE 12 0 [(0,dL a)],[]⟩ (N5k a) (fun (t : Bool × (List Int)) => (Exit.ret,⟨mkE 12 0 [(2,.ptr 0 0),(3,dB t.1)],[some (.box [.slc 1,.nils]),some (sI t.2)]⟩)) := .of fun K h => by
  simp only [N5k,wpW] at h
  exact .of (by kernel_rfl) h
theorem Nr3 (a : List Int) {r : AV} {H' : Heap} (h : (Ans.mk _ (N2o a) (fun (t : Bool × (List Int)) => (.tup [.agg [.slc 1,.nils],dB t.1],[some (.box [.slc 1,.nils]),some (sI t.2)])) [] none).run = some (r,H')) : Awp Nbl LL (bodyOf Tryd.f38) Nfg ⟨mkE 12 0 [(0,dL a)],[]⟩ (Ret (tlook tys) Tryd.f38.results.toList r H') :=
  ret_of' (N10f a) (by unfold N2o; kernel_rfl) (by
  intro t
  exact ret_mk [.agg [.slc 1,.nils],dB t.1] (by kernel_rfl) (by kernel_rfl) (by kernel_rfl) (by kernel_rfl)) h
def Ndl : Fun := fun avs H =>
  match avs,H with
  | [.dat (.list (.int .i64)) a],[] => ⟨_,N2o a,fun (t : Bool × (List Int)) => (.tup [.agg [.slc 1,.nils],dB t.1],[some (.box [.slc 1,.nils]),some (sI t.2)]),[],none⟩
  | _,_ => Ans.no
theorem Nmc : Sound Tryd.prog 38 Ndl := by
  refine fn_sound' (C := Nbl) (c := bodyOf Tryd.f38) (cok_of tys_ok (allc N22 alln) (allc Tryd.call27 alln) (by kernel_rfl)) Tryd.func38 (by kernel_rfl) LL Nfg ?_
  intro avs H r H' h
  unfold Ndl at h
  split at h
  · refine Awp.cast ?_ ?_ ?_ (Nr3 _ h) <;> kernel_rfl
  · simp [Ans.no,Ans.run] at h

def Ne0 : Ann := (.seq (.leaf [0,1,4]) (.seq (.draw [0,3,4] [0,1,5,2,3,4,6,7,8,9,10,11,12] [] [0,1,4,5]) (.seq (.seq (.leaf [0,1,4,5,18]) (.block (.seq (.leaf [0,1,4,5,18,19]) (.cond (.seq (.leaf [0,1,4,5]) (.leaf [0,4,5])) (.seq (.leaf [0,1,4,5,34]) (.cond (.leaf [0,4,5]) (.leaf [0,4,5]))))))) (.seq (.seq (.leaf [0,4,5,47]) (.cond (.leaf [4,5]) (.leaf [4,5]))) (.seq (.leaf [4]) (.leaf [4]))))))
noncomputable def Ncu : Ctx := ⟨tlook tys,olook [(40,Nu),(36,N4x)],ioF,1,false,[]⟩
theorem Nr6 (a b : List Int) (c : Int) : Link Ncu LL (bodyOf Tryd.f20) Ne0 ⟨mkE 55 0 [(0,.ptr 0 0),(1,dL a)],[some (.box [dV b,dI c])]⟩ (N5e a b c) (fun (t : Int × Int × Int × Int) => (Exit.ret,⟨mkE 55 0 [(4,.ptr 1 0)],[some (.box [dV b,dI t.1]),some (.box [dI t.2.1,dI t.2.2.1,dI t.2.2.2])]⟩)) := .of fun K h => by
  simp only [N5e,wpW] at h
  exact .of (by kernel_rfl) h
theorem Nu9 (a b : List Int) (c : Int) {r : AV} {H' : Heap} (h : (Ans.mk _ (N1t a b c) (fun (t : Int × Int × Int × Int) => (.agg [dI t.2.1,dI t.2.2.1,dI t.2.2.2],[some (.box [dV b,dI t.1]),some (.box [dI t.2.1,dI t.2.2.1,dI t.2.2.2])])) [] none).run = some (r,H')) : Awp Ncu LL (bodyOf Tryd.f20) Ne0 ⟨mkE 55 0 [(0,.ptr 0 0),(1,dL a)],[some (.box [dV b,dI c])]⟩ (Ret (tlook tys) Tryd.f20.results.toList r H') :=
  ret_of' (Nr6 a b c) (by unfold N1t; kernel_rfl) (by
  intro t
  exact ret_mk [.agg [dI t.2.1,dI t.2.2.1,dI t.2.2.2]] (by kernel_rfl) (by kernel_rfl) (by kernel_rfl) (by kernel_rfl)) h
def Na4 : Fun := fun avs H =>
  match avs,H with
  | [.ptr 0 0,.dat (.list (.int .i64)) a],[some (.box [.dat (.list (.int .u8)) b,.dat (.int .i64) c])] => ⟨_,N1t a b c,fun (t : Int × Int × Int × Int) => (.agg [dI t.2.1,dI t.2.2.1,dI t.2.2.2],[some (.box [dV b,dI t.1]),some (.box [dI t.2.1,dI t.2.2.1,dI t.2.2.2])]),[],none⟩
  | _,_ => Ans.no
theorem Nki : Sound Tryd.prog 20 Na4 := by
  refine fn_sound' (C := Ncu) (c := bodyOf Tryd.f20) (cok_of tys_ok (allc N23 (allc Ne3 alln)) (allc Tryd.call40 (allc Tryd.call36 alln)) (by kernel_rfl)) Tryd.func20 (by kernel_rfl) LL Ne0 ?_
  intro avs H r H' h
  unfold Na4 at h
  split at h
  · refine Awp.cast ?_ ?_ ?_ (Nu9 _ _ _ h) <;> kernel_rfl
  · simp [Ans.no,Ans.run] at h

def N45 : Ann := (.seq (.leaf [1]) (.seq (.seq (.leaf [1,3]) (.block (.loop (.seq (.seq (.leaf [1,3,8]) (.cond (.leaf [1,3]) (.leaf [1]))) (.seq (.block (.seq (.leaf [1,3,17]) (.cond (.seq (.leaf [2]) (.leaf [2])) (.leaf [1,3])))) (.leaf [1,3])))))) (.seq (.leaf [2]) (.leaf [2]))))
noncomputable def N3o : Ctx := ⟨tlook tys,olook [(27,Nw)],ioF,0,false,[]⟩
theorem Nrh (a : List Int) (b : List (List Int)) : Link N3o LL (cq [0] (bodyOf Tryd.f16)) (aq [0] N45) ⟨mkE 27 0 [(0,.agg [dL a,.dat (.list (.list (.int .i64))) b])],[]⟩ (N7p) (fun (t : Unit) => (Exit.normal,⟨mkE 27 0 [(1,.ptr 0 0)],[some (.box [dL a,.dat (.list (.list (.int .i64))) b])]⟩)) := .of fun K h => by
  simp only [N7p,wpW] at h
  exact .of (by kernel_rfl) h
theorem Nly (a : List Int) (b : List (List Int)) : Link N3o LL (cq [0,0,1] (bodyOf Tryd.f16)) (aq [0,0,1] N45) ⟨mkE 27 0 [(1,.ptr 0 0)],[some (.box [dL a,.dat (.list (.list (.int .i64))) b])]⟩ (N7a) (fun (t : Unit) => (Exit.normal,⟨mkE 27 0 [(1,.ptr 0 0),(3,dI 0)],[some (.box [dL a,.dat (.list (.list (.int .i64))) b])]⟩)) := .of fun K h => by
  simp only [N7a,wpW] at h
  exact .of (by kernel_rfl) h
theorem Nni (a : Int) (b : List Int) (c : List (List Int)) : Link N3o LL (cq [0,0,1,0,1] (bodyOf Tryd.f16)) (aq [0,0,1,0,1] N45) ⟨mkE 27 0 [(1,.ptr 0 0),(3,dI a)],[some (.box [dL b,.dat (.list (.list (.int .i64))) c])]⟩ (N3b a c) (Sum.elim (fun (t : Int) => (Exit.normal,⟨mkE 27 0 [(1,.ptr 0 0),(3,dI t)],[some (.box [dL b,.dat (.list (.list (.int .i64))) c])]⟩)) (Sum.elim (fun (t : Bool) => (Exit.ret,⟨mkE 27 0 [(2,dB t)],[]⟩)) (fun (t : Unit) => ((Exit.exit 0),⟨mkE 27 0 [(1,.ptr 0 0)],[some (.box [dL b,.dat (.list (.list (.int .i64))) c])]⟩)))) := .of fun K h => by
  simp only [N3b,wpW] at h
  exact .of (by kernel_rfl) h
theorem Nsj (a : List Int) (b : List (List Int)) : Link N3o LL (cq [1,1] (bodyOf Tryd.f16)) (aq [1,1] N45) ⟨mkE 27 0 [(1,.ptr 0 0)],[some (.box [dL a,.dat (.list (.list (.int .i64))) b])]⟩ (N8s a b) (fun (t : Bool) => (Exit.ret,⟨mkE 27 0 [(2,dB t)],[]⟩)) := .of fun K h => by
  simp only [N8s,wpW] at h
  exact .of (by kernel_rfl) h
theorem Nuc (a : List Int) (b : List (List Int)) {r : AV} {H' : Heap} (h : (Ans.mk _ (N2n a b) (fun (t : Bool) => (dB t,[])) [] none).run = some (r,H')) : Awp N3o LL (bodyOf Tryd.f16) N45 ⟨mkE 27 0 [(0,.agg [dL a,.dat (.list (.list (.int .i64))) b])],[]⟩ (Ret (tlook tys) Tryd.f16.results.toList r H') :=
  ret_of' (Link.cast (by kernel_rfl) (by kernel_rfl) (link_seq (Nrh a b) (fun (t : Unit) => (link_seq2 (link_seq (Nly a b) (fun (t : Unit) => (link_block (fin2 := (Sum.elim (fun (t : Unit) => (Exit.normal,⟨mkE 27 0 [(1,.ptr 0 0)],[some (.box [dL a,.dat (.list (.list (.int .i64))) b])]⟩)) (fun (t : Bool) => (Exit.ret,⟨mkE 27 0 [(2,dB t)],[]⟩)))) (id := 0) (link_loop (mk := fun (s : Int) => ⟨mkE 27 0 [(1,.ptr 0 0),(3,dI s)],[some (.box [dL a,.dat (.list (.list (.int .i64))) b])]⟩) (fin := (Sum.elim (fun (t : Bool) => (Exit.ret,⟨mkE 27 0 [(2,dB t)],[]⟩)) (fun (t : Unit) => ((Exit.exit 0),⟨mkE 27 0 [(1,.ptr 0 0)],[some (.box [dL a,.dat (.list (.list (.int .i64))) b])]⟩)))) (by
  rintro (t | t) f K h
  · exact h
  · exact h) (fun s => link_map (Nni s a b) (Sum.elim (fun (t : Int) => Sum.inl t) (Sum.elim (fun (t : Bool) => Sum.inr (Sum.inl t)) (fun (t : Unit) => Sum.inr (Sum.inr t)))) (by
  rintro (t | t | t)
  · kernel_rfl
  · kernel_rfl
  · kernel_rfl)) 0) (Sum.elim (fun (t : Bool) => (Sum.inr t)) (fun (t : Unit) => (Sum.inl ()))) (by
  rintro (t | t) K h
  · exact Eq.mp (by kernel_rfl) h
  · exact Eq.mp (by kernel_rfl) h)))) (fun (t : Unit) => (Nsj a b)) (fun (t : Bool) => t) (by
  rintro t
  · kernel_rfl) (by
  rintro t f K h
  · exact h))))) (by unfold N2n; kernel_rfl) (by
  intro t
  exact ret_mk [dB t] (by kernel_rfl) (by kernel_rfl) (by kernel_rfl) (by kernel_rfl)) h
def Nb4 : Fun := fun avs H =>
  match avs,H with
  | [.agg [.dat (.list (.int .i64)) a,.dat (.list (.list (.int .i64))) b]],[] => ⟨_,N2n a b,fun (t : Bool) => (dB t,[]),[],none⟩
  | _,_ => Ans.no
theorem Nmk : Sound Tryd.prog 16 Nb4 := by
  refine fn_sound' (C := N3o) (c := bodyOf Tryd.f16) (cok_of tys_ok (allc N22 alln) (allc Tryd.call27 alln) (by kernel_rfl)) Tryd.func16 (by kernel_rfl) LL N45 ?_
  intro avs H r H' h
  unfold Nb4 at h
  split at h
  · refine Awp.cast ?_ ?_ ?_ (Nuc _ _ h) <;> kernel_rfl
  · simp [Ans.no,Ans.run] at h

def N1s : Ann := (.seq (.leaf [1,2]) (.seq (.leaf [1,2,3]) (.seq (.seq (.leafF [⟨1,3,true,some 1,some (.int .i64)⟩] [1,2,3,4]) (.block (.loop (.seq (.seq (.leaf [1,2,3,4,14]) (.cond (.leaf [1,2,3,4]) (.leaf [2,3]))) (.seq (.block (.draw [8,2,100010] [0,1,2,3,4,5,6,7,8,9,10,11,12] [] [1,2,3,4])) (.leaf [1,2,3,4])))))) (.seq (.leaf [2]) (.leaf [2])))))
noncomputable def N3z : Ctx := ⟨tlook tys,olook [],ioF,0,true,[]⟩
theorem Np2 (a : List Int) (b : List (List Int)) : Link N3z LL (Code.seq (cq [0] (bodyOf Tryd.f25)) (cq [0,1] (bodyOf Tryd.f25))) (Ann.seq (aq [0] N1s) (aq [0,1] N1s)) ⟨mkE 30 0 [(0,.agg [dL a,.dat (.list (.list (.int .i64))) b])],[]⟩ (N9t a) (fun (t : (List Int)) => (Exit.normal,⟨mkE 30 0 [(1,.ptr 0 0),(2,.ptr 1 0),(3,.ptr 2 0)],[some (.box [dL a,.dat (.list (.list (.int .i64))) b]),some (.box [.nils,.nils]),some (.box [.slc 3,.nils]),some (sI t)]⟩)) := .of fun K h => by
  simp only [N9t,wpW] at h
  exact .of (by kernel_rfl) h
theorem Nu7 (a : List Int) (b : List (List Int)) (c : List Int) : Link N3z LL (cq [0,0,1,1] (bodyOf Tryd.f25)) (aq [0,0,1,1] N1s) ⟨mkE 30 0 [(1,.ptr 0 0),(2,.ptr 1 0),(3,.ptr 2 0)],[some (.box [dL a,.dat (.list (.list (.int .i64))) b]),some (.box [.nils,.nils]),some (.box [.slc 3,.nils]),some (sI c)]⟩ (N78) (fun (t : Unit) => (Exit.normal,⟨mkE 30 0 [(1,.ptr 0 0),(2,.ptr 1 0),(3,.ptr 2 0),(4,dI 0)],[some (.box [dL a,.dat (.list (.list (.int .i64))) b]),some (.box [.nils,.nils]),some (.box [.slc 3,.slc 4]),some (sI c),some (.nest (.int .i64) ([] : List (List Int)) 0 [])]⟩)) := .of fun K h => by
  simp only [N78,wpW] at h
  exact .of (by kernel_rfl) h
theorem Nph (a : Int) (b : List Int) (c : List (List Int)) (d : List Int) (g : List (List Int)) : Link N3z LL (cq [0,0,1,0,1,1] (bodyOf Tryd.f25)) (aq [0,0,1,0,1,1] N1s) ⟨mkE 30 0 [(1,.ptr 0 0),(2,.ptr 1 0),(3,.ptr 2 0),(4,dI a)],[some (.box [dL b,.dat (.list (.list (.int .i64))) c]),some (.box [.nils,.nils]),some (.box [.slc 3,.slc 4]),some (sI d),some (.nest (.int .i64) g 0 [])]⟩ (N3d a c g) (Sum.elim (fun (t : Int × (List (List Int))) => (Exit.normal,⟨mkE 30 0 [(1,.ptr 0 0),(2,.ptr 1 0),(3,.ptr 2 0),(4,dI t.1)],[some (.box [dL b,.dat (.list (.list (.int .i64))) c]),some (.box [.nils,.nils]),some (.box [.slc 3,.slc 4]),some (sI d),some (.nest (.int .i64) t.2 0 [])]⟩)) (fun (t : (List (List Int))) => ((Exit.exit 0),⟨mkE 30 0 [(2,.ptr 0 0),(3,.ptr 1 0)],[some (.box [.nils,.nils]),some (.box [.slc 2,.slc 3]),some (sI d),some (.nest (.int .i64) t 0 [])]⟩))) := .of fun K h => by
  simp only [N3d,wpW] at h
  exact .of (by kernel_rfl) h
theorem Nuh (a : List Int) (b : List (List Int)) : Link N3z LL (cq [1,1,1] (bodyOf Tryd.f25)) (aq [1,1,1] N1s) ⟨mkE 30 0 [(2,.ptr 0 0),(3,.ptr 1 0)],[some (.box [.nils,.nils]),some (.box [.slc 2,.slc 3]),some (sI a),some (.nest (.int .i64) b 0 [])]⟩ (N7i a b) (fun (t : (List Int) × (List (List Int))) => (Exit.ret,⟨mkE 30 0 [(2,.ptr 0 0)],[some (.box [.slc 1,.slc 2]),some (sI t.1),some (.nest (.int .i64) t.2 0 [])]⟩)) := .of fun K h => by
  simp only [N7i,wpW] at h
  exact .of (by kernel_rfl) h
theorem Ntl (b : List Int) (d : List (List Int)) {r : AV} {H' : Heap} (h : (Ans.mk _ (N2d b d) (fun (t : (List Int) × (List (List Int))) => (.agg [.slc 1,.slc 2],[some (.box [.slc 1,.slc 2]),some (sI t.1),some (.nest (.int .i64) t.2 0 [])])) [] none).run = some (r,H')) : Awp N3z LL (bodyOf Tryd.f25) N1s ⟨mkE 30 0 [(0,.agg [dL b,.dat (.list (.list (.int .i64))) d])],[]⟩ (Ret (tlook tys) Tryd.f25.results.toList r H') :=
  ret_of' (Link.cast (by kernel_rfl) (by kernel_rfl) (link_group (c := (cq [0,1] (bodyOf Tryd.f25))) (a := (aq [0,1] N1s)) [(cq [0] (bodyOf Tryd.f25))] [(aq [0] N1s)] rfl (link_seq (Np2 b d) (fun (t : (List Int)) => (link_seq (link_seq (Nu7 b d t) (fun (t36 : Unit) => (link_block (fin2 := (fun (t36 : (List (List Int))) => (Exit.normal,⟨mkE 30 0 [(2,.ptr 0 0),(3,.ptr 1 0)],[some (.box [.nils,.nils]),some (.box [.slc 2,.slc 3]),some (sI t),some (.nest (.int .i64) t36 0 [])]⟩))) (id := 0) (link_loop (mk := fun (s : Int × (List (List Int))) => ⟨mkE 30 0 [(1,.ptr 0 0),(2,.ptr 1 0),(3,.ptr 2 0),(4,dI s.1)],[some (.box [dL b,.dat (.list (.list (.int .i64))) d]),some (.box [.nils,.nils]),some (.box [.slc 3,.slc 4]),some (sI t),some (.nest (.int .i64) s.2 0 [])]⟩) (fin := (fun (t36 : (List (List Int))) => ((Exit.exit 0),⟨mkE 30 0 [(2,.ptr 0 0),(3,.ptr 1 0)],[some (.box [.nils,.nils]),some (.box [.slc 2,.slc 3]),some (sI t),some (.nest (.int .i64) t36 0 [])]⟩))) (by
  rintro t36 f K h
  · exact h) (fun s => link_map (Nph s.1 b d t s.2) (Sum.elim (fun (t36 : Int × (List (List Int))) => Sum.inl (t36.1,t36.2)) (fun (t36 : (List (List Int))) => Sum.inr t36)) (by
  rintro (t36 | t36)
  · kernel_rfl
  · kernel_rfl)) (0,([] : List (List Int)))) (fun (t36 : (List (List Int))) => t36) (by
  rintro t36 K h
  · exact Eq.mp (by kernel_rfl) h)))) (fun (t36 : (List (List Int))) => (Nuh t t36))))))) (by unfold N2d; kernel_rfl) (by
  intro t
  exact ret_mk [.agg [.slc 1,.slc 2]] (by kernel_rfl) (by kernel_rfl) (by kernel_rfl) (by kernel_rfl)) h
def Neu : Fun := fun avs H =>
  match avs,H with
  | [.agg [.dat (.list (.int .i64)) a,.dat (.list (.list (.int .i64))) b]],[] => ⟨_,N2d a b,fun (t : (List Int) × (List (List Int))) => (.agg [.slc 1,.slc 2],[some (.box [.slc 1,.slc 2]),some (sI t.1),some (.nest (.int .i64) t.2 0 [])]),[],none⟩
  | _,_ => Ans.no
theorem N10e : Sound Tryd.prog 25 Neu := by
  refine fn_sound' (C := N3z) (c := bodyOf Tryd.f25) (cok_of tys_ok (alln) (alln) (by kernel_rfl)) Tryd.func25 (by kernel_rfl) LL N1s ?_
  intro avs H r H' h
  unfold Neu at h
  split at h
  · refine Awp.cast ?_ ?_ ?_ (Ntl _ _ h) <;> kernel_rfl
  · simp [Ans.no,Ans.run] at h

def Nm : Ann := (.seq (.leaf [0]) (.seq (.leaf [0,3]) (.seq (.leaf [0,3,4]) (.seq (.seq (.leaf [0,3,4,5]) (.block (.loop (.seq (.seq (.leaf [0,3,4,5,16]) (.cond (.leaf [0,3,4,5]) (.leaf [3]))) (.seq (.block (.seq (.leaf [0,3,4,5,23]) (.cond (.leaf [0,3,4,5]) (.leaf [0,3,4,5])))) (.leaf [0,3,4,5])))))) (.seq (.leaf [2]) (.leaf [2]))))))
noncomputable def N3r : Ctx := ⟨tlook tys,olook [(27,Nw)],ioF,0,false,[]⟩
theorem N101 (a : List Int) : Link N3r LL (Code.seq (cq [0] (bodyOf Tryd.f47)) (Code.seq (cq [0,1] (bodyOf Tryd.f47)) (cq [0,1,1] (bodyOf Tryd.f47)))) (Ann.seq (aq [0] Nm) (Ann.seq (aq [0,1] Nm) (aq [0,1,1] Nm))) ⟨mkE 38 0 [(0,dL a)],[]⟩ (N9u a) (fun (t : Int) => (Exit.normal,⟨mkE 38 0 [(0,dL a),(3,.slc 0),(4,dI t)],[some (sI ([] : List Int))]⟩)) := .of fun K h => by
  simp only [N9u,wpW] at h
  exact .of (by kernel_rfl) h
theorem Nnh (a : List Int) (b : Int) : Link N3r LL (cq [0,0,1,1,1] (bodyOf Tryd.f47)) (aq [0,0,1,1,1] Nm) ⟨mkE 38 0 [(0,dL a),(3,.slc 0),(4,dI b)],[some (sI ([] : List Int))]⟩ (N8g b) (fun (t : Int) => (Exit.normal,⟨mkE 38 0 [(0,dL a),(3,.slc 0),(4,dI b),(5,dI t)],[some (sI ([] : List Int))]⟩)) := .of fun K h => by
  simp only [N8g,wpW] at h
  exact .of (by kernel_rfl) h
theorem Nqn (a : List Int) (b c : Int) (d : List Int) : Link N3r LL (cq [0,0,1,0,1,1,1] (bodyOf Tryd.f47)) (aq [0,0,1,0,1,1,1] Nm) ⟨mkE 38 0 [(0,dL a),(3,.slc 0),(4,dI b),(5,dI c)],[some (sI d)]⟩ (N20 a b c d) (Sum.elim (fun (t : Int × (List Int)) => (Exit.normal,⟨mkE 38 0 [(0,dL a),(3,.slc 0),(4,dI b),(5,dI t.1)],[some (sI t.2)]⟩)) (fun (t : (List Int)) => ((Exit.exit 0),⟨mkE 38 0 [(3,.slc 0)],[some (sI t)]⟩))) := .of fun K h => by
  simp only [N20,wpW] at h
  exact .of (by kernel_rfl) h
theorem Npj (a : List Int) : Link N3r LL (cq [1,1,1,1] (bodyOf Tryd.f47)) (aq [1,1,1,1] Nm) ⟨mkE 38 0 [(3,.slc 0)],[some (sI a)]⟩ (N68 a) (fun (t : (List Int)) => (Exit.ret,⟨mkE 38 0 [(2,.slc 0)],[some (sI t)]⟩)) := .of fun K h => by
  simp only [N68,wpW] at h
  exact .of (by kernel_rfl) h
theorem Nsc (b : List Int) {r : AV} {H' : Heap} (h : (Ans.mk _ (N1o b) (fun (t : (List Int)) => (.slc 0,[some (sI t)])) [] none).run = some (r,H')) : Awp N3r LL (bodyOf Tryd.f47) Nm ⟨mkE 38 0 [(0,dL b)],[]⟩ (Ret (tlook tys) Tryd.f47.results.toList r H') :=
  ret_of' (Link.cast (by kernel_rfl) (by kernel_rfl) (link_group (c := (cq [0,1,1] (bodyOf Tryd.f47))) (a := (aq [0,1,1] Nm)) [(cq [0] (bodyOf Tryd.f47)),(cq [0,1] (bodyOf Tryd.f47))] [(aq [0] Nm),(aq [0,1] Nm)] rfl (link_seq (N101 b) (fun (t : Int) => (link_seq (link_seq (Nnh b t) (fun (t37 : Int) => (link_block (fin2 := (fun (t13 : (List Int)) => (Exit.normal,⟨mkE 38 0 [(3,.slc 0)],[some (sI t13)]⟩))) (id := 0) (link_loop (mk := fun (s : Int × (List Int)) => ⟨mkE 38 0 [(0,dL b),(3,.slc 0),(4,dI t),(5,dI s.1)],[some (sI s.2)]⟩) (fin := (fun (t13 : (List Int)) => ((Exit.exit 0),⟨mkE 38 0 [(3,.slc 0)],[some (sI t13)]⟩))) (by
  rintro t13 f K h
  · exact h) (fun s => link_map (Nqn b t s.1 s.2) (Sum.elim (fun (t13 : Int × (List Int)) => Sum.inl (t13.1,t13.2)) (fun (t13 : (List Int)) => Sum.inr t13)) (by
  rintro (t13 | t13)
  · kernel_rfl
  · kernel_rfl)) (t37,([] : List Int))) (fun (t13 : (List Int)) => t13) (by
  rintro t13 K h
  · exact Eq.mp (by kernel_rfl) h)))) (fun (t37 : (List Int)) => (Npj t37))))))) (by unfold N1o; kernel_rfl) (by
  intro t
  exact ret_mk [.slc 0] (by kernel_rfl) (by kernel_rfl) (by kernel_rfl) (by kernel_rfl)) h
def Nb7 : Fun := fun avs H =>
  match avs,H with
  | [.dat (.list (.int .i64)) a],[] => ⟨_,N1o a,fun (t : (List Int)) => (.slc 0,[some (sI t)]),[],none⟩
  | _,_ => Ans.no
theorem Nkx : Sound Tryd.prog 47 Nb7 := by
  refine fn_sound' (C := N3r) (c := bodyOf Tryd.f47) (cok_of tys_ok (allc N22 alln) (allc Tryd.call27 alln) (by kernel_rfl)) Tryd.func47 (by kernel_rfl) LL Nm ?_
  intro avs H r H' h
  unfold Nb7 at h
  split at h
  · refine Awp.cast ?_ ?_ ?_ (Nsc _ h) <;> kernel_rfl
  · simp [Ans.no,Ans.run] at h

def N4f : Ann := (.seq (.leaf [0]) (.seq (.seq (.leaf [0,3]) (.block (.loop (.seq (.seq (.leaf [0,3,11]) (.cond (.leaf [0,3]) (.leaf []))) (.seq (.block (.seq (.leaf [0,3,18]) (.cond (.seq (.leaf [2]) (.leaf [2])) (.leaf [0,3])))) (.leaf [0,3])))))) (.seq (.leaf [2]) (.leaf [2]))))
noncomputable def N3h : Ctx := ⟨tlook tys,olook [(27,Nw)],ioF,0,false,[]⟩
theorem Nzb (a : List Int) : Link N3h LL (cq [0] (bodyOf Tryd.f74)) (aq [0] N4f) ⟨mkE 21 0 [(0,dL a)],[]⟩ (N6l) (fun (t : Unit) => (Exit.normal,⟨mkE 21 0 [(0,dL a)],[]⟩)) := .of fun K h => by
  simp only [N6l,wpW] at h
  exact .of (by kernel_rfl) h
theorem Noh (a : List Int) : Link N3h LL (cq [0,0,1] (bodyOf Tryd.f74)) (aq [0,0,1] N4f) ⟨mkE 21 0 [(0,dL a)],[]⟩ (N90) (fun (t : Unit) => (Exit.normal,⟨mkE 21 0 [(0,dL a),(3,dI 0)],[]⟩)) := .of fun K h => by
  simp only [N90,wpW] at h
  exact .of (by kernel_rfl) h
theorem Nqq (a : List Int) (b : Int) : Link N3h LL (cq [0,0,1,0,1] (bodyOf Tryd.f74)) (aq [0,0,1,0,1] N4f) ⟨mkE 21 0 [(0,dL a),(3,dI b)],[]⟩ (N2a a b) (Sum.elim (fun (t : Int) => (Exit.normal,⟨mkE 21 0 [(0,dL a),(3,dI t)],[]⟩)) (Sum.elim (fun (t : Int) => (Exit.ret,⟨mkE 21 0 [(2,dI t)],[]⟩)) (fun (t : Unit) => ((Exit.exit 0),⟨mkE 21 0 [],[]⟩)))) := .of fun K h => by
  simp only [N2a,wpW] at h
  exact .of (by kernel_rfl) h
theorem Ntx : Link N3h LL (cq [1,1] (bodyOf Tryd.f74)) (aq [1,1] N4f) ⟨mkE 21 0 [],[]⟩ (N6a) (fun (t : Int) => (Exit.ret,⟨mkE 21 0 [(2,dI t)],[]⟩)) := .of fun K h => by
  simp only [N6a,wpW] at h
  exact .of (by kernel_rfl) h
theorem Nup (a : List Int) {r : AV} {H' : Heap} (h : (Ans.mk _ (N3m a) (fun (t : Int) => (dI t,[])) [] none).run = some (r,H')) : Awp N3h LL (bodyOf Tryd.f74) N4f ⟨mkE 21 0 [(0,dL a)],[]⟩ (Ret (tlook tys) Tryd.f74.results.toList r H') :=
  ret_of' (Link.cast (by kernel_rfl) (by kernel_rfl) (link_seq (Nzb a) (fun (t : Unit) => (link_seq2 (link_seq (Noh a) (fun (t : Unit) => (link_block (fin2 := (Sum.elim (fun (t : Unit) => (Exit.normal,⟨mkE 21 0 [],[]⟩)) (fun (t : Int) => (Exit.ret,⟨mkE 21 0 [(2,dI t)],[]⟩)))) (id := 0) (link_loop (mk := fun (s : Int) => ⟨mkE 21 0 [(0,dL a),(3,dI s)],[]⟩) (fin := (Sum.elim (fun (t : Int) => (Exit.ret,⟨mkE 21 0 [(2,dI t)],[]⟩)) (fun (t : Unit) => ((Exit.exit 0),⟨mkE 21 0 [],[]⟩)))) (by
  rintro (t | t) f K h
  · exact h
  · exact h) (fun s => link_map (Nqq a s) (Sum.elim (fun (t : Int) => Sum.inl t) (Sum.elim (fun (t : Int) => Sum.inr (Sum.inl t)) (fun (t : Unit) => Sum.inr (Sum.inr t)))) (by
  rintro (t | t | t)
  · kernel_rfl
  · kernel_rfl
  · kernel_rfl)) 0) (Sum.elim (fun (t : Int) => (Sum.inr t)) (fun (t : Unit) => (Sum.inl ()))) (by
  rintro (t | t) K h
  · exact Eq.mp (by kernel_rfl) h
  · exact Eq.mp (by kernel_rfl) h)))) (fun (t : Unit) => (Ntx)) (fun (t : Int) => t) (by
  rintro t
  · kernel_rfl) (by
  rintro t f K h
  · exact h))))) (by unfold N3m; kernel_rfl) (by
  intro t
  exact ret_mk [dI t] (by kernel_rfl) (by kernel_rfl) (by kernel_rfl) (by kernel_rfl)) h
def Nai : Fun := fun avs H =>
  match avs,H with
  | [.dat (.list (.int .i64)) a],[] => ⟨_,N3m a,fun (t : Int) => (dI t,[]),[],none⟩
  | _,_ => Ans.no
theorem Nqp : Sound Tryd.prog 74 Nai := by
  refine fn_sound' (C := N3h) (c := bodyOf Tryd.f74) (cok_of tys_ok (allc N22 alln) (allc Tryd.call27 alln) (by kernel_rfl)) Tryd.func74 (by kernel_rfl) LL N4f ?_
  intro avs H r H' h
  unfold Nai at h
  split at h
  · refine Awp.cast ?_ ?_ ?_ (Nup _ h) <;> kernel_rfl
  · simp [Ans.no,Ans.run] at h

def Ng : Ann := (.seq (.leaf [0,1]) (.seq (.leaf [0,1,5]) (.seq (.seq (.leaf [0,1,5,6]) (.block (.loop (.seq (.seq (.leaf [0,1,5,6,11]) (.cond (.leaf [0,1,5,6]) (.leaf [0,1,5]))) (.seq (.block (.seq (.leaf [0,1,5,6,20]) (.cond (.leaf [0,1,5,6]) (.leaf [0,1,5,6])))) (.leaf [0,1,5,6])))))) (.seq (.leaf [0,1,5]) (.seq (.seq (.leaf [0,1,5,7]) (.block (.loop (.seq (.seq (.leaf [0,1,5,7,35]) (.cond (.leaf [0,1,5,7]) (.leaf [5]))) (.seq (.block (.seq (.leaf [0,1,5,7,44]) (.cond (.leaf [0,1,5,7]) (.leaf [0,1,5,7])))) (.leaf [0,1,5,7])))))) (.seq (.leaf [4]) (.leaf [4])))))))
def N1g (n : Nat) : Fun := fun avs H =>
  match avs,H with
  | [.dat (.list (.int .i64)) a,.dat (.int .i64) b],[] => ⟨_,N9 n a b,fun (t : (List Int)) => (.slc 0,[some (sI t)]),[],none⟩
  | _,_ => Ans.no
noncomputable def N1a (n : Nat) : Ctx := ⟨tlook tys,olook [(73,N1g n)],ioF,0,false,[]⟩
theorem Nv4 (n : Nat) (a : List Int) (b : Int) : Link (N1a n) LL (Code.seq (cq [0] (bodyOf Tryd.f73)) (cq [0,1] (bodyOf Tryd.f73))) (Ann.seq (aq [0] Ng) (aq [0,1] Ng)) ⟨mkE 51 0 [(0,dL a),(1,dI b)],[]⟩ (N6y (N9 n)) (fun (t : Unit) => (Exit.normal,⟨mkE 51 0 [(0,dL a),(1,dI b),(5,.slc 0)],[some (sI ([] : List Int))]⟩)) := .of fun K h => by
  simp only [N6y,wpW] at h
  exact .of (by kernel_rfl) h
theorem Nq0 (n : Nat) (a : List Int) (b : Int) : Link (N1a n) LL (cq [0,0,1,1] (bodyOf Tryd.f73)) (aq [0,0,1,1] Ng) ⟨mkE 51 0 [(0,dL a),(1,dI b),(5,.slc 0)],[some (sI ([] : List Int))]⟩ (N7v (N9 n)) (fun (t : Unit) => (Exit.normal,⟨mkE 51 0 [(0,dL a),(1,dI b),(5,.slc 0),(6,dI 1)],[some (sI ([] : List Int))]⟩)) := .of fun K h => by
  simp only [N7v,wpW] at h
  exact .of (by kernel_rfl) h
theorem Nya (n : Nat) (a : List Int) (b c : Int) (d : List Int) : Link (N1a n) LL (cq [0,0,1,0,1,1] (bodyOf Tryd.f73)) (aq [0,0,1,0,1,1] Ng) ⟨mkE 51 0 [(0,dL a),(1,dI b),(5,.slc 0),(6,dI c)],[some (sI d)]⟩ (N4e (N9 n) a b c d) (Sum.elim (fun (t : Int × (List Int)) => (Exit.normal,⟨mkE 51 0 [(0,dL a),(1,dI b),(5,.slc 0),(6,dI t.1)],[some (sI t.2)]⟩)) (fun (t : (List Int)) => ((Exit.exit 0),⟨mkE 51 0 [(0,dL a),(1,dI b),(5,.slc 0)],[some (sI t)]⟩))) := .of fun K h => by
  simp only [N4e,wpW] at h
  exact .of (by kernel_rfl) h
theorem Nra (n : Nat) (a : List Int) (b : Int) (c : List Int) : Link (N1a n) LL (cq [0,1,1,1] (bodyOf Tryd.f73)) (aq [0,1,1,1] Ng) ⟨mkE 51 0 [(0,dL a),(1,dI b),(5,.slc 0)],[some (sI c)]⟩ (N6o (N9 n) b c) (fun (t : (List Int)) => (Exit.normal,⟨mkE 51 0 [(0,dL a),(1,dI b),(5,.slc 0)],[some (sI t)]⟩)) := .of fun K h => by
  simp only [N6o,wpW] at h
  exact .of (by kernel_rfl) h
theorem Nv7 (n : Nat) (a : List Int) (b : Int) (c : List Int) : Link (N1a n) LL (cq [0,0,1,1,1,1] (bodyOf Tryd.f73)) (aq [0,0,1,1,1,1] Ng) ⟨mkE 51 0 [(0,dL a),(1,dI b),(5,.slc 0)],[some (sI c)]⟩ (N8d (N9 n) b) (fun (t : Int) => (Exit.normal,⟨mkE 51 0 [(0,dL a),(1,dI b),(5,.slc 0),(7,dI t)],[some (sI c)]⟩)) := .of fun K h => by
  simp only [N8d,wpW] at h
  exact .of (by kernel_rfl) h
theorem Ns2 (n : Nat) (a : List Int) (b c : Int) (d : List Int) : Link (N1a n) LL (cq [0,0,1,0,1,1,1,1] (bodyOf Tryd.f73)) (aq [0,0,1,0,1,1,1,1] Ng) ⟨mkE 51 0 [(0,dL a),(1,dI b),(5,.slc 0),(7,dI c)],[some (sI d)]⟩ (N48 (N9 n) a b c d) (Sum.elim (fun (t : Int × (List Int)) => (Exit.normal,⟨mkE 51 0 [(0,dL a),(1,dI b),(5,.slc 0),(7,dI t.1)],[some (sI t.2)]⟩)) (fun (t : (List Int)) => ((Exit.exit 2),⟨mkE 51 0 [(5,.slc 0)],[some (sI t)]⟩))) := .of fun K h => by
  simp only [N48,wpW] at h
  exact .of (by kernel_rfl) h
theorem Nwt (n : Nat) (a : List Int) : Link (N1a n) LL (cq [1,1,1,1,1] (bodyOf Tryd.f73)) (aq [1,1,1,1,1] Ng) ⟨mkE 51 0 [(5,.slc 0)],[some (sI a)]⟩ (N9e (N9 n) a) (fun (t : (List Int)) => (Exit.ret,⟨mkE 51 0 [(4,.slc 0)],[some (sI t)]⟩)) := .of fun K h => by
  simp only [N9e,wpW] at h
  exact .of (by kernel_rfl) h
theorem Nqa (n : Nat) (b : List Int) (d : Int) {r : AV} {H' : Heap} (h : (Ans.mk _ (N9 (n + 1) b d) (fun (t : (List Int)) => (.slc 0,[some (sI t)])) [] none).run = some (r,H')) : Awp (N1a n) LL (bodyOf Tryd.f73) Ng ⟨mkE 51 0 [(0,dL b),(1,dI d)],[]⟩ (Ret (tlook tys) Tryd.f73.results.toList r H') :=
  ret_of' (Link.cast (by kernel_rfl) (by kernel_rfl) (link_group (c := (cq [0,1] (bodyOf Tryd.f73))) (a := (aq [0,1] Ng)) [(cq [0] (bodyOf Tryd.f73))] [(aq [0] Ng)] rfl (link_seq (Nv4 n b d) (fun (t : Unit) => (link_seq (link_seq (Nq0 n b d) (fun (t : Unit) => (link_block (fin2 := (fun (t : (List Int)) => (Exit.normal,⟨mkE 51 0 [(0,dL b),(1,dI d),(5,.slc 0)],[some (sI t)]⟩))) (id := 0) (link_loop (mk := fun (s : Int × (List Int)) => ⟨mkE 51 0 [(0,dL b),(1,dI d),(5,.slc 0),(6,dI s.1)],[some (sI s.2)]⟩) (fin := (fun (t : (List Int)) => ((Exit.exit 0),⟨mkE 51 0 [(0,dL b),(1,dI d),(5,.slc 0)],[some (sI t)]⟩))) (by
  rintro t f K h
  · exact h) (fun s => link_map (Nya n b d s.1 s.2) (Sum.elim (fun (t : Int × (List Int)) => Sum.inl (t.1,t.2)) (fun (t : (List Int)) => Sum.inr t)) (by
  rintro (t | t)
  · kernel_rfl
  · kernel_rfl)) (1,([] : List Int))) (fun (t : (List Int)) => t) (by
  rintro t K h
  · exact Eq.mp (by kernel_rfl) h)))) (fun (t : (List Int)) => (link_seq (Nra n b d t) (fun (t50 : (List Int)) => (link_seq (link_seq (Nv7 n b d t50) (fun (t38 : Int) => (link_block (fin2 := (fun (t14 : (List Int)) => (Exit.normal,⟨mkE 51 0 [(5,.slc 0)],[some (sI t14)]⟩))) (id := 2) (link_loop (mk := fun (s : Int × (List Int)) => ⟨mkE 51 0 [(0,dL b),(1,dI d),(5,.slc 0),(7,dI s.1)],[some (sI s.2)]⟩) (fin := (fun (t14 : (List Int)) => ((Exit.exit 2),⟨mkE 51 0 [(5,.slc 0)],[some (sI t14)]⟩))) (by
  rintro t14 f K h
  · exact h) (fun s => link_map (Ns2 n b d s.1 s.2) (Sum.elim (fun (t14 : Int × (List Int)) => Sum.inl (t14.1,t14.2)) (fun (t14 : (List Int)) => Sum.inr t14)) (by
  rintro (t14 | t14)
  · kernel_rfl
  · kernel_rfl)) (t38,t50)) (fun (t14 : (List Int)) => t14) (by
  rintro t14 K h
  · exact Eq.mp (by kernel_rfl) h)))) (fun (t38 : (List Int)) => (Nwt n t38))))))))))) (by (show _ = _); kernel_rfl) (by
  intro t
  exact ret_mk [.slc 0] (by kernel_rfl) (by kernel_rfl) (by kernel_rfl) (by kernel_rfl)) h
theorem Npg (n : Nat) (h73 : Sound Tryd.prog 73 (N1g n)) : Sound Tryd.prog 73 (N1g (n + 1)) := by
  refine fn_sound' (C := N1a n) (c := bodyOf Tryd.f73) (cok_of tys_ok (allc h73 alln) (allc Tryd.call73 alln) (by kernel_rfl)) Tryd.func73 (by kernel_rfl) LL Ng ?_
  intro avs H r H' h
  unfold N1g at h
  split at h
  · refine Awp.cast ?_ ?_ ?_ (Nqa n _ _ h) <;> kernel_rfl
  · simp [Ans.no,Ans.run] at h
theorem Nqt : Sound Tryd.prog 73 (N1g 0) := by
  intro avs H r H' h
  unfold N1g at h
  split at h
  · simp [N9,N30,Ans.run] at h
  · simp [Ans.no,Ans.run] at h
theorem Njk : ∀ n,Sound Tryd.prog 73 (N1g n)
  | 0 => Nqt
  | n + 1 => by
    have h73 := Njk n
    exact Npg n h73
def N7x : Fun := fun avs H =>
  match avs,H with
  | [.dat (.list (.int .i64)) a,.dat (.int .i64) b],[] => ⟨_,N63 a b,fun (t : (List Int)) => (.slc 0,[some (sI t)]),[],none⟩
  | _,_ => Ans.no
theorem Nqi : Sound Tryd.prog 73 N7x := by
  have e : N7x = N1g RR := by
    funext avs H
    unfold N7x N1g
    split <;> first | rfl | (simp only [N63])
  rw [e]
  exact (Njk RR)

def Nfd : Ann := (.seq (.leaf [0]) (.seq (.seq (.leaf [0,5]) (.cond (.seq (.leaf [2]) (.leaf [2])) (.leaf [0]))) (.seq (.leaf [2]) (.leaf [2]))))
noncomputable def Nea : Ctx := ⟨tlook tys,olook [(27,Nw),(74,Nai),(73,N7x)],ioF,0,false,[]⟩
theorem Nyr (a : List Int) : Link Nea LL (bodyOf Tryd.f63) Nfd ⟨mkE 11 0 [(0,dL a)],[]⟩ (Na5 a) (fun (t : (List Int)) => (Exit.ret,⟨mkE 11 0 [(2,.slc 0)],[some (sI t)]⟩)) := .of fun K h => by
  simp only [Na5,wpW] at h
  exact .of (by kernel_rfl) h
theorem Nm8 (a : List Int) {r : AV} {H' : Heap} (h : (Ans.mk _ (N43 a) (fun (t : (List Int)) => (.slc 0,[some (sI t)])) [] none).run = some (r,H')) : Awp Nea LL (bodyOf Tryd.f63) Nfd ⟨mkE 11 0 [(0,dL a)],[]⟩ (Ret (tlook tys) Tryd.f63.results.toList r H') :=
  ret_of' (Nyr a) (by unfold N43; kernel_rfl) (by
  intro t
  exact ret_mk [.slc 0] (by kernel_rfl) (by kernel_rfl) (by kernel_rfl) (by kernel_rfl)) h
def Nac : Fun := fun avs H =>
  match avs,H with
  | [.dat (.list (.int .i64)) a],[] => ⟨_,N43 a,fun (t : (List Int)) => (.slc 0,[some (sI t)]),[],none⟩
  | _,_ => Ans.no
theorem Nmj : Sound Tryd.prog 63 Nac := by
  refine fn_sound' (C := Nea) (c := bodyOf Tryd.f63) (cok_of tys_ok (allc N22 (allc Nqp (allc Nqi alln))) (allc Tryd.call27 (allc Tryd.call74 (allc Tryd.call73 alln))) (by kernel_rfl)) Tryd.func63 (by kernel_rfl) LL Nfd ?_
  intro avs H r H' h
  unfold Nac at h
  split at h
  · refine Awp.cast ?_ ?_ ?_ (Nm8 _ h) <;> kernel_rfl
  · simp [Ans.no,Ans.run] at h

def Ndi : Ann := (.seq (.leaf [0]) (.seq (.leaf [3]) (.seq (.leaf [2]) (.leaf [2]))))
noncomputable def Naj : Ctx := ⟨tlook tys,olook [(63,Nac),(57,N6k)],ioF,0,false,[]⟩
theorem Nst (a : List Int) : Link Naj LL (bodyOf Tryd.f48) Ndi ⟨mkE 13 0 [(0,dL a)],[]⟩ (N9z a) (fun (t : (List Int)) => (Exit.ret,⟨mkE 13 0 [(2,.slc 0)],[some (sI t)]⟩)) := .of fun K h => by
  simp only [N9z,wpW] at h
  exact .of (by kernel_rfl) h
theorem Nt6 (a : List Int) {r : AV} {H' : Heap} (h : (Ans.mk _ (N29 a) (fun (t : (List Int)) => (.slc 0,[some (sI t)])) [] none).run = some (r,H')) : Awp Naj LL (bodyOf Tryd.f48) Ndi ⟨mkE 13 0 [(0,dL a)],[]⟩ (Ret (tlook tys) Tryd.f48.results.toList r H') :=
  ret_of' (Nst a) (by unfold N29; kernel_rfl) (by
  intro t
  exact ret_mk [.slc 0] (by kernel_rfl) (by kernel_rfl) (by kernel_rfl) (by kernel_rfl)) h
def Nbi : Fun := fun avs H =>
  match avs,H with
  | [.dat (.list (.int .i64)) a],[] => ⟨_,N29 a,fun (t : (List Int)) => (.slc 0,[some (sI t)]),[],none⟩
  | _,_ => Ans.no
theorem Nln : Sound Tryd.prog 48 Nbi := by
  refine fn_sound' (C := Naj) (c := bodyOf Tryd.f48) (cok_of tys_ok (allc Nmj (allc Nj6 alln)) (allc Tryd.call63 (allc Tryd.call57 alln)) (by kernel_rfl)) Tryd.func48 (by kernel_rfl) LL Ndi ?_
  intro avs H r H' h
  unfold Nbi at h
  split at h
  · refine Awp.cast ?_ ?_ ?_ (Nt6 _ h) <;> kernel_rfl
  · simp [Ans.no,Ans.run] at h

def Neh : Ann := (.seq (.leaf [0,3]) (.seq (.leaf [0,3,5]) (.seq (.block (.seq (.leaf [0,3,5,9]) (.cond (.seq (.leaf [5]) (.seq (.leaf [4]) (.leafF [⟨0,4,true,none,none⟩] [4]))) (.seq (.leaf [0,3,5,28]) (.cond (.seq (.leaf [4]) (.leafF [⟨0,4,true,none,none⟩] [4])) (.seq (.leaf [0,3,5,39]) (.cond (.seq (.leaf [4]) (.leaf [4])) (.seq (.leaf [0,3,48]) (.cond (.seq (.leaf [4]) (.leafF [⟨0,4,true,none,none⟩] [4])) (.seq (.leaf [0,54]) (.cond (.seq (.leaf [4]) (.leafF [⟨0,4,true,none,none⟩] [4])) (.leaf [])))))))))))) (.seq (.leaf [4]) (.leafF [⟨0,4,true,none,none⟩] [4])))))
noncomputable def Nep : Ctx := ⟨tlook tys,olook [(46,N61),(47,Nb7),(48,Nbi)],ioF,0,false,[]⟩
theorem Non (a : List Int) (b c d : Int) : Link Nep LL (bodyOf Tryd.f26) Neh ⟨mkE 61 0 [(0,dL a),(1,.agg [dI b,dI c,dI d])],[]⟩ (N57 a b c d) (fun (t : Nat × (List Int)) => (Exit.ret,⟨mkE 61 0 [(4,.win 0 0 t.1)],[some (sI t.2)]⟩)) := .of fun K h => by
  simp only [N57,wpW] at h
  exact .of (by kernel_rfl) h
theorem Nw2 (a : List Int) (b c d : Int) {r : AV} {H' : Heap} (h : (Ans.mk _ (N1u a b c d) (fun (t : Nat × (List Int)) => (.win 0 0 t.1,[some (sI t.2)])) [] none).run = some (r,H')) : Awp Nep LL (bodyOf Tryd.f26) Neh ⟨mkE 61 0 [(0,dL a),(1,.agg [dI b,dI c,dI d])],[]⟩ (Ret (tlook tys) Tryd.f26.results.toList r H') :=
  ret_of' (Non a b c d) (by unfold N1u; kernel_rfl) (by
  intro t
  exact ret_mk [.win 0 0 t.1] (by kernel_rfl) (by kernel_rfl) (by kernel_rfl) (by kernel_rfl)) h
def Ndn : Fun := fun avs H =>
  match avs,H with
  | [.dat (.list (.int .i64)) a,.agg [.dat (.int .i64) b,.dat (.int .i64) c,.dat (.int .i64) d]],[] => ⟨_,N1u a b c d,fun (t : Nat × (List Int)) => (.win 0 0 t.1,[some (sI t.2)]),[],none⟩
  | _,_ => Ans.no
theorem Nzm : Sound Tryd.prog 26 Ndn := by
  refine fn_sound' (C := Nep) (c := bodyOf Tryd.f26) (cok_of tys_ok (allc Ncl (allc Nkx (allc Nln alln))) (allc Tryd.call46 (allc Tryd.call47 (allc Tryd.call48 alln))) (by kernel_rfl)) Tryd.func26 (by kernel_rfl) LL Neh ?_
  intro avs H r H' h
  unfold Ndn at h
  split at h
  · refine Awp.cast ?_ ?_ ?_ (Nw2 _ _ _ _ h) <;> kernel_rfl
  · simp [Ans.no,Ans.run] at h

def N6 : Ann := (.seq (.leaf [2,3,4]) (.seq (.seq (.leaf [2,3,4,13]) (.cond (.seq (.leaf [4,5]) (.leafF [⟨0,4,false,some 0,some (.int .i64)⟩,⟨0,4,true,some 1,some (.int .i64)⟩] [4,5])) (.leaf [2,3,4]))) (.seq (.leaf [2,3,4,6]) (.seq (.seq (.leaf [2,3,4,6,25]) (.cond (.seq (.leaf [4,6,7]) (.seq (.leaf [4,6,7]) (.seq (.leaf [4,6]) (.seq (.leaf [4,5]) (.leaf [4,5]))))) (.leaf [2,3,4,6]))) (.seq (.leaf [2,4,6,8]) (.seq (.leaf [2,4,6,8,9]) (.seq (.seq (.leaf [2,4,6,8,9,10]) (.block (.loop (.seq (.seq (.leaf [2,4,6,8,9,10,58]) (.cond (.leaf [2,4,6,8,10]) (.leaf [4,6,8,9]))) (.seq (.block (.draw [] [0,1,2,3,4,5,6,7,8,9,10] [] [2,4,6,8,9,10])) (.leaf [2,4,6,8,9,10])))))) (.seq (.seq (.leaf [4,6,8,76]) (.cond (.seq (.leaf [4,5]) (.leaf [4,5])) (.leaf [4,6,8]))) (.seq (.leaf [4,6,8]) (.seq (.seq (.leaf [4,6,8,88]) (.cond (.leaf [4,6,8]) (.leaf [4,6,8]))) (.seq (.leaf [4,6]) (.seq (.leaf [4,5]) (.leaf [4,5])))))))))))))
noncomputable def N40 : Ctx := ⟨tlook tys,olook [(16,Nb4),(25,Neu),(26,Ndn),(27,Nw)],ioF,0,true,[]⟩
theorem Nty (a : List Int) (b : List (List Int)) (c d g : Int) : Link N40 LL (Code.seq (cq [0] (bodyOf Tryd.f7)) (Code.seq (cq [0,1] (bodyOf Tryd.f7)) (Code.seq (cq [0,1,1] (bodyOf Tryd.f7)) (Code.seq (cq [0,1,1,1] (bodyOf Tryd.f7)) (Code.seq (cq [0,1,1,1,1] (bodyOf Tryd.f7)) (cq [0,1,1,1,1,1] (bodyOf Tryd.f7))))))) (Ann.seq (aq [0] N6) (Ann.seq (aq [0,1] N6) (Ann.seq (aq [0,1,1] N6) (Ann.seq (aq [0,1,1,1] N6) (Ann.seq (aq [0,1,1,1,1] N6) (aq [0,1,1,1,1,1] N6)))))) ⟨mkE 98 0 [(0,.agg [dL a,.dat (.list (.list (.int .i64))) b]),(1,.agg [dI c,dI d,dI g])],[]⟩ (N7u a b c d g) (Sum.elim (fun (t : Nat × Bool × (List Int) × (List Int) × (List (List Int))) => (Exit.normal,⟨mkE 98 0 [(2,.ptr 0 0),(4,.ptr 1 0),(6,.ptr 2 0),(8,.win 3 0 t.1),(9,dB t.2.1)],[some (.box [dL a,.dat (.list (.list (.int .i64))) b]),some (.box [.nils,.nils]),some (.box [.slc 4,.slc 5]),some (sI t.2.2.1),some (sI t.2.2.2.1),some (.nest (.int .i64) t.2.2.2.2 0 [])]⟩)) (fun (t : Bool × (List Int) × (List (List Int))) => (Exit.ret,⟨mkE 98 0 [(4,.ptr 0 0),(5,dB t.1)],[some (.box [.slc 1,.slc 2]),some (sI t.2.1),some (.nest (.int .i64) t.2.2 0 [])]⟩))) := .of fun K h => by
  simp only [N7u,wpW] at h
  exact .of (by kernel_rfl) h
theorem Nsi (a : Nat) (b : Bool) (c : List Int) (d : List (List Int)) (g i : List Int) (j : List (List Int)) : Link N40 LL (cq [0,0,1,1,1,1,1,1] (bodyOf Tryd.f7)) (aq [0,0,1,1,1,1,1,1] N6) ⟨mkE 98 0 [(2,.ptr 0 0),(4,.ptr 1 0),(6,.ptr 2 0),(8,.win 3 0 a),(9,dB b)],[some (.box [dL c,.dat (.list (.list (.int .i64))) d]),some (.box [.nils,.nils]),some (.box [.slc 4,.slc 5]),some (sI g),some (sI i),some (.nest (.int .i64) j 0 [])]⟩ (N7g) (fun (t : Unit) => (Exit.normal,⟨mkE 98 0 [(2,.ptr 0 0),(4,.ptr 1 0),(6,.ptr 2 0),(8,.win 3 0 a),(9,dB b),(10,dI 0)],[some (.box [dL c,.dat (.list (.list (.int .i64))) d]),some (.box [.nils,.nils]),some (.box [.slc 4,.slc 5]),some (sI g),some (sI i),some (.nest (.int .i64) j 0 [])]⟩)) := .of fun K h => by
  simp only [N7g,wpW] at h
  exact .of (by kernel_rfl) h
theorem Nwb (a : Nat) (b : Bool) (c : Int) (d : List Int) (g : List (List Int)) (i j : List Int) (k : List (List Int)) : Link N40 LL (cq [0,0,1,0,1,1,1,1,1,1] (bodyOf Tryd.f7)) (aq [0,0,1,0,1,1,1,1,1,1] N6) ⟨mkE 98 0 [(2,.ptr 0 0),(4,.ptr 1 0),(6,.ptr 2 0),(8,.win 3 0 a),(9,dB b),(10,dI c)],[some (.box [dL d,.dat (.list (.list (.int .i64))) g]),some (.box [.nils,.nils]),some (.box [.slc 4,.slc 5]),some (sI i),some (sI j),some (.nest (.int .i64) k 0 [])]⟩ (N2v a b c d i) (Sum.elim (fun (t : Bool × Int) => (Exit.normal,⟨mkE 98 0 [(2,.ptr 0 0),(4,.ptr 1 0),(6,.ptr 2 0),(8,.win 3 0 a),(9,dB t.1),(10,dI t.2)],[some (.box [dL d,.dat (.list (.list (.int .i64))) g]),some (.box [.nils,.nils]),some (.box [.slc 4,.slc 5]),some (sI i),some (sI j),some (.nest (.int .i64) k 0 [])]⟩)) (fun (t : Bool) => ((Exit.exit 0),⟨mkE 98 0 [(4,.ptr 0 0),(6,.ptr 1 0),(8,.win 2 0 a),(9,dB t)],[some (.box [.nils,.nils]),some (.box [.slc 3,.slc 4]),some (sI i),some (sI j),some (.nest (.int .i64) k 0 [])]⟩))) := .of fun K h => by
  simp only [N2v,wpW] at h
  exact .of (by kernel_rfl) h
theorem Npk (a : Nat) (b : Bool) (c d : List Int) (g : List (List Int)) : Link N40 LL (cq [1,1,1,1,1,1,1] (bodyOf Tryd.f7)) (aq [1,1,1,1,1,1,1] N6) ⟨mkE 98 0 [(4,.ptr 0 0),(6,.ptr 1 0),(8,.win 2 0 a),(9,dB b)],[some (.box [.nils,.nils]),some (.box [.slc 3,.slc 4]),some (sI c),some (sI d),some (.nest (.int .i64) g 0 [])]⟩ (N82 a b c d g) (fun (t : Bool × (List Int) × (List (List Int))) => (Exit.ret,⟨mkE 98 0 [(4,.ptr 0 0),(5,dB t.1)],[some (.box [.slc 1,.slc 2]),some (sI t.2.1),some (.nest (.int .i64) t.2.2 0 [])]⟩)) := .of fun K h => by
  simp only [N82,wpW] at h
  exact .of (by kernel_rfl) h
theorem Nzx (b : List Int) (d : List (List Int)) (g i j : Int) {r : AV} {H' : Heap} (h : (Ans.mk _ (N1y b d g i j) (fun (t : Bool × (List Int) × (List (List Int))) => (.tup [.agg [.slc 1,.slc 2],dB t.1],[some (.box [.slc 1,.slc 2]),some (sI t.2.1),some (.nest (.int .i64) t.2.2 0 [])])) [] none).run = some (r,H')) : Awp N40 LL (bodyOf Tryd.f7) N6 ⟨mkE 98 0 [(0,.agg [dL b,.dat (.list (.list (.int .i64))) d]),(1,.agg [dI g,dI i,dI j])],[]⟩ (Ret (tlook tys) Tryd.f7.results.toList r H') :=
  ret_of' (Link.cast (by kernel_rfl) (by kernel_rfl) (link_group (c := (cq [0,1,1,1,1,1] (bodyOf Tryd.f7))) (a := (aq [0,1,1,1,1,1] N6)) [(cq [0] (bodyOf Tryd.f7)),(cq [0,1] (bodyOf Tryd.f7)),(cq [0,1,1] (bodyOf Tryd.f7)),(cq [0,1,1,1] (bodyOf Tryd.f7)),(cq [0,1,1,1,1] (bodyOf Tryd.f7))] [(aq [0] N6),(aq [0,1] N6),(aq [0,1,1] N6),(aq [0,1,1,1] N6),(aq [0,1,1,1,1] N6)] rfl (link_seq2 (Nty b d g i j) (fun (t : Nat × Bool × (List Int) × (List Int) × (List (List Int))) => (link_seq (link_seq (Nsi t.1 t.2.1 b d t.2.2.1 t.2.2.2.1 t.2.2.2.2) (fun (t39 : Unit) => (link_block (fin2 := (fun (t39 : Bool) => (Exit.normal,⟨mkE 98 0 [(4,.ptr 0 0),(6,.ptr 1 0),(8,.win 2 0 t.1),(9,dB t39)],[some (.box [.nils,.nils]),some (.box [.slc 3,.slc 4]),some (sI t.2.2.1),some (sI t.2.2.2.1),some (.nest (.int .i64) t.2.2.2.2 0 [])]⟩))) (id := 0) (link_loop (mk := fun (s : Bool × Int) => ⟨mkE 98 0 [(2,.ptr 0 0),(4,.ptr 1 0),(6,.ptr 2 0),(8,.win 3 0 t.1),(9,dB s.1),(10,dI s.2)],[some (.box [dL b,.dat (.list (.list (.int .i64))) d]),some (.box [.nils,.nils]),some (.box [.slc 4,.slc 5]),some (sI t.2.2.1),some (sI t.2.2.2.1),some (.nest (.int .i64) t.2.2.2.2 0 [])]⟩) (fin := (fun (t39 : Bool) => ((Exit.exit 0),⟨mkE 98 0 [(4,.ptr 0 0),(6,.ptr 1 0),(8,.win 2 0 t.1),(9,dB t39)],[some (.box [.nils,.nils]),some (.box [.slc 3,.slc 4]),some (sI t.2.2.1),some (sI t.2.2.2.1),some (.nest (.int .i64) t.2.2.2.2 0 [])]⟩))) (by
  rintro t39 f K h
  · exact h) (fun s => link_map (Nwb t.1 s.1 s.2 b d t.2.2.1 t.2.2.2.1 t.2.2.2.2) (Sum.elim (fun (t39 : Bool × Int) => Sum.inl (t39.1,t39.2)) (fun (t39 : Bool) => Sum.inr t39)) (by
  rintro (t39 | t39)
  · kernel_rfl
  · kernel_rfl)) (t.2.1,0)) (fun (t39 : Bool) => t39) (by
  rintro t39 K h
  · exact Eq.mp (by kernel_rfl) h)))) (fun (t39 : Bool) => (Npk t.1 t39 t.2.2.1 t.2.2.2.1 t.2.2.2.2)))) (fun (t : Bool × (List Int) × (List (List Int))) => t) (by
  rintro t
  · kernel_rfl) (by
  rintro t f K h
  · exact h)))) (by unfold N1y; kernel_rfl) (by
  intro t
  exact ret_mk [.agg [.slc 1,.slc 2],dB t.1] (by kernel_rfl) (by kernel_rfl) (by kernel_rfl) (by kernel_rfl)) h
def N9v : Fun := fun avs H =>
  match avs,H with
  | [.agg [.dat (.list (.int .i64)) a,.dat (.list (.list (.int .i64))) b],.agg [.dat (.int .i64) c,.dat (.int .i64) d,.dat (.int .i64) g]],[] => ⟨_,N1y a b c d g,fun (t : Bool × (List Int) × (List (List Int))) => (.tup [.agg [.slc 1,.slc 2],dB t.1],[some (.box [.slc 1,.slc 2]),some (sI t.2.1),some (.nest (.int .i64) t.2.2 0 [])]),[],none⟩
  | _,_ => Ans.no
theorem Nhs : Sound Tryd.prog 7 N9v := by
  refine fn_sound' (C := N40) (c := bodyOf Tryd.f7) (cok_of tys_ok (allc Nmk (allc N10e (allc Nzm (allc N22 alln)))) (allc Tryd.call16 (allc Tryd.call25 (allc Tryd.call26 (allc Tryd.call27 alln)))) (by kernel_rfl)) Tryd.func7 (by kernel_rfl) LL N6 ?_
  intro avs H r H' h
  unfold N9v at h
  split at h
  · refine Awp.cast ?_ ?_ ?_ (Nzx _ _ _ _ _ h) <;> kernel_rfl
  · simp [Ans.no,Ans.run] at h

def N1p : Ann := (.seq (.leaf [0,1,4]) (.seq (.leaf [0,1,4,5]) (.seq (.seq (.leafF [⟨3,5,false,some 0,none⟩,⟨3,5,true,some 1,some (.int .i64)⟩] [0,1,4,5,7]) (.block (.loop (.seq (.seq (.leaf [0,1,4,5,7,19]) (.cond (.leafF [⟨0,5,false,some 0,none⟩] [0,1,4,5,7]) (.leaf [0,1,4,5]))) (.seq (.block (.seq (.draw [5,200002,300000] [0,1,2,3,4,5,6,7,8,9,10,11] [] [0,1,4,5,7,8,9]) (.seq (.leaf [0,1,4,5,7,8,31]) (.cond (.leaf [0,1,4,5,7]) (.leaf [0,1,4,5,7]))))) (.leafF [⟨3,5,false,some 0,none⟩,⟨3,5,true,some 1,some (.int .i64)⟩] [0,1,4,5,7])))))) (.seq (.seq (.leaf [0,4,5,35]) (.cond (.seq (.leaf [4,5,37]) (.block (.seq (.leaf [4,5,37,39]) (.cond (.leaf [4,5]) (.seq (.leaf [4,5,43]) (.cond (.leaf [4,5]) (.seq (.leaf [4]) (.leafF [⟨0,4,false,some 0,some (.int .i64)⟩,⟨0,4,false,some 0,none⟩,⟨0,4,true,some 1,some (.int .i64)⟩] [4])))))))) (.leaf [4,5]))) (.seq (.leaf [4]) (.leafF [⟨0,4,false,some 0,none⟩] [4]))))))
noncomputable def N4q : Ctx := ⟨tlook tys,olook [(39,Nbg),(38,Ndl),(40,Nu),(20,Na4),(7,N9v),(36,N4x)],ioF,1,true,[]⟩
theorem Nrw (a : Int) (b : List Int) (c : Int) : Link N4q LL (Code.seq (cq [0] (bodyOf Tryd.f19)) (cq [0,1] (bodyOf Tryd.f19))) (Ann.seq (aq [0] N1p) (aq [0,1] N1p)) ⟨mkE 52 0 [(0,.ptr 0 0),(1,dI a)],[some (.box [dV b,dI c])]⟩ (N97 b c) (fun (t : Int × (List Int)) => (Exit.normal,⟨mkE 52 0 [(0,.ptr 0 0),(1,dI a),(4,.ptr 1 0),(5,.ptr 2 0)],[some (.box [dV b,dI t.1]),some (.box [.nils,.nils]),some (.box [.slc 3,.nils]),some (sI t.2)]⟩)) := .of fun K h => by
  simp only [N97,wpW] at h
  exact .of (by kernel_rfl) h
theorem Nxf (a : Int) (b : List Int) (c : Int) (d : List Int) : Link N4q LL (cq [0,0,1,1] (bodyOf Tryd.f19)) (aq [0,0,1,1] N1p) ⟨mkE 52 0 [(0,.ptr 0 0),(1,dI a),(4,.ptr 1 0),(5,.ptr 2 0)],[some (.box [dV b,dI c]),some (.box [.nils,.nils]),some (.box [.slc 3,.nils]),some (sI d)]⟩ (N8w b c) (fun (t : Int × Int) => (Exit.normal,⟨mkE 52 0 [(0,.ptr 0 0),(1,dI a),(4,.ptr 1 0),(5,.ptr 2 0),(7,dI t.1)],[some (.box [dV b,dI t.2]),some (.box [.nils,.nils]),some (.box [dL d,.slc 3]),some (.nest (.int .i64) ([] : List (List Int)) 0 [])]⟩)) := .of fun K h => by
  simp only [N8w,wpW] at h
  exact .of (by kernel_rfl) h
theorem Nrt (a b : Int) (c : List Int) (d : Int) (g : List Int) (i : List (List Int)) : Link N4q LL (cq [0,0,1,0,1,1] (bodyOf Tryd.f19)) (aq [0,0,1,0,1,1] N1p) ⟨mkE 52 0 [(0,.ptr 0 0),(1,dI a),(4,.ptr 1 0),(5,.ptr 2 0),(7,dI b)],[some (.box [dV c,dI d]),some (.box [.nils,.nils]),some (.box [dL g,.slc 3]),some (.nest (.int .i64) i 0 [])]⟩ (N5j b c d g i) (Sum.elim (fun (t : Int × Int × (List Int) × (List (List Int))) => (Exit.normal,⟨mkE 52 0 [(0,.ptr 0 0),(1,dI a),(4,.ptr 1 0),(5,.ptr 2 0),(7,dI t.1)],[some (.box [dV c,dI t.2.1]),some (.box [.nils,.nils]),some (.box [dL t.2.2.1,.slc 3]),some (.nest (.int .i64) t.2.2.2 0 [])]⟩)) (fun (t : Int × (List Int) × (List (List Int))) => ((Exit.exit 0),⟨mkE 52 0 [(0,.ptr 0 0),(1,dI a),(4,.ptr 1 0),(5,.ptr 2 0)],[some (.box [dV c,dI t.1]),some (.box [.nils,.nils]),some (.box [dL t.2.1,.slc 3]),some (.nest (.int .i64) t.2.2 0 [])]⟩))) := .of fun K h => by
  simp only [N5j,wpW] at h
  exact .of (by kernel_rfl) h
theorem Nuv (a : Int) (b : List Int) (c : Int) (d : List Int) (g : List (List Int)) : Link N4q LL (cq [1,1,1] (bodyOf Tryd.f19)) (aq [1,1,1] N1p) ⟨mkE 52 0 [(0,.ptr 0 0),(1,dI a),(4,.ptr 1 0),(5,.ptr 2 0)],[some (.box [dV b,dI c]),some (.box [.nils,.nils]),some (.box [dL d,.slc 3]),some (.nest (.int .i64) g 0 [])]⟩ (N95 a b c d g) (fun (t : Int × (List Int) × (List (List Int))) => (Exit.ret,⟨mkE 52 0 [(4,.ptr 1 0)],[some (.box [dV b,dI t.1]),some (.box [dL t.2.1,.slc 2]),some (.nest (.int .i64) t.2.2 0 [])]⟩)) := .of fun K h => by
  simp only [N95,wpW] at h
  exact .of (by kernel_rfl) h
theorem Nwe (b : Int) (d : List Int) (g : Int) {r : AV} {H' : Heap} (h : (Ans.mk _ (N2h b d g) (fun (t : Int × (List Int) × (List (List Int))) => (.agg [dL t.2.1,.slc 2],[some (.box [dV d,dI t.1]),some (.box [dL t.2.1,.slc 2]),some (.nest (.int .i64) t.2.2 0 [])])) [] none).run = some (r,H')) : Awp N4q LL (bodyOf Tryd.f19) N1p ⟨mkE 52 0 [(0,.ptr 0 0),(1,dI b)],[some (.box [dV d,dI g])]⟩ (Ret (tlook tys) Tryd.f19.results.toList r H') :=
  ret_of' (Link.cast (by kernel_rfl) (by kernel_rfl) (link_group (c := (cq [0,1] (bodyOf Tryd.f19))) (a := (aq [0,1] N1p)) [(cq [0] (bodyOf Tryd.f19))] [(aq [0] N1p)] rfl (link_seq (Nrw b d g) (fun (t : Int × (List Int)) => (link_seq (link_seq (Nxf b d t.1 t.2) (fun (t40 : Int × Int) => (link_block (fin2 := (fun (t15 : Int × (List Int) × (List (List Int))) => (Exit.normal,⟨mkE 52 0 [(0,.ptr 0 0),(1,dI b),(4,.ptr 1 0),(5,.ptr 2 0)],[some (.box [dV d,dI t15.1]),some (.box [.nils,.nils]),some (.box [dL t15.2.1,.slc 3]),some (.nest (.int .i64) t15.2.2 0 [])]⟩))) (id := 0) (link_loop (mk := fun (s : Int × Int × (List Int) × (List (List Int))) => ⟨mkE 52 0 [(0,.ptr 0 0),(1,dI b),(4,.ptr 1 0),(5,.ptr 2 0),(7,dI s.1)],[some (.box [dV d,dI s.2.1]),some (.box [.nils,.nils]),some (.box [dL s.2.2.1,.slc 3]),some (.nest (.int .i64) s.2.2.2 0 [])]⟩) (fin := (fun (t15 : Int × (List Int) × (List (List Int))) => ((Exit.exit 0),⟨mkE 52 0 [(0,.ptr 0 0),(1,dI b),(4,.ptr 1 0),(5,.ptr 2 0)],[some (.box [dV d,dI t15.1]),some (.box [.nils,.nils]),some (.box [dL t15.2.1,.slc 3]),some (.nest (.int .i64) t15.2.2 0 [])]⟩))) (by
  rintro t15 f K h
  · exact h) (fun s => link_map (Nrt b s.1 d s.2.1 s.2.2.1 s.2.2.2) (Sum.elim (fun (t15 : Int × Int × (List Int) × (List (List Int))) => Sum.inl (t15.1,t15.2.1,t15.2.2.1,t15.2.2.2)) (fun (t15 : Int × (List Int) × (List (List Int))) => Sum.inr t15)) (by
  rintro (t15 | t15)
  · kernel_rfl
  · kernel_rfl)) (t40.1,t40.2,t.2,([] : List (List Int)))) (fun (t15 : Int × (List Int) × (List (List Int))) => (t15.1,t15.2.1,t15.2.2)) (by
  rintro t15 K h
  · exact Eq.mp (by kernel_rfl) h)))) (fun (t40 : Int × (List Int) × (List (List Int))) => (Nuv b d t40.1 t40.2.1 t40.2.2))))))) (by unfold N2h; kernel_rfl) (by
  intro t
  exact ret_mk [.agg [dL t.2.1,.slc 2]] (by kernel_rfl) (by kernel_rfl) (by kernel_rfl) (by kernel_rfl)) h
def Nba : Fun := fun avs H =>
  match avs,H with
  | [.ptr 0 0,.dat (.int .i64) a],[some (.box [.dat (.list (.int .u8)) b,.dat (.int .i64) c])] => ⟨_,N2h a b c,fun (t : Int × (List Int) × (List (List Int))) => (.agg [dL t.2.1,.slc 2],[some (.box [dV b,dI t.1]),some (.box [dL t.2.1,.slc 2]),some (.nest (.int .i64) t.2.2 0 [])]),[],none⟩
  | _,_ => Ans.no
theorem Ntv : Sound Tryd.prog 19 Nba := by
  refine fn_sound' (C := N4q) (c := bodyOf Tryd.f19) (cok_of tys_ok (allc Nq8 (allc Nmc (allc N23 (allc Nki (allc Nhs (allc Ne3 alln)))))) (allc Tryd.call39 (allc Tryd.call38 (allc Tryd.call40 (allc Tryd.call20 (allc Tryd.call7 (allc Tryd.call36 alln)))))) (by kernel_rfl)) Tryd.func19 (by kernel_rfl) LL N1p ?_
  intro avs H r H' h
  unfold Nba at h
  split at h
  · refine Awp.cast ?_ ?_ ?_ (Nwe _ _ _ h) <;> kernel_rfl
  · simp [Ans.no,Ans.run] at h

def Nb3 : Ann := (.seq (.leaf [0,2,3]) (.seq (.leaf [2,3,4]) (.seq (.leaf [2,3,4,5]) (.seq (.draw [200003,300000] [0,1,2,3,4,5,6] [] [2,3]) (.leaf [2,3])))))
noncomputable def Ncx : Ctx := ⟨tlook tys,olook [(18,Nd1),(19,Nba),(20,Na4)],ioF,0,true,[]⟩
theorem Nrv (a : List Int) : Link Ncx LL (bodyOf Tryd.f5) Nb3 ⟨mkE 15 0 [(0,dV a)],[]⟩ (Na0 a) (fun (t : (List Int) × Int × Int × Int × (List (List Int))) => (Exit.ret,⟨mkE 15 0 [(2,.ptr 0 0),(3,.ptr 1 0)],[some (.box [dL t.1,.slc 2]),some (.box [dI t.2.1,dI t.2.2.1,dI t.2.2.2.1]),some (.nest (.int .i64) t.2.2.2.2 0 [])]⟩)) := .of fun K h => by
  simp only [Na0,wpW] at h
  exact .of (by kernel_rfl) h
theorem Nwr (a : List Int) {r : AV} {H' : Heap} (h : (Ans.mk _ (N4c a) (fun (t : (List Int) × Int × Int × Int × (List (List Int))) => (.tup [.agg [dL t.1,.slc 2],.agg [dI t.2.1,dI t.2.2.1,dI t.2.2.2.1]],[some (.box [dL t.1,.slc 2]),some (.box [dI t.2.1,dI t.2.2.1,dI t.2.2.2.1]),some (.nest (.int .i64) t.2.2.2.2 0 [])])) [] none).run = some (r,H')) : Awp Ncx LL (bodyOf Tryd.f5) Nb3 ⟨mkE 15 0 [(0,dV a)],[]⟩ (Ret (tlook tys) Tryd.f5.results.toList r H') :=
  ret_of' (Nrv a) (by unfold N4c; kernel_rfl) (by
  intro t
  exact ret_mk [.agg [dL t.1,.slc 2],.agg [dI t.2.1,dI t.2.2.1,dI t.2.2.2.1]] (by kernel_rfl) (by kernel_rfl) (by kernel_rfl) (by kernel_rfl)) h
def Ncd : Fun := fun avs H =>
  match avs,H with
  | [.dat (.list (.int .u8)) a],[] => ⟨_,N4c a,fun (t : (List Int) × Int × Int × Int × (List (List Int))) => (.tup [.agg [dL t.1,.slc 2],.agg [dI t.2.1,dI t.2.2.1,dI t.2.2.2.1]],[some (.box [dL t.1,.slc 2]),some (.box [dI t.2.1,dI t.2.2.1,dI t.2.2.2.1]),some (.nest (.int .i64) t.2.2.2.2 0 [])]),[],none⟩
  | _,_ => Ans.no
theorem Nyi : Sound Tryd.prog 5 Ncd := by
  refine fn_sound' (C := Ncx) (c := bodyOf Tryd.f5) (cok_of tys_ok (allc Nq7 (allc Ntv (allc Nki alln))) (allc Tryd.call18 (allc Tryd.call19 (allc Tryd.call20 alln))) (by kernel_rfl)) Tryd.func5 (by kernel_rfl) LL Nb3 ?_
  intro avs H r H' h
  unfold Ncd at h
  split at h
  · refine Awp.cast ?_ ?_ ?_ (Nwr _ h) <;> kernel_rfl
  · simp [Ans.no,Ans.run] at h

def N18 : Ann := (.seq (.leaf [0]) (.seq (.leaf [0,3]) (.seq (.seq (.leaf [0,3,6,7,8]) (.block (.loop (.seq (.leaf [0,3,6,7,8,9]) (.seq (.cond (.leaf [0,3,6,7,8]) (.leaf [3])) (.seq (.block (.seq (.leaf [0,3,5,6,7,8]) (.seq (.seq (.leaf [0,3,5,6,7,8,19]) (.cond (.seq (.leaf [2]) (.leaf [2])) (.leaf [0,3,5,6,7,8]))) (.seq (.leaf [0,3,6,7,8,21]) (.cond (.leaf [0,3,6,7,8]) (.leaf [0,3,6,7,8])))))) (.leaf [0,3,6,7,8]))))))) (.seq (.leaf [2]) (.leaf [2])))))
noncomputable def N42 : Ctx := ⟨tlook tys,olook [],ioF,0,false,[]⟩
theorem Nn0 (a : List Int) : Link N42 LL (Code.seq (cq [0] (bodyOf Tryd.f49)) (cq [0,1] (bodyOf Tryd.f49))) (Ann.seq (aq [0] N18) (aq [0,1] N18)) ⟨mkE 27 0 [(0,dL a)],[]⟩ (N89) (fun (t : Unit) => (Exit.normal,⟨mkE 27 0 [(0,dL a),(3,dI 0)],[]⟩)) := .of fun K h => by
  simp only [N89,wpW] at h
  exact .of (by kernel_rfl) h
theorem Nx4 (a : List Int) : Link N42 LL (cq [0,0,1,1] (bodyOf Tryd.f49)) (aq [0,0,1,1] N18) ⟨mkE 27 0 [(0,dL a),(3,dI 0)],[]⟩ (N7d a) (fun (t : Int) => (Exit.normal,⟨mkE 27 0 [(0,dL a),(3,dI 0),(6,dL a),(7,dI t),(8,dI 0)],[]⟩)) := .of fun K h => by
  simp only [N7d,wpW] at h
  exact .of (by kernel_rfl) h
theorem Nlk (a : List Int) (b c d : Int) : Link N42 LL (cq [0,0,1,0,1,1] (bodyOf Tryd.f49)) (aq [0,0,1,0,1,1] N18) ⟨mkE 27 0 [(0,dL a),(3,dI b),(6,dL a),(7,dI c),(8,dI d)],[]⟩ (N41 a b c d) (Sum.elim (fun (t : Int × Int) => (Exit.normal,⟨mkE 27 0 [(0,dL a),(3,dI t.1),(6,dL a),(7,dI c),(8,dI t.2)],[]⟩)) (Sum.elim (fun (t : Bool) => (Exit.ret,⟨mkE 27 0 [(2,dB t)],[]⟩)) (fun (t : Int) => ((Exit.exit 0),⟨mkE 27 0 [(3,dI t)],[]⟩)))) := .of fun K h => by
  simp only [N41,wpW] at h
  exact .of (by kernel_rfl) h
theorem Nyy (a : Int) : Link N42 LL (cq [1,1,1] (bodyOf Tryd.f49)) (aq [1,1,1] N18) ⟨mkE 27 0 [(3,dI a)],[]⟩ (N69 a) (fun (t : Bool) => (Exit.ret,⟨mkE 27 0 [(2,dB t)],[]⟩)) := .of fun K h => by
  simp only [N69,wpW] at h
  exact .of (by kernel_rfl) h
theorem Nng (b : List Int) {r : AV} {H' : Heap} (h : (Ans.mk _ (N4w b) (fun (t : Bool) => (dB t,[])) [] none).run = some (r,H')) : Awp N42 LL (bodyOf Tryd.f49) N18 ⟨mkE 27 0 [(0,dL b)],[]⟩ (Ret (tlook tys) Tryd.f49.results.toList r H') :=
  ret_of' (Link.cast (by kernel_rfl) (by kernel_rfl) (link_group (c := (cq [0,1] (bodyOf Tryd.f49))) (a := (aq [0,1] N18)) [(cq [0] (bodyOf Tryd.f49))] [(aq [0] N18)] rfl (link_seq (Nn0 b) (fun (t : Unit) => (link_seq2 (link_seq (Nx4 b) (fun (t : Int) => (link_block (fin2 := (Sum.elim (fun (t16 : Int) => (Exit.normal,⟨mkE 27 0 [(3,dI t16)],[]⟩)) (fun (t16 : Bool) => (Exit.ret,⟨mkE 27 0 [(2,dB t16)],[]⟩)))) (id := 0) (link_loop (mk := fun (s : Int × Int) => ⟨mkE 27 0 [(0,dL b),(3,dI s.1),(6,dL b),(7,dI t),(8,dI s.2)],[]⟩) (fin := (Sum.elim (fun (t16 : Bool) => (Exit.ret,⟨mkE 27 0 [(2,dB t16)],[]⟩)) (fun (t16 : Int) => ((Exit.exit 0),⟨mkE 27 0 [(3,dI t16)],[]⟩)))) (by
  rintro (t16 | t16) f K h
  · exact h
  · exact h) (fun s => link_map (Nlk b s.1 t s.2) (Sum.elim (fun (t16 : Int × Int) => Sum.inl (t16.1,t16.2)) (Sum.elim (fun (t16 : Bool) => Sum.inr (Sum.inl t16)) (fun (t16 : Int) => Sum.inr (Sum.inr t16)))) (by
  rintro (t16 | t16 | t16)
  · kernel_rfl
  · kernel_rfl
  · kernel_rfl)) (0,0)) (Sum.elim (fun (t16 : Bool) => (Sum.inr t16)) (fun (t16 : Int) => (Sum.inl t16))) (by
  rintro (t16 | t16) K h
  · exact Eq.mp (by kernel_rfl) h
  · exact Eq.mp (by kernel_rfl) h)))) (fun (t : Int) => (Nyy t)) (fun (t : Bool) => t) (by
  rintro t
  · kernel_rfl) (by
  rintro t f K h
  · exact h)))))) (by unfold N4w; kernel_rfl) (by
  intro t
  exact ret_mk [dB t] (by kernel_rfl) (by kernel_rfl) (by kernel_rfl) (by kernel_rfl)) h
def Nbk : Fun := fun avs H =>
  match avs,H with
  | [.dat (.list (.int .i64)) a],[] => ⟨_,N4w a,fun (t : Bool) => (dB t,[]),[],none⟩
  | _,_ => Ans.no
theorem Nsg : Sound Tryd.prog 49 Nbk := by
  refine fn_sound' (C := N42) (c := bodyOf Tryd.f49) (cok_of tys_ok (alln) (alln) (by kernel_rfl)) Tryd.func49 (by kernel_rfl) LL N18 ?_
  intro avs H r H' h
  unfold Nbk at h
  split at h
  · refine Awp.cast ?_ ?_ ?_ (Nng _ h) <;> kernel_rfl
  · simp [Ans.no,Ans.run] at h

def Nec : Ann := (.seq (.leaf [0]) (.seq (.draw [] [0,1,2,3,4,5,6,7,8,9,10,11] [] [0,3]) (.seq (.seq (.leaf [0,3,16]) (.cond (.seq (.leaf [2]) (.leaf [2])) (.leaf [0,3]))) (.seq (.leaf [0]) (.seq (.leaf []) (.seq (.leaf [2]) (.leaf [2])))))))
noncomputable def Nck : Ctx := ⟨tlook tys,olook [],ioF,1,false,[]⟩
theorem Nsr (a : List Int) (b c : Int) : Link Nck LL (bodyOf Tryd.f64) Nec ⟨mkE 28 0 [(0,.ptr 0 0)],[some (.box [dL a,dI b,dI c])]⟩ (N6f a b c) (fun (t : Bool × Int × Int) => (Exit.ret,⟨mkE 28 0 [(2,dB t.1)],[some (.box [dL a,dI t.2.1,dI t.2.2])]⟩)) := .of fun K h => by
  simp only [N6f,wpW] at h
  exact .of (by kernel_rfl) h
theorem Nl5 (a : List Int) (b c : Int) {r : AV} {H' : Heap} (h : (Ans.mk _ (N2u a b c) (fun (t : Bool × Int × Int) => (dB t.1,[some (.box [dL a,dI t.2.1,dI t.2.2])])) [] none).run = some (r,H')) : Awp Nck LL (bodyOf Tryd.f64) Nec ⟨mkE 28 0 [(0,.ptr 0 0)],[some (.box [dL a,dI b,dI c])]⟩ (Ret (tlook tys) Tryd.f64.results.toList r H') :=
  ret_of' (Nsr a b c) (by unfold N2u; kernel_rfl) (by
  intro t
  exact ret_mk [dB t.1] (by kernel_rfl) (by kernel_rfl) (by kernel_rfl) (by kernel_rfl)) h
def N8t : Fun := fun avs H =>
  match avs,H with
  | [.ptr 0 0],[some (.box [.dat (.list (.int .i64)) a,.dat (.int .i64) b,.dat (.int .i64) c])] => ⟨_,N2u a b c,fun (t : Bool × Int × Int) => (dB t.1,[some (.box [dL a,dI t.2.1,dI t.2.2])]),[],none⟩
  | _,_ => Ans.no
theorem Njb : Sound Tryd.prog 64 N8t := by
  refine fn_sound' (C := Nck) (c := bodyOf Tryd.f64) (cok_of tys_ok (alln) (alln) (by kernel_rfl)) Tryd.func64 (by kernel_rfl) LL Nec ?_
  intro avs H r H' h
  unfold N8t at h
  split at h
  · refine Awp.cast ?_ ?_ ?_ (Nl5 _ _ _ h) <;> kernel_rfl
  · simp [Ans.no,Ans.run] at h

def N24 : Ann := (.seq (.leaf [0,1]) (.seq (.leaf [0,6]) (.seq (.block (.loop (.seq (.seq (.leaf [0,6,10]) (.cond (.leaf [0,6]) (.leaf [6]))) (.block (.seq (.leaf [0,6,15]) (.cond (.seq (.leaf [4,5]) (.leaf [4,5])) (.leaf [0,6]))))))) (.seq (.leaf [4,5]) (.leaf [4,5])))))
noncomputable def N5g : Ctx := ⟨tlook tys,olook [(64,N8t)],ioF,0,false,[]⟩
theorem Nlt (a : List Int) (b : Int) : Link N5g LL (Code.seq (cq [0] (bodyOf Tryd.f50)) (cq [0,1] (bodyOf Tryd.f50))) (Ann.seq (aq [0] N24) (aq [0,1] N24)) ⟨mkE 18 0 [(0,dL a),(1,dI b)],[]⟩ (N9c) (fun (t : Unit) => (Exit.normal,⟨mkE 18 0 [(0,dL a),(6,.ptr 0 0)],[some (.box [dL a,dI b,dI 0])]⟩)) := .of fun K h => by
  simp only [N9c,wpW] at h
  exact .of (by kernel_rfl) h
theorem Nuk (a : List Int) (b c : Int) : Link N5g LL (cq [0,0,0,1,1] (bodyOf Tryd.f50)) (aq [0,0,0,1,1] N24) ⟨mkE 18 0 [(0,dL a),(6,.ptr 0 0)],[some (.box [dL a,dI b,dI c])]⟩ (N54 a b c) (Sum.elim (fun (t : Int × Int) => (Exit.normal,⟨mkE 18 0 [(0,dL a),(6,.ptr 0 0)],[some (.box [dL a,dI t.1,dI t.2])]⟩)) (Sum.elim (fun (t : Int × Bool) => (Exit.ret,⟨mkE 18 0 [(4,dI t.1),(5,dB t.2)],[]⟩)) (fun (t : Int × Int) => ((Exit.exit 0),⟨mkE 18 0 [(6,.ptr 0 0)],[some (.box [dL a,dI t.1,dI t.2])]⟩)))) := .of fun K h => by
  simp only [N54,wpW] at h
  exact .of (by kernel_rfl) h
theorem Nsy (a : List Int) (b c : Int) : Link N5g LL (cq [1,1,1] (bodyOf Tryd.f50)) (aq [1,1,1] N24) ⟨mkE 18 0 [(6,.ptr 0 0)],[some (.box [dL a,dI b,dI c])]⟩ (N8p c) (fun (t : Int × Bool) => (Exit.ret,⟨mkE 18 0 [(4,dI t.1),(5,dB t.2)],[]⟩)) := .of fun K h => by
  simp only [N8p,wpW] at h
  exact .of (by kernel_rfl) h
theorem Now (b : List Int) (d : Int) {r : AV} {H' : Heap} (h : (Ans.mk _ (N4j b d) (fun (t : Int × Bool) => (.tup [dI t.1,dB t.2],[])) [] none).run = some (r,H')) : Awp N5g LL (bodyOf Tryd.f50) N24 ⟨mkE 18 0 [(0,dL b),(1,dI d)],[]⟩ (Ret (tlook tys) Tryd.f50.results.toList r H') :=
  ret_of' (Link.cast (by kernel_rfl) (by kernel_rfl) (link_group (c := (cq [0,1] (bodyOf Tryd.f50))) (a := (aq [0,1] N24)) [(cq [0] (bodyOf Tryd.f50))] [(aq [0] N24)] rfl (link_seq (Nlt b d) (fun (t : Unit) => (link_seq2 (link_block (fin2 := (Sum.elim (fun (t : Int × Int) => (Exit.normal,⟨mkE 18 0 [(6,.ptr 0 0)],[some (.box [dL b,dI t.1,dI t.2])]⟩)) (fun (t : Int × Bool) => (Exit.ret,⟨mkE 18 0 [(4,dI t.1),(5,dB t.2)],[]⟩)))) (id := 0) (link_loop (mk := fun (s : Int × Int) => ⟨mkE 18 0 [(0,dL b),(6,.ptr 0 0)],[some (.box [dL b,dI s.1,dI s.2])]⟩) (fin := (Sum.elim (fun (t : Int × Bool) => (Exit.ret,⟨mkE 18 0 [(4,dI t.1),(5,dB t.2)],[]⟩)) (fun (t : Int × Int) => ((Exit.exit 0),⟨mkE 18 0 [(6,.ptr 0 0)],[some (.box [dL b,dI t.1,dI t.2])]⟩)))) (by
  rintro (t | t) f K h
  · exact h
  · exact h) (fun s => link_map (Nuk b s.1 s.2) (Sum.elim (fun (t : Int × Int) => Sum.inl (t.1,t.2)) (Sum.elim (fun (t : Int × Bool) => Sum.inr (Sum.inl t)) (fun (t : Int × Int) => Sum.inr (Sum.inr t)))) (by
  rintro (t | t | t)
  · kernel_rfl
  · kernel_rfl
  · kernel_rfl)) (d,0)) (Sum.elim (fun (t : Int × Bool) => (Sum.inr t)) (fun (t : Int × Int) => (Sum.inl (t.1,t.2)))) (by
  rintro (t | t) K h
  · exact Eq.mp (by kernel_rfl) h
  · exact Eq.mp (by kernel_rfl) h)) (fun (t : Int × Int) => (Nsy b t.1 t.2)) (fun (t : Int × Bool) => t) (by
  rintro t
  · kernel_rfl) (by
  rintro t f K h
  · exact h)))))) (by unfold N4j; kernel_rfl) (by
  intro t
  exact ret_mk [dI t.1,dB t.2] (by kernel_rfl) (by kernel_rfl) (by kernel_rfl) (by kernel_rfl)) h
def Nar : Fun := fun avs H =>
  match avs,H with
  | [.dat (.list (.int .i64)) a,.dat (.int .i64) b],[] => ⟨_,N4j a b,fun (t : Int × Bool) => (.tup [dI t.1,dB t.2],[]),[],none⟩
  | _,_ => Ans.no
theorem Nkv : Sound Tryd.prog 50 Nar := by
  refine fn_sound' (C := N5g) (c := bodyOf Tryd.f50) (cok_of tys_ok (allc Njb alln) (allc Tryd.call64 alln) (by kernel_rfl)) Tryd.func50 (by kernel_rfl) LL N24 ?_
  intro avs H r H' h
  unfold Nar at h
  split at h
  · refine Awp.cast ?_ ?_ ?_ (Now _ _ h) <;> kernel_rfl
  · simp [Ans.no,Ans.run] at h

def N1h : Ann := (.seq (.leaf [0]) (.seq (.seq (.leaf [0,18]) (.cond (.seq (.leaf [2]) (.leaf [2])) (.leaf [0]))) (.seq (.seq (.leaf [0,20,21]) (.block (.loop (.seq (.leaf [0,20,21,22]) (.seq (.cond (.leaf [0,20,21]) (.leaf [])) (.seq (.block (.seq (.leaf [0,3,20,21]) (.seq (.leaf [0,5,20,21]) (.seq (.leaf [0,20,21,32]) (.cond (.seq (.leaf [2]) (.leaf [2])) (.leaf [0,20,21])))))) (.leaf [0,20,21]))))))) (.seq (.leaf [2]) (.leaf [2])))))
noncomputable def N4h : Ctx := ⟨tlook tys,olook [(49,Nbk),(50,Nar)],ioF,0,false,[]⟩
theorem Nvk (a : List Int) : Link N4h LL (Code.seq (cq [0] (bodyOf Tryd.f30)) (cq [0,1] (bodyOf Tryd.f30))) (Ann.seq (aq [0] N1h) (aq [0,1] N1h)) ⟨mkE 34 0 [(0,dL a)],[]⟩ (N77 a) (Sum.elim (fun (t : Unit) => (Exit.normal,⟨mkE 34 0 [(0,dL a)],[]⟩)) (fun (t : Bool) => (Exit.ret,⟨mkE 34 0 [(2,dB t)],[]⟩))) := .of fun K h => by
  simp only [N77,wpW] at h
  exact .of (by kernel_rfl) h
theorem Nqk (a : List Int) : Link N4h LL (cq [0,0,1,1] (bodyOf Tryd.f30)) (aq [0,0,1,1] N1h) ⟨mkE 34 0 [(0,dL a)],[]⟩ (N7q a) (fun (t : Int) => (Exit.normal,⟨mkE 34 0 [(0,dL a),(20,dI t),(21,dI 0)],[]⟩)) := .of fun K h => by
  simp only [N7q,wpW] at h
  exact .of (by kernel_rfl) h
theorem N10a (a : List Int) (b c : Int) : Link N4h LL (cq [0,0,1,0,1,1] (bodyOf Tryd.f30)) (aq [0,0,1,0,1,1] N1h) ⟨mkE 34 0 [(0,dL a),(20,dI b),(21,dI c)],[]⟩ (N3f a b c) (Sum.elim (fun (t : Int) => (Exit.normal,⟨mkE 34 0 [(0,dL a),(20,dI b),(21,dI t)],[]⟩)) (Sum.elim (fun (t : Bool) => (Exit.ret,⟨mkE 34 0 [(2,dB t)],[]⟩)) (fun (t : Unit) => ((Exit.exit 0),⟨mkE 34 0 [],[]⟩)))) := .of fun K h => by
  simp only [N3f,wpW] at h
  exact .of (by kernel_rfl) h
theorem Nou : Link N4h LL (cq [1,1,1] (bodyOf Tryd.f30)) (aq [1,1,1] N1h) ⟨mkE 34 0 [],[]⟩ (Na9) (fun (t : Bool) => (Exit.ret,⟨mkE 34 0 [(2,dB t)],[]⟩)) := .of fun K h => by
  simp only [Na9,wpW] at h
  exact .of (by kernel_rfl) h
theorem Nzw (b : List Int) {r : AV} {H' : Heap} (h : (Ans.mk _ (N5 b) (fun (t : Bool) => (dB t,[])) [] none).run = some (r,H')) : Awp N4h LL (bodyOf Tryd.f30) N1h ⟨mkE 34 0 [(0,dL b)],[]⟩ (Ret (tlook tys) Tryd.f30.results.toList r H') :=
  ret_of' (Link.cast (by kernel_rfl) (by kernel_rfl) (link_group (c := (cq [0,1] (bodyOf Tryd.f30))) (a := (aq [0,1] N1h)) [(cq [0] (bodyOf Tryd.f30))] [(aq [0] N1h)] rfl (link_seq2 (Nvk b) (fun (t : Unit) => (link_seq2 (link_seq (Nqk b) (fun (t : Int) => (link_block (fin2 := (Sum.elim (fun (t17 : Unit) => (Exit.normal,⟨mkE 34 0 [],[]⟩)) (fun (t17 : Bool) => (Exit.ret,⟨mkE 34 0 [(2,dB t17)],[]⟩)))) (id := 0) (link_loop (mk := fun (s : Int) => ⟨mkE 34 0 [(0,dL b),(20,dI t),(21,dI s)],[]⟩) (fin := (Sum.elim (fun (t17 : Bool) => (Exit.ret,⟨mkE 34 0 [(2,dB t17)],[]⟩)) (fun (t17 : Unit) => ((Exit.exit 0),⟨mkE 34 0 [],[]⟩)))) (by
  rintro (t17 | t17) f K h
  · exact h
  · exact h) (fun s => link_map (N10a b t s) (Sum.elim (fun (t17 : Int) => Sum.inl t17) (Sum.elim (fun (t17 : Bool) => Sum.inr (Sum.inl t17)) (fun (t17 : Unit) => Sum.inr (Sum.inr t17)))) (by
  rintro (t17 | t17 | t17)
  · kernel_rfl
  · kernel_rfl
  · kernel_rfl)) 0) (Sum.elim (fun (t17 : Bool) => (Sum.inr t17)) (fun (t17 : Unit) => (Sum.inl ()))) (by
  rintro (t17 | t17) K h
  · exact Eq.mp (by kernel_rfl) h
  · exact Eq.mp (by kernel_rfl) h)))) (fun (t : Unit) => (Nou)) (fun (t : Bool) => t) (by
  rintro t
  · kernel_rfl) (by
  rintro t f K h
  · exact h))) (fun (t : Bool) => t) (by
  rintro t
  · kernel_rfl) (by
  rintro t f K h
  · exact h)))) (by unfold N5; kernel_rfl) (by
  intro t
  exact ret_mk [dB t] (by kernel_rfl) (by kernel_rfl) (by kernel_rfl) (by kernel_rfl)) h
def Nh : Fun := fun avs H =>
  match avs,H with
  | [.dat (.list (.int .i64)) a],[] => ⟨_,N5 a,fun (t : Bool) => (dB t,[]),[],none⟩
  | _,_ => Ans.no
theorem Nv : Sound Tryd.prog 30 Nh := by
  refine fn_sound' (C := N4h) (c := bodyOf Tryd.f30) (cok_of tys_ok (allc Nsg (allc Nkv alln)) (allc Tryd.call49 (allc Tryd.call50 alln)) (by kernel_rfl)) Tryd.func30 (by kernel_rfl) LL N1h ?_
  intro avs H r H' h
  unfold Nh at h
  split at h
  · refine Awp.cast ?_ ?_ ?_ (Nzw _ h) <;> kernel_rfl
  · simp [Ans.no,Ans.run] at h

def N1c : Ann := (.seq (.leaf [1]) (.seq (.seq (.leaf [1,14]) (.cond (.seq (.leaf [2]) (.leaf [2])) (.leaf [1]))) (.seq (.seq (.leaf [16,17,18]) (.block (.loop (.seq (.leaf [16,17,18,19]) (.seq (.cond (.leaf [16,17,18]) (.leaf [])) (.seq (.block (.seq (.leaf [4,16,17,18]) (.seq (.leaf [16,17,18,24]) (.cond (.seq (.leaf [2]) (.leaf [2])) (.leaf [16,17,18]))))) (.leaf [16,17,18]))))))) (.seq (.leaf [2]) (.leaf [2])))))
noncomputable def N3n : Ctx := ⟨tlook tys,olook [(30,Nh)],ioF,0,false,[]⟩
theorem Nwp (a : List Int) (b : List (List Int)) : Link N3n LL (Code.seq (cq [0] (bodyOf Tryd.f9)) (cq [0,1] (bodyOf Tryd.f9))) (Ann.seq (aq [0] N1c) (aq [0,1] N1c)) ⟨mkE 26 0 [(0,.agg [dL a,.dat (.list (.list (.int .i64))) b])],[]⟩ (N6i a b) (Sum.elim (fun (t : Unit) => (Exit.normal,⟨mkE 26 0 [(1,.ptr 0 0)],[some (.box [dL a,.dat (.list (.list (.int .i64))) b])]⟩)) (fun (t : Bool) => (Exit.ret,⟨mkE 26 0 [(2,dB t)],[]⟩))) := .of fun K h => by
  simp only [N6i,wpW] at h
  exact .of (by kernel_rfl) h
theorem Nww (a : List Int) (b : List (List Int)) : Link N3n LL (cq [0,0,1,1] (bodyOf Tryd.f9)) (aq [0,0,1,1] N1c) ⟨mkE 26 0 [(1,.ptr 0 0)],[some (.box [dL a,.dat (.list (.list (.int .i64))) b])]⟩ (N6j b) (fun (t : Int) => (Exit.normal,⟨mkE 26 0 [(16,.dat (.list (.list (.int .i64))) b),(17,dI t),(18,dI 0)],[]⟩)) := .of fun K h => by
  simp only [N6j,wpW] at h
  exact .of (by kernel_rfl) h
theorem Nm5 (a : List (List Int)) (b c : Int) : Link N3n LL (cq [0,0,1,0,1,1] (bodyOf Tryd.f9)) (aq [0,0,1,0,1,1] N1c) ⟨mkE 26 0 [(16,.dat (.list (.list (.int .i64))) a),(17,dI b),(18,dI c)],[]⟩ (N2k a b c) (Sum.elim (fun (t : Int) => (Exit.normal,⟨mkE 26 0 [(16,.dat (.list (.list (.int .i64))) a),(17,dI b),(18,dI t)],[]⟩)) (Sum.elim (fun (t : Bool) => (Exit.ret,⟨mkE 26 0 [(2,dB t)],[]⟩)) (fun (t : Unit) => ((Exit.exit 0),⟨mkE 26 0 [],[]⟩)))) := .of fun K h => by
  simp only [N2k,wpW] at h
  exact .of (by kernel_rfl) h
theorem Nl0 : Link N3n LL (cq [1,1,1] (bodyOf Tryd.f9)) (aq [1,1,1] N1c) ⟨mkE 26 0 [],[]⟩ (Nde) (fun (t : Bool) => (Exit.ret,⟨mkE 26 0 [(2,dB t)],[]⟩)) := .of fun K h => by
  simp only [Nde,wpW] at h
  exact .of (by kernel_rfl) h
theorem Ntq (b : List Int) (d : List (List Int)) {r : AV} {H' : Heap} (h : (Ans.mk _ (Nx b d) (fun (t : Bool) => (dB t,[])) [] none).run = some (r,H')) : Awp N3n LL (bodyOf Tryd.f9) N1c ⟨mkE 26 0 [(0,.agg [dL b,.dat (.list (.list (.int .i64))) d])],[]⟩ (Ret (tlook tys) Tryd.f9.results.toList r H') :=
  ret_of' (Link.cast (by kernel_rfl) (by kernel_rfl) (link_group (c := (cq [0,1] (bodyOf Tryd.f9))) (a := (aq [0,1] N1c)) [(cq [0] (bodyOf Tryd.f9))] [(aq [0] N1c)] rfl (link_seq2 (Nwp b d) (fun (t : Unit) => (link_seq2 (link_seq (Nww b d) (fun (t : Int) => (link_block (fin2 := (Sum.elim (fun (t18 : Unit) => (Exit.normal,⟨mkE 26 0 [],[]⟩)) (fun (t18 : Bool) => (Exit.ret,⟨mkE 26 0 [(2,dB t18)],[]⟩)))) (id := 0) (link_loop (mk := fun (s : Int) => ⟨mkE 26 0 [(16,.dat (.list (.list (.int .i64))) d),(17,dI t),(18,dI s)],[]⟩) (fin := (Sum.elim (fun (t18 : Bool) => (Exit.ret,⟨mkE 26 0 [(2,dB t18)],[]⟩)) (fun (t18 : Unit) => ((Exit.exit 0),⟨mkE 26 0 [],[]⟩)))) (by
  rintro (t18 | t18) f K h
  · exact h
  · exact h) (fun s => link_map (Nm5 d t s) (Sum.elim (fun (t18 : Int) => Sum.inl t18) (Sum.elim (fun (t18 : Bool) => Sum.inr (Sum.inl t18)) (fun (t18 : Unit) => Sum.inr (Sum.inr t18)))) (by
  rintro (t18 | t18 | t18)
  · kernel_rfl
  · kernel_rfl
  · kernel_rfl)) 0) (Sum.elim (fun (t18 : Bool) => (Sum.inr t18)) (fun (t18 : Unit) => (Sum.inl ()))) (by
  rintro (t18 | t18) K h
  · exact Eq.mp (by kernel_rfl) h
  · exact Eq.mp (by kernel_rfl) h)))) (fun (t : Unit) => (Nl0)) (fun (t : Bool) => t) (by
  rintro t
  · kernel_rfl) (by
  rintro t f K h
  · exact h))) (fun (t : Bool) => t) (by
  rintro t
  · kernel_rfl) (by
  rintro t f K h
  · exact h)))) (by unfold Nx; kernel_rfl) (by
  intro t
  exact ret_mk [dB t] (by kernel_rfl) (by kernel_rfl) (by kernel_rfl) (by kernel_rfl)) h
def N7h : Fun := fun avs H =>
  match avs,H with
  | [.agg [.dat (.list (.int .i64)) a,.dat (.list (.list (.int .i64))) b]],[] => ⟨_,Nx a b,fun (t : Bool) => (dB t,[]),[],none⟩
  | _,_ => Ans.no
theorem Nka : Sound Tryd.prog 9 N7h := by
  refine fn_sound' (C := N3n) (c := bodyOf Tryd.f9) (cok_of tys_ok (allc Nv alln) (allc Tryd.call30 alln) (by kernel_rfl)) Tryd.func9 (by kernel_rfl) LL N1c ?_
  intro avs H r H' h
  unfold N7h at h
  split at h
  · refine Awp.cast ?_ ?_ ?_ (Ntq _ _ h) <;> kernel_rfl
  · simp [Ans.no,Ans.run] at h

def Nen : Ann := (.seq (.leaf [0]) (.seq (.seq (.leaf [3]) (.block (.seq (.leaf [3,4]) (.cond (.seq (.leaf [2]) (.leaf [2])) (.seq (.leaf [6]) (.cond (.seq (.leaf [2]) (.leaf [2])) (.leaf []))))))) (.seq (.leaf [2]) (.leaf [2]))))
noncomputable def Nc6 : Ctx := ⟨tlook tys,olook [],ioF,0,false,[]⟩
theorem Nxl (a : Int) : Link Nc6 LL (bodyOf Tryd.f41) Nen ⟨mkE 8 0 [(0,dI a)],[]⟩ (N7r a) (fun (t : Int) => (Exit.ret,⟨mkE 8 0 [(2,dI t)],[]⟩)) := .of fun K h => by
  simp only [N7r,wpW] at h
  exact .of (by kernel_rfl) h
theorem Nvd (a : Int) {r : AV} {H' : Heap} (h : (Ans.mk _ (N5h a) (fun (t : Int) => (dI t,[])) [] none).run = some (r,H')) : Awp Nc6 LL (bodyOf Tryd.f41) Nen ⟨mkE 8 0 [(0,dI a)],[]⟩ (Ret (tlook tys) Tryd.f41.results.toList r H') :=
  ret_of' (Nxl a) (by unfold N5h; kernel_rfl) (by
  intro t
  exact ret_mk [dI t] (by kernel_rfl) (by kernel_rfl) (by kernel_rfl) (by kernel_rfl)) h
def Ndt : Fun := fun avs H =>
  match avs,H with
  | [.dat (.int .i64) a],[] => ⟨_,N5h a,fun (t : Int) => (dI t,[]),[],none⟩
  | _,_ => Ans.no
theorem Np9 : Sound Tryd.prog 41 Ndt := by
  refine fn_sound' (C := Nc6) (c := bodyOf Tryd.f41) (cok_of tys_ok (alln) (alln) (by kernel_rfl)) Tryd.func41 (by kernel_rfl) LL Nen ?_
  intro avs H r H' h
  unfold Ndt at h
  split at h
  · refine Awp.cast ?_ ?_ ?_ (Nvd _ h) <;> kernel_rfl
  · simp [Ans.no,Ans.run] at h

def Nbn : Ann := (.seq (.leaf [1]) (.seq (.leaf [1,3]) (.seq (.leaf [2]) (.leaf [2]))))
noncomputable def Nan : Ctx := ⟨tlook tys,olook [(41,Ndt)],ioF,0,false,[]⟩
theorem Nq1 (a b c : Int) : Link Nan LL (bodyOf Tryd.f21) Nbn ⟨mkE 23 0 [(0,.agg [dI a,dI b,dI c])],[]⟩ (N8u a b c) (fun (t : Bool) => (Exit.ret,⟨mkE 23 0 [(2,dB t)],[]⟩)) := .of fun K h => by
  simp only [N8u,wpW] at h
  exact .of (by kernel_rfl) h
theorem No2 (a b c : Int) {r : AV} {H' : Heap} (h : (Ans.mk _ (N4k a b c) (fun (t : Bool) => (dB t,[])) [] none).run = some (r,H')) : Awp Nan LL (bodyOf Tryd.f21) Nbn ⟨mkE 23 0 [(0,.agg [dI a,dI b,dI c])],[]⟩ (Ret (tlook tys) Tryd.f21.results.toList r H') :=
  ret_of' (Nq1 a b c) (by unfold N4k; kernel_rfl) (by
  intro t
  exact ret_mk [dB t] (by kernel_rfl) (by kernel_rfl) (by kernel_rfl) (by kernel_rfl)) h
def Nad : Fun := fun avs H =>
  match avs,H with
  | [.agg [.dat (.int .i64) a,.dat (.int .i64) b,.dat (.int .i64) c]],[] => ⟨_,N4k a b c,fun (t : Bool) => (dB t,[]),[],none⟩
  | _,_ => Ans.no
theorem Ntz : Sound Tryd.prog 21 Nad := by
  refine fn_sound' (C := Nan) (c := bodyOf Tryd.f21) (cok_of tys_ok (allc Np9 alln) (allc Tryd.call41 alln) (by kernel_rfl)) Tryd.func21 (by kernel_rfl) LL Nbn ?_
  intro avs H r H' h
  unfold Nad at h
  split at h
  · refine Awp.cast ?_ ?_ ?_ (No2 _ _ _ h) <;> kernel_rfl
  · simp [Ans.no,Ans.run] at h

def ren_slices_Clone_int_int : Go.Shelf.Ren := ⟨fun | 41 => 42 | n => n,fun | 4 => 4 | 22 => 23 | 23 => 3 | n => n,fun n => n⟩
theorem lay_slices_Clone_int_int : SlLaysE0.n41 Tryd.prog ren_slices_Clone_int_int := {
  mixed := by kernel_rfl
  f41 := ⟨Tryd.f42.name,by kernel_rfl,Tryd.func42.trans (congrArg some (by kernel_rfl))⟩
  t4 := Tryd.underlying4
  a4 := Tryd.isAgg4
  z4 := Tryd.sizeOf4
  v4 := Tryd.zeroValue4
  t22 := Tryd.underlying23
  a22 := Tryd.isAgg23
  z22 := Tryd.sizeOf23
  v22 := Tryd.zeroValue23 }
def Ndu : Fun := F_cloneD
theorem Nhl : Sound Tryd.prog 42 Ndu := cloneD_sound lay_slices_Clone_int_int (infoOf (Tryd.prog.info? 3)) (.int .i64 0) 8 (by kernel_rfl) (by kernel_rfl) (by kernel_rfl) (by kernel_rfl) (by kernel_rfl) (by decide) Tryd.sizeOf3

def N19 : Ann := (.seq (.leaf [0,1,4]) (.seq (.leaf [1,4,5]) (.seq (.seq (.leafF [⟨3,5,true,some 1,some (.int .i64)⟩] [4,5,11,12,13]) (.block (.loop (.seq (.leaf [4,5,11,12,13,14]) (.seq (.cond (.leaf [4,5,11,12,13]) (.leaf [4,5])) (.seq (.block (.seq (.leaf [4,5,7,11,12,13]) (.draw [3,100005] [0,1,2,3,4,5,6,7] [] [4,5,11,12,13]))) (.leaf [4,5,11,12,13]))))))) (.seq (.leaf [4]) (.leaf [4])))))
noncomputable def N3q : Ctx := ⟨tlook tys,olook [(42,Ndu)],ioF,0,true,[]⟩
theorem Nzc (a : List Int) (b : List (List Int)) : Link N3q LL (Code.seq (cq [0] (bodyOf Tryd.f22)) (cq [0,1] (bodyOf Tryd.f22))) (Ann.seq (aq [0] N19) (aq [0,1] N19)) ⟨mkE 26 0 [(0,dL a),(1,.dat (.list (.list (.int .i64))) b)],[]⟩ (N8q a) (fun (t : (List Int)) => (Exit.normal,⟨mkE 26 0 [(1,.dat (.list (.list (.int .i64))) b),(4,.ptr 0 0),(5,.ptr 1 0)],[some (.box [.nils,.nils]),some (.box [.slc 2,.nils]),some (sI t)]⟩)) := .of fun K h => by
  simp only [N8q,wpW] at h
  exact .of (by kernel_rfl) h
theorem Nrp (a : List (List Int)) (b : List Int) : Link N3q LL (cq [0,0,1,1] (bodyOf Tryd.f22)) (aq [0,0,1,1] N19) ⟨mkE 26 0 [(1,.dat (.list (.list (.int .i64))) a),(4,.ptr 0 0),(5,.ptr 1 0)],[some (.box [.nils,.nils]),some (.box [.slc 2,.nils]),some (sI b)]⟩ (N7n a) (fun (t : Int) => (Exit.normal,⟨mkE 26 0 [(4,.ptr 0 0),(5,.ptr 1 0),(11,.dat (.list (.list (.int .i64))) a),(12,dI t),(13,dI 0)],[some (.box [.nils,.nils]),some (.box [.slc 2,.slc 3]),some (sI b),some (.nest (.int .i64) ([] : List (List Int)) 0 [])]⟩)) := .of fun K h => by
  simp only [N7n,wpW] at h
  exact .of (by kernel_rfl) h
theorem Nof (a : List (List Int)) (b c : Int) (d : List Int) (g : List (List Int)) : Link N3q LL (cq [0,0,1,0,1,1] (bodyOf Tryd.f22)) (aq [0,0,1,0,1,1] N19) ⟨mkE 26 0 [(4,.ptr 0 0),(5,.ptr 1 0),(11,.dat (.list (.list (.int .i64))) a),(12,dI b),(13,dI c)],[some (.box [.nils,.nils]),some (.box [.slc 2,.slc 3]),some (sI d),some (.nest (.int .i64) g 0 [])]⟩ (N4t a b c g) (Sum.elim (fun (t : Int × (List (List Int))) => (Exit.normal,⟨mkE 26 0 [(4,.ptr 0 0),(5,.ptr 1 0),(11,.dat (.list (.list (.int .i64))) a),(12,dI b),(13,dI t.1)],[some (.box [.nils,.nils]),some (.box [.slc 2,.slc 3]),some (sI d),some (.nest (.int .i64) t.2 0 [])]⟩)) (fun (t : (List (List Int))) => ((Exit.exit 0),⟨mkE 26 0 [(4,.ptr 0 0),(5,.ptr 1 0)],[some (.box [.nils,.nils]),some (.box [.slc 2,.slc 3]),some (sI d),some (.nest (.int .i64) t 0 [])]⟩))) := .of fun K h => by
  simp only [N4t,wpW] at h
  exact .of (by kernel_rfl) h
theorem Nz5 (a : List Int) (b : List (List Int)) : Link N3q LL (cq [1,1,1] (bodyOf Tryd.f22)) (aq [1,1,1] N19) ⟨mkE 26 0 [(4,.ptr 0 0),(5,.ptr 1 0)],[some (.box [.nils,.nils]),some (.box [.slc 2,.slc 3]),some (sI a),some (.nest (.int .i64) b 0 [])]⟩ (N6q a b) (fun (t : (List Int) × (List (List Int))) => (Exit.ret,⟨mkE 26 0 [(4,.ptr 0 0)],[some (.box [.slc 1,.slc 2]),some (sI t.1),some (.nest (.int .i64) t.2 0 [])]⟩)) := .of fun K h => by
  simp only [N6q,wpW] at h
  exact .of (by kernel_rfl) h
theorem Ntn (b : List Int) (d : List (List Int)) {r : AV} {H' : Heap} (h : (Ans.mk _ (Nd b d) (fun (t : (List Int) × (List (List Int))) => (.agg [.slc 1,.slc 2],[some (.box [.slc 1,.slc 2]),some (sI t.1),some (.nest (.int .i64) t.2 0 [])])) [] none).run = some (r,H')) : Awp N3q LL (bodyOf Tryd.f22) N19 ⟨mkE 26 0 [(0,dL b),(1,.dat (.list (.list (.int .i64))) d)],[]⟩ (Ret (tlook tys) Tryd.f22.results.toList r H') :=
  ret_of' (Link.cast (by kernel_rfl) (by kernel_rfl) (link_group (c := (cq [0,1] (bodyOf Tryd.f22))) (a := (aq [0,1] N19)) [(cq [0] (bodyOf Tryd.f22))] [(aq [0] N19)] rfl (link_seq (Nzc b d) (fun (t : (List Int)) => (link_seq (link_seq (Nrp d t) (fun (t41 : Int) => (link_block (fin2 := (fun (t19 : (List (List Int))) => (Exit.normal,⟨mkE 26 0 [(4,.ptr 0 0),(5,.ptr 1 0)],[some (.box [.nils,.nils]),some (.box [.slc 2,.slc 3]),some (sI t),some (.nest (.int .i64) t19 0 [])]⟩))) (id := 0) (link_loop (mk := fun (s : Int × (List (List Int))) => ⟨mkE 26 0 [(4,.ptr 0 0),(5,.ptr 1 0),(11,.dat (.list (.list (.int .i64))) d),(12,dI t41),(13,dI s.1)],[some (.box [.nils,.nils]),some (.box [.slc 2,.slc 3]),some (sI t),some (.nest (.int .i64) s.2 0 [])]⟩) (fin := (fun (t19 : (List (List Int))) => ((Exit.exit 0),⟨mkE 26 0 [(4,.ptr 0 0),(5,.ptr 1 0)],[some (.box [.nils,.nils]),some (.box [.slc 2,.slc 3]),some (sI t),some (.nest (.int .i64) t19 0 [])]⟩))) (by
  rintro t19 f K h
  · exact h) (fun s => link_map (Nof d t41 s.1 t s.2) (Sum.elim (fun (t19 : Int × (List (List Int))) => Sum.inl (t19.1,t19.2)) (fun (t19 : (List (List Int))) => Sum.inr t19)) (by
  rintro (t19 | t19)
  · kernel_rfl
  · kernel_rfl)) (0,([] : List (List Int)))) (fun (t19 : (List (List Int))) => t19) (by
  rintro t19 K h
  · exact Eq.mp (by kernel_rfl) h)))) (fun (t41 : (List (List Int))) => (Nz5 t t41))))))) (by unfold Nd; kernel_rfl) (by
  intro t
  exact ret_mk [.agg [.slc 1,.slc 2]] (by kernel_rfl) (by kernel_rfl) (by kernel_rfl) (by kernel_rfl)) h
def N5s : Fun := fun avs H =>
  match avs,H with
  | [.dat (.list (.int .i64)) a,.dat (.list (.list (.int .i64))) b],[] => ⟨_,Nd a b,fun (t : (List Int) × (List (List Int))) => (.agg [.slc 1,.slc 2],[some (.box [.slc 1,.slc 2]),some (sI t.1),some (.nest (.int .i64) t.2 0 [])]),[],none⟩
  | _,_ => Ans.no
theorem Nco : Sound Tryd.prog 22 N5s := by
  refine fn_sound' (C := N3q) (c := bodyOf Tryd.f22) (cok_of tys_ok (allc Nhl alln) (allc Tryd.call42 alln) (by kernel_rfl)) Tryd.func22 (by kernel_rfl) LL N19 ?_
  intro avs H r H' h
  unfold N5s at h
  split at h
  · refine Awp.cast ?_ ?_ ?_ (Ntn _ _ h) <;> kernel_rfl
  · simp [Ans.no,Ans.run] at h

def Ndm : Ann := (.seq (.leaf [1,2]) (.seq (.leaf [1,2,4]) (.seq (.seq (.leaf [1,2,4,10]) (.cond (.seq (.leaf [2,3]) (.leaf [2,3])) (.leaf [1,2,4]))) (.seq (.draw [9] [0,1,2,3,4,5,6,7,8,9,10,11] [] [2,3]) (.leaf [2,3])))))
noncomputable def Nd6 : Ctx := ⟨tlook tys,olook [(22,N5s)],ioF,0,true,[]⟩
theorem Nn6 (a : List Int) (b : List (List Int)) : Link Nd6 LL (bodyOf Tryd.f23) Ndm ⟨mkE 24 0 [(0,.agg [dL a,.dat (.list (.list (.int .i64))) b])],[]⟩ (N50 a b) (fun (t : Bool × (List Int) × (List (List Int))) => (Exit.ret,⟨mkE 24 0 [(2,.ptr 0 0),(3,dB t.1)],[some (.box [.slc 1,.slc 2]),some (sI t.2.1),some (.nest (.int .i64) t.2.2 0 [])]⟩)) := .of fun K h => by
  simp only [N50,wpW] at h
  exact .of (by kernel_rfl) h
theorem Nv8 (a : List Int) (b : List (List Int)) {r : AV} {H' : Heap} (h : (Ans.mk _ (N34 a b) (fun (t : Bool × (List Int) × (List (List Int))) => (.tup [.agg [.slc 1,.slc 2],dB t.1],[some (.box [.slc 1,.slc 2]),some (sI t.2.1),some (.nest (.int .i64) t.2.2 0 [])])) [] none).run = some (r,H')) : Awp Nd6 LL (bodyOf Tryd.f23) Ndm ⟨mkE 24 0 [(0,.agg [dL a,.dat (.list (.list (.int .i64))) b])],[]⟩ (Ret (tlook tys) Tryd.f23.results.toList r H') :=
  ret_of' (Nn6 a b) (by unfold N34; kernel_rfl) (by
  intro t
  exact ret_mk [.agg [.slc 1,.slc 2],dB t.1] (by kernel_rfl) (by kernel_rfl) (by kernel_rfl) (by kernel_rfl)) h
def Nf2 : Fun := fun avs H =>
  match avs,H with
  | [.agg [.dat (.list (.int .i64)) a,.dat (.list (.list (.int .i64))) b]],[] => ⟨_,N34 a b,fun (t : Bool × (List Int) × (List (List Int))) => (.tup [.agg [.slc 1,.slc 2],dB t.1],[some (.box [.slc 1,.slc 2]),some (sI t.2.1),some (.nest (.int .i64) t.2.2 0 [])]),[],none⟩
  | _,_ => Ans.no
theorem Nvs : Sound Tryd.prog 23 Nf2 := by
  refine fn_sound' (C := Nd6) (c := bodyOf Tryd.f23) (cok_of tys_ok (allc Nco alln) (allc Tryd.call22 alln) (by kernel_rfl)) Tryd.func23 (by kernel_rfl) LL Ndm ?_
  intro avs H r H' h
  unfold Nf2 at h
  split at h
  · refine Awp.cast ?_ ?_ ?_ (Nv8 _ _ h) <;> kernel_rfl
  · simp [Ans.no,Ans.run] at h

def Nby : Ann := (.seq (.leaf [0,1]) (.seq (.leaf [4]) (.leaf [4])))
noncomputable def Ndj : Ctx := ⟨tlook tys,olook [(30,Nh)],ioF,0,false,[]⟩
theorem Nlh (a : List Int) (b : Int) : Link Ndj LL (bodyOf Tryd.f60) Nby ⟨mkE 17 0 [(0,dL a),(1,dI b)],[]⟩ (N5m a b) (fun (t : Bool) => (Exit.ret,⟨mkE 17 0 [(4,dB t)],[]⟩)) := .of fun K h => by
  simp only [N5m,wpW] at h
  exact .of (by kernel_rfl) h
theorem Nq5 (a : List Int) (b : Int) {r : AV} {H' : Heap} (h : (Ans.mk _ (N35 a b) (fun (t : Bool) => (dB t,[])) [] none).run = some (r,H')) : Awp Ndj LL (bodyOf Tryd.f60) Nby ⟨mkE 17 0 [(0,dL a),(1,dI b)],[]⟩ (Ret (tlook tys) Tryd.f60.results.toList r H') :=
  ret_of' (Nlh a b) (by unfold N35; kernel_rfl) (by
  intro t
  exact ret_mk [dB t] (by kernel_rfl) (by kernel_rfl) (by kernel_rfl) (by kernel_rfl)) h
def Nff : Fun := fun avs H =>
  match avs,H with
  | [.dat (.list (.int .i64)) a,.dat (.int .i64) b],[] => ⟨_,N35 a b,fun (t : Bool) => (dB t,[]),[],none⟩
  | _,_ => Ans.no
theorem Nxi : Sound Tryd.prog 60 Nff := by
  refine fn_sound' (C := Ndj) (c := bodyOf Tryd.f60) (cok_of tys_ok (allc Nv alln) (allc Tryd.call30 alln) (by kernel_rfl)) Tryd.func60 (by kernel_rfl) LL Nby ?_
  intro avs H r H' h
  unfold Nff at h
  split at h
  · refine Awp.cast ?_ ?_ ?_ (Nq5 _ _ h) <;> kernel_rfl
  · simp [Ans.no,Ans.run] at h

def N1n : Ann := (.seq (.leaf [0]) (.seq (.leaf [0,3]) (.seq (.seq (.leaf [0,3,8,9]) (.block (.loop (.seq (.leaf [0,3,8,9,10]) (.seq (.cond (.leaf [0,3,8,9]) (.leaf [3])) (.seq (.block (.seq (.leaf [0,3,4,8,9]) (.leaf [0,3,8,9]))) (.leaf [0,3,8,9]))))))) (.seq (.leaf [2]) (.leaf [2])))))
noncomputable def N4o : Ctx := ⟨tlook tys,olook [],ioF,0,false,[]⟩
theorem Nxk (a : Int) : Link N4o LL (Code.seq (cq [0] (bodyOf Tryd.f71)) (cq [0,1] (bodyOf Tryd.f71))) (Ann.seq (aq [0] N1n) (aq [0,1] N1n)) ⟨mkE 20 0 [(0,dI a)],[]⟩ (N88 a) (fun (t : (List Int)) => (Exit.normal,⟨mkE 20 0 [(0,dI a),(3,.slc 0)],[some (sI t)]⟩)) := .of fun K h => by
  simp only [N88,wpW] at h
  exact .of (by kernel_rfl) h
theorem Nmb (a : Int) (b : List Int) : Link N4o LL (cq [0,0,1,1] (bodyOf Tryd.f71)) (aq [0,0,1,1] N1n) ⟨mkE 20 0 [(0,dI a),(3,.slc 0)],[some (sI b)]⟩ (N94 b) (fun (t : Int) => (Exit.normal,⟨mkE 20 0 [(0,dI a),(3,.slc 0),(8,dI t),(9,dI 0)],[some (sI b)]⟩)) := .of fun K h => by
  simp only [N94,wpW] at h
  exact .of (by kernel_rfl) h
theorem Nnp (a b c : Int) (d : List Int) : Link N4o LL (cq [0,0,1,0,1,1] (bodyOf Tryd.f71)) (aq [0,0,1,0,1,1] N1n) ⟨mkE 20 0 [(0,dI a),(3,.slc 0),(8,dI b),(9,dI c)],[some (sI d)]⟩ (N4i a b c d) (Sum.elim (fun (t : Int × (List Int)) => (Exit.normal,⟨mkE 20 0 [(0,dI a),(3,.slc 0),(8,dI b),(9,dI t.1)],[some (sI t.2)]⟩)) (fun (t : (List Int)) => ((Exit.exit 0),⟨mkE 20 0 [(3,.slc 0)],[some (sI t)]⟩))) := .of fun K h => by
  simp only [N4i,wpW] at h
  exact .of (by kernel_rfl) h
theorem Nuu (a : List Int) : Link N4o LL (cq [1,1,1] (bodyOf Tryd.f71)) (aq [1,1,1] N1n) ⟨mkE 20 0 [(3,.slc 0)],[some (sI a)]⟩ (N9x a) (fun (t : (List Int)) => (Exit.ret,⟨mkE 20 0 [(2,.slc 0)],[some (sI t)]⟩)) := .of fun K h => by
  simp only [N9x,wpW] at h
  exact .of (by kernel_rfl) h
theorem Nrk (b : Int) {r : AV} {H' : Heap} (h : (Ans.mk _ (N31 b) (fun (t : (List Int)) => (.slc 0,[some (sI t)])) [] none).run = some (r,H')) : Awp N4o LL (bodyOf Tryd.f71) N1n ⟨mkE 20 0 [(0,dI b)],[]⟩ (Ret (tlook tys) Tryd.f71.results.toList r H') :=
  ret_of' (Link.cast (by kernel_rfl) (by kernel_rfl) (link_group (c := (cq [0,1] (bodyOf Tryd.f71))) (a := (aq [0,1] N1n)) [(cq [0] (bodyOf Tryd.f71))] [(aq [0] N1n)] rfl (link_seq (Nxk b) (fun (t : (List Int)) => (link_seq (link_seq (Nmb b t) (fun (t42 : Int) => (link_block (fin2 := (fun (t20 : (List Int)) => (Exit.normal,⟨mkE 20 0 [(3,.slc 0)],[some (sI t20)]⟩))) (id := 0) (link_loop (mk := fun (s : Int × (List Int)) => ⟨mkE 20 0 [(0,dI b),(3,.slc 0),(8,dI t42),(9,dI s.1)],[some (sI s.2)]⟩) (fin := (fun (t20 : (List Int)) => ((Exit.exit 0),⟨mkE 20 0 [(3,.slc 0)],[some (sI t20)]⟩))) (by
  rintro t20 f K h
  · exact h) (fun s => link_map (Nnp b t42 s.1 s.2) (Sum.elim (fun (t20 : Int × (List Int)) => Sum.inl (t20.1,t20.2)) (fun (t20 : (List Int)) => Sum.inr t20)) (by
  rintro (t20 | t20)
  · kernel_rfl
  · kernel_rfl)) (0,t)) (fun (t20 : (List Int)) => t20) (by
  rintro t20 K h
  · exact Eq.mp (by kernel_rfl) h)))) (fun (t42 : (List Int)) => (Nuu t42))))))) (by unfold N31; kernel_rfl) (by
  intro t
  exact ret_mk [.slc 0] (by kernel_rfl) (by kernel_rfl) (by kernel_rfl) (by kernel_rfl)) h
def Nca : Fun := fun avs H =>
  match avs,H with
  | [.dat (.int .i64) a],[] => ⟨_,N31 a,fun (t : (List Int)) => (.slc 0,[some (sI t)]),[],none⟩
  | _,_ => Ans.no
theorem Nxr : Sound Tryd.prog 71 Nca := by
  refine fn_sound' (C := N4o) (c := bodyOf Tryd.f71) (cok_of tys_ok (alln) (alln) (by kernel_rfl)) Tryd.func71 (by kernel_rfl) LL N1n ?_
  intro avs H r H' h
  unfold Nca at h
  split at h
  · refine Awp.cast ?_ ?_ ?_ (Nrk _ h) <;> kernel_rfl
  · simp [Ans.no,Ans.run] at h

def Nj : Ann := (.seq (.leaf [0,1]) (.seq (.seq (.leaf [0,1,19]) (.cond (.seq (.leaf [4]) (.leaf [4])) (.leaf [0,1]))) (.seq (.leaf [0,1,5]) (.seq (.seq (.leaf [1,5,20,21,22]) (.block (.loop (.seq (.leaf [1,5,20,21,22,23]) (.seq (.cond (.leaf [1,5,20,21,22]) (.leaf [])) (.seq (.block (.seq (.leaf [1,5,7,20,21,22]) (.seq (.seq (.leaf [1,5,7,20,21,22,37]) (.cond (.seq (.leaf [4]) (.leaf [4])) (.leaf [1,5,7,20,21,22]))) (.leaf [1,5,20,21,22])))) (.leaf [1,5,20,21,22]))))))) (.seq (.leaf [4]) (.leaf [4]))))))
noncomputable def N4p : Ctx := ⟨tlook tys,olook [],ioF,0,false,[]⟩
theorem Nzq (a : List Int) (b : Int) : Link N4p LL (Code.seq (cq [0] (bodyOf Tryd.f77)) (Code.seq (cq [0,1] (bodyOf Tryd.f77)) (cq [0,1,1] (bodyOf Tryd.f77)))) (Ann.seq (aq [0] Nj) (Ann.seq (aq [0,1] Nj) (aq [0,1,1] Nj))) ⟨mkE 41 0 [(0,dL a),(1,dI b)],[]⟩ (N9g a b) (Sum.elim (fun (t : Unit) => (Exit.normal,⟨mkE 41 0 [(0,dL a),(1,dI b),(5,.ptr 0 0)],[some (.seq .bool (List.replicate 9 false))]⟩)) (fun (t : Bool) => (Exit.ret,⟨mkE 41 0 [(4,dB t)],[]⟩))) := .of fun K h => by
  simp only [N9g,wpW] at h
  exact .of (by kernel_rfl) h
theorem Nr2 (a : List Int) (b : Int) : Link N4p LL (cq [0,0,1,1,1] (bodyOf Tryd.f77)) (aq [0,0,1,1,1] Nj) ⟨mkE 41 0 [(0,dL a),(1,dI b),(5,.ptr 0 0)],[some (.seq .bool (List.replicate 9 false))]⟩ (N8y a) (fun (t : Int) => (Exit.normal,⟨mkE 41 0 [(1,dI b),(5,.ptr 0 0),(20,dL a),(21,dI t),(22,dI 0)],[some (.seq .bool (List.replicate 9 false))]⟩)) := .of fun K h => by
  simp only [N8y,wpW] at h
  exact .of (by kernel_rfl) h
theorem Nu2 (a : Int) (b : List Int) (c d : Int) (g : List Bool) : Link N4p LL (cq [0,0,1,0,1,1,1] (bodyOf Tryd.f77)) (aq [0,0,1,0,1,1,1] Nj) ⟨mkE 41 0 [(1,dI a),(5,.ptr 0 0),(20,dL b),(21,dI c),(22,dI d)],[some (.seq .bool g)]⟩ (N5q a b c d g) (Sum.elim (fun (t : Int × (List Bool)) => (Exit.normal,⟨mkE 41 0 [(1,dI a),(5,.ptr 0 0),(20,dL b),(21,dI c),(22,dI t.1)],[some (.seq .bool t.2)]⟩)) (Sum.elim (fun (t : Bool) => (Exit.ret,⟨mkE 41 0 [(4,dB t)],[]⟩)) (fun (t : Unit) => ((Exit.exit 0),⟨mkE 41 0 [],[]⟩)))) := .of fun K h => by
  simp only [N5q,wpW] at h
  exact .of (by kernel_rfl) h
theorem Nrs : Link N4p LL (cq [1,1,1,1] (bodyOf Tryd.f77)) (aq [1,1,1,1] Nj) ⟨mkE 41 0 [],[]⟩ (N9r) (fun (t : Bool) => (Exit.ret,⟨mkE 41 0 [(4,dB t)],[]⟩)) := .of fun K h => by
  simp only [N9r,wpW] at h
  exact .of (by kernel_rfl) h
theorem Nm3 (b : List Int) (d : Int) {r : AV} {H' : Heap} (h : (Ans.mk _ (N3x b d) (fun (t : Bool) => (dB t,[])) [] none).run = some (r,H')) : Awp N4p LL (bodyOf Tryd.f77) Nj ⟨mkE 41 0 [(0,dL b),(1,dI d)],[]⟩ (Ret (tlook tys) Tryd.f77.results.toList r H') :=
  ret_of' (Link.cast (by kernel_rfl) (by kernel_rfl) (link_group (c := (cq [0,1,1] (bodyOf Tryd.f77))) (a := (aq [0,1,1] Nj)) [(cq [0] (bodyOf Tryd.f77)),(cq [0,1] (bodyOf Tryd.f77))] [(aq [0] Nj),(aq [0,1] Nj)] rfl (link_seq2 (Nzq b d) (fun (t : Unit) => (link_seq2 (link_seq (Nr2 b d) (fun (t : Int) => (link_block (fin2 := (Sum.elim (fun (t21 : Unit) => (Exit.normal,⟨mkE 41 0 [],[]⟩)) (fun (t21 : Bool) => (Exit.ret,⟨mkE 41 0 [(4,dB t21)],[]⟩)))) (id := 0) (link_loop (mk := fun (s : Int × (List Bool)) => ⟨mkE 41 0 [(1,dI d),(5,.ptr 0 0),(20,dL b),(21,dI t),(22,dI s.1)],[some (.seq .bool s.2)]⟩) (fin := (Sum.elim (fun (t21 : Bool) => (Exit.ret,⟨mkE 41 0 [(4,dB t21)],[]⟩)) (fun (t21 : Unit) => ((Exit.exit 0),⟨mkE 41 0 [],[]⟩)))) (by
  rintro (t21 | t21) f K h
  · exact h
  · exact h) (fun s => link_map (Nu2 d b t s.1 s.2) (Sum.elim (fun (t21 : Int × (List Bool)) => Sum.inl (t21.1,t21.2)) (Sum.elim (fun (t21 : Bool) => Sum.inr (Sum.inl t21)) (fun (t21 : Unit) => Sum.inr (Sum.inr t21)))) (by
  rintro (t21 | t21 | t21)
  · kernel_rfl
  · kernel_rfl
  · kernel_rfl)) (0,(List.replicate 9 false))) (Sum.elim (fun (t21 : Bool) => (Sum.inr t21)) (fun (t21 : Unit) => (Sum.inl ()))) (by
  rintro (t21 | t21) K h
  · exact Eq.mp (by kernel_rfl) h
  · exact Eq.mp (by kernel_rfl) h)))) (fun (t : Unit) => (Nrs)) (fun (t : Bool) => t) (by
  rintro t
  · kernel_rfl) (by
  rintro t f K h
  · exact h))) (fun (t : Bool) => t) (by
  rintro t
  · kernel_rfl) (by
  rintro t f K h
  · exact h)))) (by unfold N3x; kernel_rfl) (by
  intro t
  exact ret_mk [dB t] (by kernel_rfl) (by kernel_rfl) (by kernel_rfl) (by kernel_rfl)) h
def Ned : Fun := fun avs H =>
  match avs,H with
  | [.dat (.list (.int .i64)) a,.dat (.int .i64) b],[] => ⟨_,N3x a b,fun (t : Bool) => (dB t,[]),[],none⟩
  | _,_ => Ans.no
theorem Noi : Sound Tryd.prog 77 Ned := by
  refine fn_sound' (C := N4p) (c := bodyOf Tryd.f77) (cok_of tys_ok (alln) (alln) (by kernel_rfl)) Tryd.func77 (by kernel_rfl) LL Nj ?_
  intro avs H r H' h
  unfold Ned at h
  split at h
  · refine Awp.cast ?_ ?_ ?_ (Nm3 _ _ h) <;> kernel_rfl
  · simp [Ans.no,Ans.run] at h

def N1k : Ann := (.seq (.leaf [0]) (.seq (.leaf [0,3]) (.seq (.seq (.leaf [3,10,11,12]) (.block (.loop (.seq (.leaf [3,10,11,12,13]) (.seq (.cond (.leaf [3,10,11,12]) (.leaf [3])) (.seq (.block (.seq (.leaf [3,4,5,10,11,12]) (.leaf [3,10,11,12]))) (.leaf [3,10,11,12]))))))) (.seq (.leaf [2]) (.leaf [2])))))
noncomputable def N3l : Ctx := ⟨tlook tys,olook [],ioF,0,false,[]⟩
theorem N106 (a : List Int) : Link N3l LL (Code.seq (cq [0] (bodyOf Tryd.f78)) (cq [0,1] (bodyOf Tryd.f78))) (Ann.seq (aq [0] N1k) (aq [0,1] N1k)) ⟨mkE 24 0 [(0,dL a)],[]⟩ (N8z a) (fun (t : (List Int)) => (Exit.normal,⟨mkE 24 0 [(0,dL a),(3,.slc 0)],[some (sI t)]⟩)) := .of fun K h => by
  simp only [N8z,wpW] at h
  exact .of (by kernel_rfl) h
theorem Nw6 (a b : List Int) : Link N3l LL (cq [0,0,1,1] (bodyOf Tryd.f78)) (aq [0,0,1,1] N1k) ⟨mkE 24 0 [(0,dL a),(3,.slc 0)],[some (sI b)]⟩ (N6c a) (fun (t : Int) => (Exit.normal,⟨mkE 24 0 [(3,.slc 0),(10,dL a),(11,dI t),(12,dI 0)],[some (sI b)]⟩)) := .of fun K h => by
  simp only [N6c,wpW] at h
  exact .of (by kernel_rfl) h
theorem Nt8 (a : List Int) (b c : Int) (d : List Int) : Link N3l LL (cq [0,0,1,0,1,1] (bodyOf Tryd.f78)) (aq [0,0,1,0,1,1] N1k) ⟨mkE 24 0 [(3,.slc 0),(10,dL a),(11,dI b),(12,dI c)],[some (sI d)]⟩ (N44 a b c d) (Sum.elim (fun (t : Int × (List Int)) => (Exit.normal,⟨mkE 24 0 [(3,.slc 0),(10,dL a),(11,dI b),(12,dI t.1)],[some (sI t.2)]⟩)) (fun (t : (List Int)) => ((Exit.exit 0),⟨mkE 24 0 [(3,.slc 0)],[some (sI t)]⟩))) := .of fun K h => by
  simp only [N44,wpW] at h
  exact .of (by kernel_rfl) h
theorem Nmy (a : List Int) : Link N3l LL (cq [1,1,1] (bodyOf Tryd.f78)) (aq [1,1,1] N1k) ⟨mkE 24 0 [(3,.slc 0)],[some (sI a)]⟩ (N66 a) (fun (t : (List Int)) => (Exit.ret,⟨mkE 24 0 [(2,.slc 0)],[some (sI t)]⟩)) := .of fun K h => by
  simp only [N66,wpW] at h
  exact .of (by kernel_rfl) h
theorem Nrj (b : List Int) {r : AV} {H' : Heap} (h : (Ans.mk _ (N4r b) (fun (t : (List Int)) => (.slc 0,[some (sI t)])) [] none).run = some (r,H')) : Awp N3l LL (bodyOf Tryd.f78) N1k ⟨mkE 24 0 [(0,dL b)],[]⟩ (Ret (tlook tys) Tryd.f78.results.toList r H') :=
  ret_of' (Link.cast (by kernel_rfl) (by kernel_rfl) (link_group (c := (cq [0,1] (bodyOf Tryd.f78))) (a := (aq [0,1] N1k)) [(cq [0] (bodyOf Tryd.f78))] [(aq [0] N1k)] rfl (link_seq (N106 b) (fun (t : (List Int)) => (link_seq (link_seq (Nw6 b t) (fun (t43 : Int) => (link_block (fin2 := (fun (t22 : (List Int)) => (Exit.normal,⟨mkE 24 0 [(3,.slc 0)],[some (sI t22)]⟩))) (id := 0) (link_loop (mk := fun (s : Int × (List Int)) => ⟨mkE 24 0 [(3,.slc 0),(10,dL b),(11,dI t43),(12,dI s.1)],[some (sI s.2)]⟩) (fin := (fun (t22 : (List Int)) => ((Exit.exit 0),⟨mkE 24 0 [(3,.slc 0)],[some (sI t22)]⟩))) (by
  rintro t22 f K h
  · exact h) (fun s => link_map (Nt8 b t43 s.1 s.2) (Sum.elim (fun (t22 : Int × (List Int)) => Sum.inl (t22.1,t22.2)) (fun (t22 : (List Int)) => Sum.inr t22)) (by
  rintro (t22 | t22)
  · kernel_rfl
  · kernel_rfl)) (0,t)) (fun (t22 : (List Int)) => t22) (by
  rintro t22 K h
  · exact Eq.mp (by kernel_rfl) h)))) (fun (t43 : (List Int)) => (Nmy t43))))))) (by unfold N4r; kernel_rfl) (by
  intro t
  exact ret_mk [.slc 0] (by kernel_rfl) (by kernel_rfl) (by kernel_rfl) (by kernel_rfl)) h
def Nd4 : Fun := fun avs H =>
  match avs,H with
  | [.dat (.list (.int .i64)) a],[] => ⟨_,N4r a,fun (t : (List Int)) => (.slc 0,[some (sI t)]),[],none⟩
  | _,_ => Ans.no
theorem No3 : Sound Tryd.prog 78 Nd4 := by
  refine fn_sound' (C := N3l) (c := bodyOf Tryd.f78) (cok_of tys_ok (alln) (alln) (by kernel_rfl)) Tryd.func78 (by kernel_rfl) LL N1k ?_
  intro avs H r H' h
  unfold Nd4 at h
  split at h
  · refine Awp.cast ?_ ?_ ?_ (Nrj _ h) <;> kernel_rfl
  · simp [Ans.no,Ans.run] at h

def Ncv : Ann := (.seq (.leaf [0,1]) (.seq (.leaf [3]) (.leaf [3])))
noncomputable def Nem : Ctx := ⟨tlook tys,olook [],ioF,2,false,[]⟩
theorem Nqc (a : Int) (b : List Int) : Link Nem LL (bodyOf Tryd.f80) Ncv ⟨mkE 8 0 [(0,dI a),(1,.ptr 0 0)],[some (.box [.slc 1]),some (sI b)]⟩ (N7t a b) (fun (t : Int) => (Exit.ret,⟨mkE 8 0 [(3,dI t)],[some (.box [.slc 1]),some (sI b)]⟩)) := .of fun K h => by
  simp only [N7t,wpW] at h
  exact .of (by kernel_rfl) h
theorem Nys (a : Int) (b : List Int) {r : AV} {H' : Heap} (h : (Ans.mk _ (N4n a b) (fun (t : Int) => (dI t,[some (.box [.slc 1]),some (sI b)])) [] none).run = some (r,H')) : Awp Nem LL (bodyOf Tryd.f80) Ncv ⟨mkE 8 0 [(0,dI a),(1,.ptr 0 0)],[some (.box [.slc 1]),some (sI b)]⟩ (Ret (tlook tys) Tryd.f80.results.toList r H') :=
  ret_of' (Nqc a b) (by unfold N4n; kernel_rfl) (by
  intro t
  exact ret_mk [dI t] (by kernel_rfl) (by kernel_rfl) (by kernel_rfl) (by kernel_rfl)) h
def Net : Fun := fun avs H =>
  match avs,H with
  | [.dat (.int .i64) a,.ptr 0 0],[some (.box [.slc 1]),some (.seq (.int .i64) b)] => ⟨_,N4n a b,fun (t : Int) => (dI t,[some (.box [.slc 1]),some (sI b)]),[],none⟩
  | _,_ => Ans.no
theorem Nvq : Sound Tryd.prog 80 Net := by
  refine fn_sound' (C := Nem) (c := bodyOf Tryd.f80) (cok_of tys_ok (alln) (alln) (by kernel_rfl)) Tryd.func80 (by kernel_rfl) LL Ncv ?_
  intro avs H r H' h
  unfold Net at h
  split at h
  · refine Awp.cast ?_ ?_ ?_ (Nys _ _ h) <;> kernel_rfl
  · simp [Ans.no,Ans.run] at h

def N13 : Ann := (.seq (.leaf [0,1,2]) (.seq (.leaf [0,1,2,7]) (.seq (.seq (.leaf [0,2,7,13,14,15]) (.block (.loop (.seq (.leaf [0,2,7,13,14,15,16]) (.seq (.cond (.leaf [0,2,7,13,14,15]) (.leaf [7])) (.seq (.block (.seq (.leaf [0,2,7,8,9,13,14,15]) (.leaf [0,2,7,13,14,15]))) (.leaf [0,2,7,13,14,15]))))))) (.seq (.leaf [6]) (.leaf [6])))))
noncomputable def N4v : Ctx := ⟨tlook tys,olook [(80,Net)],ioF,2,false,[]⟩
theorem Nxm (a b c : List Int) : Link N4v LL (Code.seq (cq [0] (bodyOf Tryd.f79)) (cq [0,1] (bodyOf Tryd.f79))) (Ann.seq (aq [0] N13) (aq [0,1] N13)) ⟨mkE 32 0 [(0,dL a),(1,dL b),(2,.fn 80 [] [.ptr 0 0])],[some (.box [.slc 1]),some (sI c)]⟩ (N9l b) (fun (t : (List Int)) => (Exit.normal,⟨mkE 32 0 [(0,dL a),(1,dL b),(2,.fn 80 [] [.ptr 0 0]),(7,.slc 2)],[some (.box [.slc 1]),some (sI c),some (sI t)]⟩)) := .of fun K h => by
  simp only [N9l,wpW] at h
  exact .of (by kernel_rfl) h
theorem Nux (a b c d : List Int) : Link N4v LL (cq [0,0,1,1] (bodyOf Tryd.f79)) (aq [0,0,1,1] N13) ⟨mkE 32 0 [(0,dL a),(1,dL b),(2,.fn 80 [] [.ptr 0 0]),(7,.slc 2)],[some (.box [.slc 1]),some (sI c),some (sI d)]⟩ (N9k b) (fun (t : Int) => (Exit.normal,⟨mkE 32 0 [(0,dL a),(2,.fn 80 [] [.ptr 0 0]),(7,.slc 2),(13,dL b),(14,dI t),(15,dI 0)],[some (.box [.slc 1]),some (sI c),some (sI d)]⟩)) := .of fun K h => by
  simp only [N9k,wpW] at h
  exact .of (by kernel_rfl) h
theorem Nsq (a b : List Int) (c d : Int) (g i : List Int) : Link N4v LL (cq [0,0,1,0,1,1] (bodyOf Tryd.f79)) (aq [0,0,1,0,1,1] N13) ⟨mkE 32 0 [(0,dL a),(2,.fn 80 [] [.ptr 0 0]),(7,.slc 2),(13,dL b),(14,dI c),(15,dI d)],[some (.box [.slc 1]),some (sI g),some (sI i)]⟩ (N5b a b c d g i) (Sum.elim (fun (t : Int × (List Int)) => (Exit.normal,⟨mkE 32 0 [(0,dL a),(2,.fn 80 [] [.ptr 0 0]),(7,.slc 2),(13,dL b),(14,dI c),(15,dI t.1)],[some (.box [.slc 1]),some (sI g),some (sI t.2)]⟩)) (fun (t : (List Int)) => ((Exit.exit 0),⟨mkE 32 0 [(7,.slc 2)],[some (.box [.slc 1]),some (sI g),some (sI t)]⟩))) := .of fun K h => by
  simp only [N5b,wpW] at h
  exact .of (by kernel_rfl) h
theorem Nr7 (a b : List Int) : Link N4v LL (cq [1,1,1] (bodyOf Tryd.f79)) (aq [1,1,1] N13) ⟨mkE 32 0 [(7,.slc 2)],[some (.box [.slc 1]),some (sI a),some (sI b)]⟩ (N86 b) (fun (t : (List Int)) => (Exit.ret,⟨mkE 32 0 [(6,.slc 2)],[some (.box [.slc 1]),some (sI a),some (sI t)]⟩)) := .of fun K h => by
  simp only [N86,wpW] at h
  exact .of (by kernel_rfl) h
theorem Nv9 (b d g : List Int) {r : AV} {H' : Heap} (h : (Ans.mk _ (N5d b d g) (fun (t : (List Int)) => (.slc 2,[some (.box [.slc 1]),some (sI g),some (sI t)])) [] none).run = some (r,H')) : Awp N4v LL (bodyOf Tryd.f79) N13 ⟨mkE 32 0 [(0,dL b),(1,dL d),(2,.fn 80 [] [.ptr 0 0])],[some (.box [.slc 1]),some (sI g)]⟩ (Ret (tlook tys) Tryd.f79.results.toList r H') :=
  ret_of' (Link.cast (by kernel_rfl) (by kernel_rfl) (link_group (c := (cq [0,1] (bodyOf Tryd.f79))) (a := (aq [0,1] N13)) [(cq [0] (bodyOf Tryd.f79))] [(aq [0] N13)] rfl (link_seq (Nxm b d g) (fun (t : (List Int)) => (link_seq (link_seq (Nux b d g t) (fun (t44 : Int) => (link_block (fin2 := (fun (t23 : (List Int)) => (Exit.normal,⟨mkE 32 0 [(7,.slc 2)],[some (.box [.slc 1]),some (sI g),some (sI t23)]⟩))) (id := 0) (link_loop (mk := fun (s : Int × (List Int)) => ⟨mkE 32 0 [(0,dL b),(2,.fn 80 [] [.ptr 0 0]),(7,.slc 2),(13,dL d),(14,dI t44),(15,dI s.1)],[some (.box [.slc 1]),some (sI g),some (sI s.2)]⟩) (fin := (fun (t23 : (List Int)) => ((Exit.exit 0),⟨mkE 32 0 [(7,.slc 2)],[some (.box [.slc 1]),some (sI g),some (sI t23)]⟩))) (by
  rintro t23 f K h
  · exact h) (fun s => link_map (Nsq b d t44 s.1 g s.2) (Sum.elim (fun (t23 : Int × (List Int)) => Sum.inl (t23.1,t23.2)) (fun (t23 : (List Int)) => Sum.inr t23)) (by
  rintro (t23 | t23)
  · kernel_rfl
  · kernel_rfl)) (0,t)) (fun (t23 : (List Int)) => t23) (by
  rintro t23 K h
  · exact Eq.mp (by kernel_rfl) h)))) (fun (t44 : (List Int)) => (Nr7 g t44))))))) (by unfold N5d; kernel_rfl) (by
  intro t
  exact ret_mk [.slc 2] (by kernel_rfl) (by kernel_rfl) (by kernel_rfl) (by kernel_rfl)) h
def Nel : Fun := fun avs H =>
  match avs,H with
  | [.dat (.list (.int .i64)) a,.dat (.list (.int .i64)) b,.fn 80 [] [.ptr 0 0]],[some (.box [.slc 1]),some (.seq (.int .i64) c)] => ⟨_,N5d a b c,fun (t : (List Int)) => (.slc 2,[some (.box [.slc 1]),some (sI c),some (sI t)]),[],none⟩
  | _,_ => Ans.no
theorem Nw7 : Sound Tryd.prog 79 Nel := by
  refine fn_sound' (C := N4v) (c := bodyOf Tryd.f79) (cok_of tys_ok (allc Nvq alln) (allc Tryd.call80 alln) (by kernel_rfl)) Tryd.func79 (by kernel_rfl) LL N13 ?_
  intro avs H r H' h
  unfold Nel at h
  split at h
  · refine Awp.cast ?_ ?_ ?_ (Nv9 _ _ _ h) <;> kernel_rfl
  · simp [Ans.no,Ans.run] at h

def Nf7 : Ann := (.seq (.leaf [0,1]) (.seq (.seq (.leaf [0,1,16]) (.cond (.seq (.leaf [4,5]) (.leaf [4,5])) (.leaf [0,1]))) (.seq (.leaf [0,1,6]) (.seq (.leaf [4,5]) (.leaf [4,5])))))
noncomputable def Nf1 : Ctx := ⟨tlook tys,olook [(30,Nh),(77,Ned),(78,Nd4),(79,Nel)],ioF,0,false,[]⟩
theorem Nod (a b : List Int) : Link Nf1 LL (bodyOf Tryd.f70) Nf7 ⟨mkE 23 0 [(0,dL a),(1,dL b)],[]⟩ (N6m a b) (fun (t : Bool × (List Int)) => (Exit.ret,⟨mkE 23 0 [(4,.slc 0),(5,dB t.1)],[some (sI t.2)]⟩)) := .of fun K h => by
  simp only [N6m,wpW] at h
  exact .of (by kernel_rfl) h
theorem Nqf (a b : List Int) {r : AV} {H' : Heap} (h : (Ans.mk _ (N2q a b) (fun (t : Bool × (List Int)) => (.tup [.slc 0,dB t.1],[some (sI t.2)])) [] none).run = some (r,H')) : Awp Nf1 LL (bodyOf Tryd.f70) Nf7 ⟨mkE 23 0 [(0,dL a),(1,dL b)],[]⟩ (Ret (tlook tys) Tryd.f70.results.toList r H') :=
  ret_of' (Nod a b) (by unfold N2q; kernel_rfl) (by
  intro t
  exact ret_mk [.slc 0,dB t.1] (by kernel_rfl) (by kernel_rfl) (by kernel_rfl) (by kernel_rfl)) h
def N9p : Fun := fun avs H =>
  match avs,H with
  | [.dat (.list (.int .i64)) a,.dat (.list (.int .i64)) b],[] => ⟨_,N2q a b,fun (t : Bool × (List Int)) => (.tup [.slc 0,dB t.1],[some (sI t.2)]),[],none⟩
  | _,_ => Ans.no
theorem Nhy : Sound Tryd.prog 70 N9p := by
  refine fn_sound' (C := Nf1) (c := bodyOf Tryd.f70) (cok_of tys_ok (allc Nv (allc Noi (allc No3 (allc Nw7 alln)))) (allc Tryd.call30 (allc Tryd.call77 (allc Tryd.call78 (allc Tryd.call79 alln)))) (by kernel_rfl)) Tryd.func70 (by kernel_rfl) LL Nf7 ?_
  intro avs H r H' h
  unfold N9p at h
  split at h
  · refine Awp.cast ?_ ?_ ?_ (Nqf _ _ h) <;> kernel_rfl
  · simp [Ans.no,Ans.run] at h

def Nf0 : Ann := (.seq (.leaf [0]) (.seq (.seq (.leaf [0,7]) (.cond (.seq (.leaf [2]) (.leaf [2])) (.leaf [0]))) (.seq (.leaf [3]) (.seq (.leaf [2]) (.leaf [2])))))
noncomputable def Neb : Ctx := ⟨tlook tys,olook [(30,Nh),(71,Nca),(70,N9p)],ioF,0,false,[]⟩
theorem Nv1 (a : List Int) : Link Neb LL (bodyOf Tryd.f61) Nf0 ⟨mkE 17 0 [(0,dL a)],[]⟩ (N5v a) (fun (t : (List Int)) => (Exit.ret,⟨mkE 17 0 [(2,.slc 0)],[some (sI t)]⟩)) := .of fun K h => by
  simp only [N5v,wpW] at h
  exact .of (by kernel_rfl) h
theorem Nme (a : List Int) {r : AV} {H' : Heap} (h : (Ans.mk _ (N3a a) (fun (t : (List Int)) => (.slc 0,[some (sI t)])) [] none).run = some (r,H')) : Awp Neb LL (bodyOf Tryd.f61) Nf0 ⟨mkE 17 0 [(0,dL a)],[]⟩ (Ret (tlook tys) Tryd.f61.results.toList r H') :=
  ret_of' (Nv1 a) (by unfold N3a; kernel_rfl) (by
  intro t
  exact ret_mk [.slc 0] (by kernel_rfl) (by kernel_rfl) (by kernel_rfl) (by kernel_rfl)) h
def Ndv : Fun := fun avs H =>
  match avs,H with
  | [.dat (.list (.int .i64)) a],[] => ⟨_,N3a a,fun (t : (List Int)) => (.slc 0,[some (sI t)]),[],none⟩
  | _,_ => Ans.no
theorem Nrc : Sound Tryd.prog 61 Ndv := by
  refine fn_sound' (C := Neb) (c := bodyOf Tryd.f61) (cok_of tys_ok (allc Nv (allc Nxr (allc Nhy alln))) (allc Tryd.call30 (allc Tryd.call71 (allc Tryd.call70 alln))) (by kernel_rfl)) Tryd.func61 (by kernel_rfl) LL Nf0 ?_
  intro avs H r H' h
  unfold Ndv at h
  split at h
  · refine Awp.cast ?_ ?_ ?_ (Nme _ h) <;> kernel_rfl
  · simp [Ans.no,Ans.run] at h

def Ny : Ann := (.seq (.leaf [0]) (.seq (.seq (.leaf [0,6]) (.cond (.seq (.leaf [2]) (.leaf [2])) (.leaf [0]))) (.seq (.leaf [3]) (.seq (.block (.loop (.seq (.seq (.leaf [3,9]) (.cond (.leaf [3]) (.leaf [3]))) (.block (.leaf [3]))))) (.seq (.leaf [2]) (.leaf [2]))))))
noncomputable def N5z : Ctx := ⟨tlook tys,olook [(30,Nh),(64,N8t)],ioF,0,false,[]⟩
theorem Nnb (a : List Int) : Link N5z LL (Code.seq (cq [0] (bodyOf Tryd.f55)) (Code.seq (cq [0,1] (bodyOf Tryd.f55)) (cq [0,1,1] (bodyOf Tryd.f55)))) (Ann.seq (aq [0] Ny) (Ann.seq (aq [0,1] Ny) (aq [0,1,1] Ny))) ⟨mkE 12 0 [(0,dL a)],[]⟩ (N92 a) (Sum.elim (fun (t : Unit) => (Exit.normal,⟨mkE 12 0 [(3,.ptr 0 0)],[some (.box [dL a,dI 1,dI 0])]⟩)) (fun (t : Int) => (Exit.ret,⟨mkE 12 0 [(2,dI t)],[]⟩))) := .of fun K h => by
  simp only [N92,wpW] at h
  exact .of (by kernel_rfl) h
theorem Nq9 (a : List Int) (b c : Int) : Link N5z LL (cq [0,0,0,1,1,1] (bodyOf Tryd.f55)) (aq [0,0,0,1,1,1] Ny) ⟨mkE 12 0 [(3,.ptr 0 0)],[some (.box [dL a,dI b,dI c])]⟩ (N64 a b c) (Sum.elim (fun (t : Int × Int) => (Exit.normal,⟨mkE 12 0 [(3,.ptr 0 0)],[some (.box [dL a,dI t.1,dI t.2])]⟩)) (fun (t : Int × Int) => ((Exit.exit 0),⟨mkE 12 0 [(3,.ptr 0 0)],[some (.box [dL a,dI t.1,dI t.2])]⟩))) := .of fun K h => by
  simp only [N64,wpW] at h
  exact .of (by kernel_rfl) h
theorem Nnl (a : List Int) (b c : Int) : Link N5z LL (cq [1,1,1,1] (bodyOf Tryd.f55)) (aq [1,1,1,1] Ny) ⟨mkE 12 0 [(3,.ptr 0 0)],[some (.box [dL a,dI b,dI c])]⟩ (N8b b) (fun (t : Int) => (Exit.ret,⟨mkE 12 0 [(2,dI t)],[]⟩)) := .of fun K h => by
  simp only [N8b,wpW] at h
  exact .of (by kernel_rfl) h
theorem Nl1 (b : List Int) {r : AV} {H' : Heap} (h : (Ans.mk _ (N36 b) (fun (t : Int) => (dI t,[])) [] none).run = some (r,H')) : Awp N5z LL (bodyOf Tryd.f55) Ny ⟨mkE 12 0 [(0,dL b)],[]⟩ (Ret (tlook tys) Tryd.f55.results.toList r H') :=
  ret_of' (Link.cast (by kernel_rfl) (by kernel_rfl) (link_group (c := (cq [0,1,1] (bodyOf Tryd.f55))) (a := (aq [0,1,1] Ny)) [(cq [0] (bodyOf Tryd.f55)),(cq [0,1] (bodyOf Tryd.f55))] [(aq [0] Ny),(aq [0,1] Ny)] rfl (link_seq2 (Nnb b) (fun (t : Unit) => (link_seq (link_block (fin2 := (fun (t : Int × Int) => (Exit.normal,⟨mkE 12 0 [(3,.ptr 0 0)],[some (.box [dL b,dI t.1,dI t.2])]⟩))) (id := 0) (link_loop (mk := fun (s : Int × Int) => ⟨mkE 12 0 [(3,.ptr 0 0)],[some (.box [dL b,dI s.1,dI s.2])]⟩) (fin := (fun (t : Int × Int) => ((Exit.exit 0),⟨mkE 12 0 [(3,.ptr 0 0)],[some (.box [dL b,dI t.1,dI t.2])]⟩))) (by
  rintro t f K h
  · exact h) (fun s => link_map (Nq9 b s.1 s.2) (Sum.elim (fun (t : Int × Int) => Sum.inl (t.1,t.2)) (fun (t : Int × Int) => Sum.inr t)) (by
  rintro (t | t)
  · kernel_rfl
  · kernel_rfl)) (1,0)) (fun (t : Int × Int) => (t.1,t.2)) (by
  rintro t K h
  · exact Eq.mp (by kernel_rfl) h)) (fun (t : Int × Int) => (Nnl b t.1 t.2)))) (fun (t : Int) => t) (by
  rintro t
  · kernel_rfl) (by
  rintro t f K h
  · exact h)))) (by unfold N36; kernel_rfl) (by
  intro t
  exact ret_mk [dI t] (by kernel_rfl) (by kernel_rfl) (by kernel_rfl) (by kernel_rfl)) h
def N8x : Fun := fun avs H =>
  match avs,H with
  | [.dat (.list (.int .i64)) a],[] => ⟨_,N36 a,fun (t : Int) => (dI t,[]),[],none⟩
  | _,_ => Ans.no
theorem Nj0 : Sound Tryd.prog 55 N8x := by
  refine fn_sound' (C := N5z) (c := bodyOf Tryd.f55) (cok_of tys_ok (allc Nv (allc Njb alln)) (allc Tryd.call30 (allc Tryd.call64 alln)) (by kernel_rfl)) Tryd.func55 (by kernel_rfl) LL Ny ?_
  intro avs H r H' h
  unfold N8x at h
  split at h
  · refine Awp.cast ?_ ?_ ?_ (Nl1 _ h) <;> kernel_rfl
  · simp [Ans.no,Ans.run] at h

def Ncq : Ann := (.seq (.leaf [0]) (.seq (.leaf [2]) (.leaf [2])))
noncomputable def Nb9 : Ctx := ⟨tlook tys,olook [],ioF,0,false,[]⟩
theorem Nlj (a : Int) : Link Nb9 LL (bodyOf Tryd.f65) Ncq ⟨mkE 6 0 [(0,dI a)],[]⟩ (Ndg a) (fun (t : Int) => (Exit.ret,⟨mkE 6 0 [(2,dW t)],[]⟩)) := .of fun K h => by
  simp only [Ndg,wpW] at h
  exact .of (by kernel_rfl) h
theorem Nti (a : Int) {r : AV} {H' : Heap} (h : (Ans.mk _ (N27 a) (fun (t : Int) => (dW t,[])) [] none).run = some (r,H')) : Awp Nb9 LL (bodyOf Tryd.f65) Ncq ⟨mkE 6 0 [(0,dI a)],[]⟩ (Ret (tlook tys) Tryd.f65.results.toList r H') :=
  ret_of' (Nlj a) (by unfold N27; kernel_rfl) (by
  intro t
  exact ret_mk [dW t] (by kernel_rfl) (by kernel_rfl) (by kernel_rfl) (by kernel_rfl)) h
def N5a : Fun := fun avs H =>
  match avs,H with
  | [.dat (.int .i64) a],[] => ⟨_,N27 a,fun (t : Int) => (dW t,[]),[],none⟩
  | _,_ => Ans.no
theorem Nfc : Sound Tryd.prog 65 N5a := by
  refine fn_sound' (C := Nb9) (c := bodyOf Tryd.f65) (cok_of tys_ok (alln) (alln) (by kernel_rfl)) Tryd.func65 (by kernel_rfl) LL Ncq ?_
  intro avs H r H' h
  unfold N5a at h
  split at h
  · refine Awp.cast ?_ ?_ ?_ (Nti _ h) <;> kernel_rfl
  · simp [Ans.no,Ans.run] at h

def N1q : Ann := (.seq (.leaf [0,1]) (.seq (.leaf [0,1,5]) (.seq (.seq (.leaf [0,1,5,8,9]) (.block (.loop (.seq (.leaf [0,1,5,8,9,10]) (.seq (.cond (.leaf [0,1,5,8,9]) (.leaf [5])) (.seq (.block (.seq (.leaf [0,1,5,6,8,9]) (.seq (.leaf [0,1,5,6,8,9,17]) (.cond (.leaf [0,1,5,8,9]) (.leaf [0,1,5,8,9]))))) (.leaf [0,1,5,8,9]))))))) (.seq (.leaf [4]) (.leaf [4])))))
noncomputable def N4d : Ctx := ⟨tlook tys,olook [(65,N5a)],ioF,0,false,[]⟩
theorem N107 (a : List Int) (b : Int) : Link N4d LL (Code.seq (cq [0] (bodyOf Tryd.f66)) (cq [0,1] (bodyOf Tryd.f66))) (Ann.seq (aq [0] N1q) (aq [0,1] N1q)) ⟨mkE 25 0 [(0,dL a),(1,dI b)],[]⟩ (N6r) (fun (t : Unit) => (Exit.normal,⟨mkE 25 0 [(0,dL a),(1,dI b),(5,dW 0)],[]⟩)) := .of fun K h => by
  simp only [N6r,wpW] at h
  exact .of (by kernel_rfl) h
theorem Nmh (a : List Int) (b : Int) : Link N4d LL (cq [0,0,1,1] (bodyOf Tryd.f66)) (aq [0,0,1,1] N1q) ⟨mkE 25 0 [(0,dL a),(1,dI b),(5,dW 0)],[]⟩ (N7e a) (fun (t : Int) => (Exit.normal,⟨mkE 25 0 [(0,dL a),(1,dI b),(5,dW 0),(8,dI t),(9,dI 0)],[]⟩)) := .of fun K h => by
  simp only [N7e,wpW] at h
  exact .of (by kernel_rfl) h
theorem Nop (a : List Int) (b c d g : Int) : Link N4d LL (cq [0,0,1,0,1,1] (bodyOf Tryd.f66)) (aq [0,0,1,0,1,1] N1q) ⟨mkE 25 0 [(0,dL a),(1,dI b),(5,dW c),(8,dI d),(9,dI g)],[]⟩ (N49 a b c d g) (Sum.elim (fun (t : Int × Int) => (Exit.normal,⟨mkE 25 0 [(0,dL a),(1,dI b),(5,dW t.1),(8,dI d),(9,dI t.2)],[]⟩)) (fun (t : Int) => ((Exit.exit 0),⟨mkE 25 0 [(5,dW t)],[]⟩))) := .of fun K h => by
  simp only [N49,wpW] at h
  exact .of (by kernel_rfl) h
theorem Nw8 (a : Int) : Link N4d LL (cq [1,1,1] (bodyOf Tryd.f66)) (aq [1,1,1] N1q) ⟨mkE 25 0 [(5,dW a)],[]⟩ (Ndf a) (fun (t : Int) => (Exit.ret,⟨mkE 25 0 [(4,dW t)],[]⟩)) := .of fun K h => by
  simp only [Ndf,wpW] at h
  exact .of (by kernel_rfl) h
theorem Nlz (b : List Int) (d : Int) {r : AV} {H' : Heap} (h : (Ans.mk _ (N1x b d) (fun (t : Int) => (dW t,[])) [] none).run = some (r,H')) : Awp N4d LL (bodyOf Tryd.f66) N1q ⟨mkE 25 0 [(0,dL b),(1,dI d)],[]⟩ (Ret (tlook tys) Tryd.f66.results.toList r H') :=
  ret_of' (Link.cast (by kernel_rfl) (by kernel_rfl) (link_group (c := (cq [0,1] (bodyOf Tryd.f66))) (a := (aq [0,1] N1q)) [(cq [0] (bodyOf Tryd.f66))] [(aq [0] N1q)] rfl (link_seq (N107 b d) (fun (t : Unit) => (link_seq (link_seq (Nmh b d) (fun (t : Int) => (link_block (fin2 := (fun (t24 : Int) => (Exit.normal,⟨mkE 25 0 [(5,dW t24)],[]⟩))) (id := 0) (link_loop (mk := fun (s : Int × Int) => ⟨mkE 25 0 [(0,dL b),(1,dI d),(5,dW s.1),(8,dI t),(9,dI s.2)],[]⟩) (fin := (fun (t24 : Int) => ((Exit.exit 0),⟨mkE 25 0 [(5,dW t24)],[]⟩))) (by
  rintro t24 f K h
  · exact h) (fun s => link_map (Nop b d s.1 t s.2) (Sum.elim (fun (t24 : Int × Int) => Sum.inl (t24.1,t24.2)) (fun (t24 : Int) => Sum.inr t24)) (by
  rintro (t24 | t24)
  · kernel_rfl
  · kernel_rfl)) (0,0)) (fun (t24 : Int) => t24) (by
  rintro t24 K h
  · exact Eq.mp (by kernel_rfl) h)))) (fun (t : Int) => (Nw8 t))))))) (by unfold N1x; kernel_rfl) (by
  intro t
  exact ret_mk [dW t] (by kernel_rfl) (by kernel_rfl) (by kernel_rfl) (by kernel_rfl)) h
def N7y : Fun := fun avs H =>
  match avs,H with
  | [.dat (.list (.int .i64)) a,.dat (.int .i64) b],[] => ⟨_,N1x a b,fun (t : Int) => (dW t,[]),[],none⟩
  | _,_ => Ans.no
theorem Nia : Sound Tryd.prog 66 N7y := by
  refine fn_sound' (C := N4d) (c := bodyOf Tryd.f66) (cok_of tys_ok (allc Nfc alln) (allc Tryd.call65 alln) (by kernel_rfl)) Tryd.func66 (by kernel_rfl) LL N1q ?_
  intro avs H r H' h
  unfold N7y at h
  split at h
  · refine Awp.cast ?_ ?_ ?_ (Nlz _ _ h) <;> kernel_rfl
  · simp [Ans.no,Ans.run] at h

def Ncb : Ann := (.seq (.leaf [0]) (.seq (.leaf [2]) (.leaf [2])))
noncomputable def Nbz : Ctx := ⟨tlook tys,olook [(65,N5a)],ioF,0,false,[]⟩
theorem Nrn (a : Int) : Link Nbz LL (bodyOf Tryd.f89) Ncb ⟨mkE 6 0 [(0,dI a)],[]⟩ (Nc4 a) (fun (t : Int) => (Exit.ret,⟨mkE 6 0 [(2,dW t)],[]⟩)) := .of fun K h => by
  simp only [Nc4,wpW] at h
  exact .of (by kernel_rfl) h
theorem Noo (a : Int) {r : AV} {H' : Heap} (h : (Ans.mk _ (N2f a) (fun (t : Int) => (dW t,[])) [] none).run = some (r,H')) : Awp Nbz LL (bodyOf Tryd.f89) Ncb ⟨mkE 6 0 [(0,dI a)],[]⟩ (Ret (tlook tys) Tryd.f89.results.toList r H') :=
  ret_of' (Nrn a) (by unfold N2f; kernel_rfl) (by
  intro t
  exact ret_mk [dW t] (by kernel_rfl) (by kernel_rfl) (by kernel_rfl) (by kernel_rfl)) h
def Nc7 : Fun := fun avs H =>
  match avs,H with
  | [.dat (.int .i64) a],[] => ⟨_,N2f a,fun (t : Int) => (dW t,[]),[],none⟩
  | _,_ => Ans.no
theorem Nt4 : Sound Tryd.prog 89 Nc7 := by
  refine fn_sound' (C := Nbz) (c := bodyOf Tryd.f89) (cok_of tys_ok (allc Nfc alln) (allc Tryd.call65 alln) (by kernel_rfl)) Tryd.func89 (by kernel_rfl) LL Ncb ?_
  intro avs H r H' h
  unfold Nc7 at h
  split at h
  · refine Awp.cast ?_ ?_ ?_ (Noo _ h) <;> kernel_rfl
  · simp [Ans.no,Ans.run] at h

def Ncn : Ann := (.seq (.leaf [0,1]) (.seq (.leaf [1,6]) (.seq (.leaf [4,5]) (.leaf [4,5]))))
noncomputable def Ncs : Ctx := ⟨tlook tys,olook [(66,N7y),(89,Nc7)],ioF,0,false,[]⟩
theorem Nmd (a : List Int) (b : Int) : Link Ncs LL (bodyOf Tryd.f85) Ncn ⟨mkE 18 0 [(0,dL a),(1,dI b)],[]⟩ (N5u a b) (fun (t : Int × Int) => (Exit.ret,⟨mkE 18 0 [(4,dW t.1),(5,dW t.2)],[]⟩)) := .of fun K h => by
  simp only [N5u,wpW] at h
  exact .of (by kernel_rfl) h
theorem Ny0 (a : List Int) (b : Int) {r : AV} {H' : Heap} (h : (Ans.mk _ (N32 a b) (fun (t : Int × Int) => (.tup [dW t.1,dW t.2],[])) [] none).run = some (r,H')) : Awp Ncs LL (bodyOf Tryd.f85) Ncn ⟨mkE 18 0 [(0,dL a),(1,dI b)],[]⟩ (Ret (tlook tys) Tryd.f85.results.toList r H') :=
  ret_of' (Nmd a b) (by unfold N32; kernel_rfl) (by
  intro t
  exact ret_mk [dW t.1,dW t.2] (by kernel_rfl) (by kernel_rfl) (by kernel_rfl) (by kernel_rfl)) h
def Nce : Fun := fun avs H =>
  match avs,H with
  | [.dat (.list (.int .i64)) a,.dat (.int .i64) b],[] => ⟨_,N32 a b,fun (t : Int × Int) => (.tup [dW t.1,dW t.2],[]),[],none⟩
  | _,_ => Ans.no
theorem Ns9 : Sound Tryd.prog 85 Nce := by
  refine fn_sound' (C := Ncs) (c := bodyOf Tryd.f85) (cok_of tys_ok (allc Nia (allc Nt4 alln)) (allc Tryd.call66 (allc Tryd.call89 alln)) (by kernel_rfl)) Tryd.func85 (by kernel_rfl) LL Ncn ?_
  intro avs H r H' h
  unfold Nce at h
  split at h
  · refine Awp.cast ?_ ?_ ?_ (Ny0 _ _ h) <;> kernel_rfl
  · simp [Ans.no,Ans.run] at h

def Nb : Ann := (.seq (.leaf [0]) (.seq (.leaf [0]) (.seq (.leaf [0]) (.seq (.leaf [0]) (.seq (.leaf [0]) (.seq (.leaf [0]) (.seq (.leaf [0]) (.seq (.leaf [2]) (.leaf [2])))))))))
noncomputable def Nt : Ctx := ⟨tlook tys,olook [],ioF,0,false,[]⟩
theorem Nm4 (a : Int) : Link Nt LL (Code.seq (cq [0] (bodyOf Tryd.f88)) (cq [0,1] (bodyOf Tryd.f88))) (Ann.seq (aq [0] Nb) (aq [0,1] Nb)) ⟨mkE 35 0 [(0,dW a)],[]⟩ (Nev a) (fun (t : Int) => (Exit.normal,⟨mkE 35 0 [(0,dW t)],[]⟩)) := .of fun K h => by
  simp only [Nev,wpW] at h
  exact .of (by kernel_rfl) h
theorem Nq6 (a : Int) : Link Nt LL (cq [0,1,1] (bodyOf Tryd.f88)) (aq [0,1,1] Nb) ⟨mkE 35 0 [(0,dW a)],[]⟩ (Ndq a) (fun (t : Int) => (Exit.normal,⟨mkE 35 0 [(0,dW t)],[]⟩)) := .of fun K h => by
  simp only [Ndq,wpW] at h
  exact .of (by kernel_rfl) h
theorem Nz7 (a : Int) : Link Nt LL (cq [0,1,1,1] (bodyOf Tryd.f88)) (aq [0,1,1,1] Nb) ⟨mkE 35 0 [(0,dW a)],[]⟩ (Nef a) (fun (t : Int) => (Exit.normal,⟨mkE 35 0 [(0,dW t)],[]⟩)) := .of fun K h => by
  simp only [Nef,wpW] at h
  exact .of (by kernel_rfl) h
theorem Ntd (a : Int) : Link Nt LL (cq [0,1,1,1,1] (bodyOf Tryd.f88)) (aq [0,1,1,1,1] Nb) ⟨mkE 35 0 [(0,dW a)],[]⟩ (Nd8 a) (fun (t : Int) => (Exit.normal,⟨mkE 35 0 [(0,dW t)],[]⟩)) := .of fun K h => by
  simp only [Nd8,wpW] at h
  exact .of (by kernel_rfl) h
theorem Nsb (a : Int) : Link Nt LL (cq [0,1,1,1,1,1] (bodyOf Tryd.f88)) (aq [0,1,1,1,1,1] Nb) ⟨mkE 35 0 [(0,dW a)],[]⟩ (Nbd a) (fun (t : Int) => (Exit.normal,⟨mkE 35 0 [(0,dW t)],[]⟩)) := .of fun K h => by
  simp only [Nbd,wpW] at h
  exact .of (by kernel_rfl) h
theorem Nyw (a : Int) : Link Nt LL (cq [0,1,1,1,1,1,1] (bodyOf Tryd.f88)) (aq [0,1,1,1,1,1,1] Nb) ⟨mkE 35 0 [(0,dW a)],[]⟩ (Nbo a) (fun (t : Int) => (Exit.normal,⟨mkE 35 0 [(0,dW t)],[]⟩)) := .of fun K h => by
  simp only [Nbo,wpW] at h
  exact .of (by kernel_rfl) h
theorem Nzl (a : Int) : Link Nt LL (cq [0,1,1,1,1,1,1,1] (bodyOf Tryd.f88)) (aq [0,1,1,1,1,1,1,1] Nb) ⟨mkE 35 0 [(0,dW a)],[]⟩ (Nf3 a) (fun (t : Int) => (Exit.normal,⟨mkE 35 0 [(2,dI t)],[]⟩)) := .of fun K h => by
  simp only [Nf3,wpW] at h
  exact .of (by kernel_rfl) h
theorem Nw4 (a : Int) : Link Nt LL (cq [1,1,1,1,1,1,1,1] (bodyOf Tryd.f88)) (aq [1,1,1,1,1,1,1,1] Nb) ⟨mkE 35 0 [(2,dI a)],[]⟩ (Nav a) (fun (t : Int) => (Exit.ret,⟨mkE 35 0 [(2,dI t)],[]⟩)) := .of fun K h => by
  simp only [Nav,wpW] at h
  exact .of (by kernel_rfl) h
theorem Nl2 (b : Int) {r : AV} {H' : Heap} (h : (Ans.mk _ (N7b b) (fun (t : Int) => (dI t,[])) [] none).run = some (r,H')) : Awp Nt LL (bodyOf Tryd.f88) Nb ⟨mkE 35 0 [(0,dW b)],[]⟩ (Ret (tlook tys) Tryd.f88.results.toList r H') :=
  ret_of' (Link.cast (by kernel_rfl) (by kernel_rfl) (link_group (c := (cq [0,1] (bodyOf Tryd.f88))) (a := (aq [0,1] Nb)) [(cq [0] (bodyOf Tryd.f88))] [(aq [0] Nb)] rfl (link_seq (Nm4 b) (fun (t : Int) => (link_seq (Nq6 t) (fun (t25 : Int) => (link_seq (Nz7 t25) (fun (t4 : Int) => (link_seq (Ntd t4) (fun (t : Int) => (link_seq (Nsb t) (fun (t3 : Int) => (link_seq (Nyw t3) (fun (t : Int) => (link_seq (Nzl t) (fun (t2 : Int) => (Nw4 t2))))))))))))))))) (by unfold N7b; kernel_rfl) (by
  intro t
  exact ret_mk [dI t] (by kernel_rfl) (by kernel_rfl) (by kernel_rfl) (by kernel_rfl)) h
def Ncg : Fun := fun avs H =>
  match avs,H with
  | [.dat (.int .u64) a],[] => ⟨_,N7b a,fun (t : Int) => (dI t,[]),[],none⟩
  | _,_ => Ans.no
theorem Nve : Sound Tryd.prog 88 Ncg := by
  refine fn_sound' (C := Nt) (c := bodyOf Tryd.f88) (cok_of tys_ok (alln) (alln) (by kernel_rfl)) Tryd.func88 (by kernel_rfl) LL Nb ?_
  intro avs H r H' h
  unfold Ncg at h
  split at h
  · refine Awp.cast ?_ ?_ ?_ (Nl2 _ h) <;> kernel_rfl
  · simp [Ans.no,Ans.run] at h

def Nei : Ann := (.seq (.leaf [0]) (.seq (.cond (.seq (.leaf [2]) (.leaf [2])) (.leaf [0])) (.seq (.leaf [2]) (.leaf [2]))))
noncomputable def Naf : Ctx := ⟨tlook tys,olook [(88,Ncg)],ioF,0,false,[]⟩
theorem Nwg (a : Int) : Link Naf LL (bodyOf Tryd.f82) Nei ⟨mkE 8 0 [(0,dW a)],[]⟩ (Nfj a) (fun (t : Int) => (Exit.ret,⟨mkE 8 0 [(2,dI t)],[]⟩)) := .of fun K h => by
  simp only [Nfj,wpW] at h
  exact .of (by kernel_rfl) h
theorem Nm9 (a : Int) {r : AV} {H' : Heap} (h : (Ans.mk _ (Na3 a) (fun (t : Int) => (dI t,[])) [] none).run = some (r,H')) : Awp Naf LL (bodyOf Tryd.f82) Nei ⟨mkE 8 0 [(0,dW a)],[]⟩ (Ret (tlook tys) Tryd.f82.results.toList r H') :=
  ret_of' (Nwg a) (by unfold Na3; kernel_rfl) (by
  intro t
  exact ret_mk [dI t] (by kernel_rfl) (by kernel_rfl) (by kernel_rfl) (by kernel_rfl)) h
def Ncf : Fun := fun avs H =>
  match avs,H with
  | [.dat (.int .u64) a],[] => ⟨_,Na3 a,fun (t : Int) => (dI t,[]),[],none⟩
  | _,_ => Ans.no
theorem Ntu : Sound Tryd.prog 82 Ncf := by
  refine fn_sound' (C := Naf) (c := bodyOf Tryd.f82) (cok_of tys_ok (allc Nve alln) (allc Tryd.call88 alln) (by kernel_rfl)) Tryd.func82 (by kernel_rfl) LL Nei ?_
  intro avs H r H' h
  unfold Ncf at h
  split at h
  · refine Awp.cast ?_ ?_ ?_ (Nm9 _ h) <;> kernel_rfl
  · simp [Ans.no,Ans.run] at h

def Nb8 : Ann := (.seq (.leaf [0]) (.seq (.leaf [2]) (.leaf [2])))
noncomputable def Ndp : Ctx := ⟨tlook tys,olook [(82,Ncf)],ioF,0,false,[]⟩
theorem Nmz (a : Int) : Link Ndp LL (bodyOf Tryd.f75) Nb8 ⟨mkE 5 0 [(0,dW a)],[]⟩ (Nej a) (fun (t : Int) => (Exit.ret,⟨mkE 5 0 [(2,dI t)],[]⟩)) := .of fun K h => by
  simp only [Nej,wpW] at h
  exact .of (by kernel_rfl) h
theorem Nur (a : Int) {r : AV} {H' : Heap} (h : (Ans.mk _ (N7c a) (fun (t : Int) => (dI t,[])) [] none).run = some (r,H')) : Awp Ndp LL (bodyOf Tryd.f75) Nb8 ⟨mkE 5 0 [(0,dW a)],[]⟩ (Ret (tlook tys) Tryd.f75.results.toList r H') :=
  ret_of' (Nmz a) (by unfold N7c; kernel_rfl) (by
  intro t
  exact ret_mk [dI t] (by kernel_rfl) (by kernel_rfl) (by kernel_rfl) (by kernel_rfl)) h
def Ncm : Fun := fun avs H =>
  match avs,H with
  | [.dat (.int .u64) a],[] => ⟨_,N7c a,fun (t : Int) => (dI t,[]),[],none⟩
  | _,_ => Ans.no
theorem Nvj : Sound Tryd.prog 75 Ncm := by
  refine fn_sound' (C := Ndp) (c := bodyOf Tryd.f75) (cok_of tys_ok (allc Ntu alln) (allc Tryd.call82 alln) (by kernel_rfl)) Tryd.func75 (by kernel_rfl) LL Nb8 ?_
  intro avs H r H' h
  unfold Ncm at h
  split at h
  · refine Awp.cast ?_ ?_ ?_ (Nur _ h) <;> kernel_rfl
  · simp [Ans.no,Ans.run] at h

def Nbr : Ann := (.seq (.leaf [0]) (.seq (.seq (.leaf [0,4]) (.cond (.seq (.leaf [2]) (.leaf [2])) (.leaf [0]))) (.seq (.leaf [2]) (.leaf [2]))))
noncomputable def Ndz : Ctx := ⟨tlook tys,olook [],ioF,0,false,[]⟩
theorem Npc (a : Int) : Link Ndz LL (bodyOf Tryd.f84) Nbr ⟨mkE 14 0 [(0,dW a)],[]⟩ (Nc1 a) (fun (t : Int) => (Exit.ret,⟨mkE 14 0 [(2,dI t)],[]⟩)) := .of fun K h => by
  simp only [Nc1,wpW] at h
  exact .of (by kernel_rfl) h
theorem Nnn (a : Int) {r : AV} {H' : Heap} (h : (Ans.mk _ (N9s a) (fun (t : Int) => (dI t,[])) [] none).run = some (r,H')) : Awp Ndz LL (bodyOf Tryd.f84) Nbr ⟨mkE 14 0 [(0,dW a)],[]⟩ (Ret (tlook tys) Tryd.f84.results.toList r H') :=
  ret_of' (Npc a) (by unfold N9s; kernel_rfl) (by
  intro t
  exact ret_mk [dI t] (by kernel_rfl) (by kernel_rfl) (by kernel_rfl) (by kernel_rfl)) h
def Nap : Fun := fun avs H =>
  match avs,H with
  | [.dat (.int .u64) a],[] => ⟨_,N9s a,fun (t : Int) => (dI t,[]),[],none⟩
  | _,_ => Ans.no
theorem Nw0 : Sound Tryd.prog 84 Nap := by
  refine fn_sound' (C := Ndz) (c := bodyOf Tryd.f84) (cok_of tys_ok (alln) (alln) (by kernel_rfl)) Tryd.func84 (by kernel_rfl) LL Nbr ?_
  intro avs H r H' h
  unfold Nap at h
  split at h
  · refine Awp.cast ?_ ?_ ?_ (Nnn _ h) <;> kernel_rfl
  · simp [Ans.no,Ans.run] at h

def Ndw : Ann := (.seq (.leaf [0]) (.seq (.cond (.seq (.leaf [2]) (.leaf [2])) (.leaf [0])) (.seq (.leaf [2]) (.leaf [2]))))
noncomputable def Nd3 : Ctx := ⟨tlook tys,olook [(84,Nap)],ioF,0,false,[]⟩
theorem Np7 (a : Int) : Link Nd3 LL (bodyOf Tryd.f76) Ndw ⟨mkE 8 0 [(0,dW a)],[]⟩ (Nct a) (fun (t : Int) => (Exit.ret,⟨mkE 8 0 [(2,dI t)],[]⟩)) := .of fun K h => by
  simp only [Nct,wpW] at h
  exact .of (by kernel_rfl) h
theorem Nwm (a : Int) {r : AV} {H' : Heap} (h : (Ans.mk _ (N85 a) (fun (t : Int) => (dI t,[])) [] none).run = some (r,H')) : Awp Nd3 LL (bodyOf Tryd.f76) Ndw ⟨mkE 8 0 [(0,dW a)],[]⟩ (Ret (tlook tys) Tryd.f76.results.toList r H') :=
  ret_of' (Np7 a) (by unfold N85; kernel_rfl) (by
  intro t
  exact ret_mk [dI t] (by kernel_rfl) (by kernel_rfl) (by kernel_rfl) (by kernel_rfl)) h
def Ncz : Fun := fun avs H =>
  match avs,H with
  | [.dat (.int .u64) a],[] => ⟨_,N85 a,fun (t : Int) => (dI t,[]),[],none⟩
  | _,_ => Ans.no
theorem Nnk : Sound Tryd.prog 76 Ncz := by
  refine fn_sound' (C := Nd3) (c := bodyOf Tryd.f76) (cok_of tys_ok (allc Nw0 alln) (allc Tryd.call84 alln) (by kernel_rfl)) Tryd.func76 (by kernel_rfl) LL Ndw ?_
  intro avs H r H' h
  unfold Ncz at h
  split at h
  · refine Awp.cast ?_ ?_ ?_ (Nwm _ h) <;> kernel_rfl
  · simp [Ans.no,Ans.run] at h

def N1b : Ann := (.seq (.leaf [0]) (.seq (.leaf [0,3]) (.seq (.seq (.leaf [3,4]) (.block (.loop (.seq (.seq (.leaf [3,4,10]) (.cond (.leaf [3,4]) (.leaf [3]))) (.seq (.block (.leaf [3,4])) (.leaf [3,4])))))) (.seq (.leaf [2]) (.leaf [2])))))
noncomputable def N3g : Ctx := ⟨tlook tys,olook [(75,Ncm),(76,Ncz)],ioF,0,false,[]⟩
theorem Nuw (a : Int) : Link N3g LL (Code.seq (cq [0] (bodyOf Tryd.f67)) (cq [0,1] (bodyOf Tryd.f67))) (Ann.seq (aq [0] N1b) (aq [0,1] N1b)) ⟨mkE 22 0 [(0,dW a)],[]⟩ (Ndb a) (fun (t : (List Int)) => (Exit.normal,⟨mkE 22 0 [(0,dW a),(3,.slc 0)],[some (sI t)]⟩)) := .of fun K h => by
  simp only [Ndb,wpW] at h
  exact .of (by kernel_rfl) h
theorem Nv3 (a : Int) (b : List Int) : Link N3g LL (cq [0,0,1,1] (bodyOf Tryd.f67)) (aq [0,0,1,1] N1b) ⟨mkE 22 0 [(0,dW a),(3,.slc 0)],[some (sI b)]⟩ (Nf6) (fun (t : Unit) => (Exit.normal,⟨mkE 22 0 [(3,.slc 0),(4,dW a)],[some (sI b)]⟩)) := .of fun K h => by
  simp only [Nf6,wpW] at h
  exact .of (by kernel_rfl) h
theorem Np0 (a : Int) (b : List Int) : Link N3g LL (cq [0,0,1,0,1,1] (bodyOf Tryd.f67)) (aq [0,0,1,0,1,1] N1b) ⟨mkE 22 0 [(3,.slc 0),(4,dW a)],[some (sI b)]⟩ (Nee a b) (Sum.elim (fun (t : Int × (List Int)) => (Exit.normal,⟨mkE 22 0 [(3,.slc 0),(4,dW t.1)],[some (sI t.2)]⟩)) (fun (t : (List Int)) => ((Exit.exit 0),⟨mkE 22 0 [(3,.slc 0)],[some (sI t)]⟩))) := .of fun K h => by
  simp only [Nee,wpW] at h
  exact .of (by kernel_rfl) h
theorem Nmq (a : List Int) : Link N3g LL (cq [1,1,1] (bodyOf Tryd.f67)) (aq [1,1,1] N1b) ⟨mkE 22 0 [(3,.slc 0)],[some (sI a)]⟩ (Ner a) (fun (t : (List Int)) => (Exit.ret,⟨mkE 22 0 [(2,.slc 0)],[some (sI t)]⟩)) := .of fun K h => by
  simp only [Ner,wpW] at h
  exact .of (by kernel_rfl) h
theorem Nqr (b : Int) {r : AV} {H' : Heap} (h : (Ans.mk _ (N37 b) (fun (t : (List Int)) => (.slc 0,[some (sI t)])) [] none).run = some (r,H')) : Awp N3g LL (bodyOf Tryd.f67) N1b ⟨mkE 22 0 [(0,dW b)],[]⟩ (Ret (tlook tys) Tryd.f67.results.toList r H') :=
  ret_of' (Link.cast (by kernel_rfl) (by kernel_rfl) (link_group (c := (cq [0,1] (bodyOf Tryd.f67))) (a := (aq [0,1] N1b)) [(cq [0] (bodyOf Tryd.f67))] [(aq [0] N1b)] rfl (link_seq (Nuw b) (fun (t : (List Int)) => (link_seq (link_seq (Nv3 b t) (fun (t45 : Unit) => (link_block (fin2 := (fun (t45 : (List Int)) => (Exit.normal,⟨mkE 22 0 [(3,.slc 0)],[some (sI t45)]⟩))) (id := 0) (link_loop (mk := fun (s : Int × (List Int)) => ⟨mkE 22 0 [(3,.slc 0),(4,dW s.1)],[some (sI s.2)]⟩) (fin := (fun (t45 : (List Int)) => ((Exit.exit 0),⟨mkE 22 0 [(3,.slc 0)],[some (sI t45)]⟩))) (by
  rintro t45 f K h
  · exact h) (fun s => link_map (Np0 s.1 s.2) (Sum.elim (fun (t45 : Int × (List Int)) => Sum.inl (t45.1,t45.2)) (fun (t45 : (List Int)) => Sum.inr t45)) (by
  rintro (t45 | t45)
  · kernel_rfl
  · kernel_rfl)) (b,t)) (fun (t45 : (List Int)) => t45) (by
  rintro t45 K h
  · exact Eq.mp (by kernel_rfl) h)))) (fun (t45 : (List Int)) => (Nmq t45))))))) (by unfold N37; kernel_rfl) (by
  intro t
  exact ret_mk [.slc 0] (by kernel_rfl) (by kernel_rfl) (by kernel_rfl) (by kernel_rfl)) h
def N8n : Fun := fun avs H =>
  match avs,H with
  | [.dat (.int .u64) a],[] => ⟨_,N37 a,fun (t : (List Int)) => (.slc 0,[some (sI t)]),[],none⟩
  | _,_ => Ans.no
theorem Nfy : Sound Tryd.prog 67 N8n := by
  refine fn_sound' (C := N3g) (c := bodyOf Tryd.f67) (cok_of tys_ok (allc Nvj (allc Nnk alln)) (allc Tryd.call75 (allc Tryd.call76 alln)) (by kernel_rfl)) Tryd.func67 (by kernel_rfl) LL N1b ?_
  intro avs H r H' h
  unfold N8n at h
  split at h
  · refine Awp.cast ?_ ?_ ?_ (Nqr _ h) <;> kernel_rfl
  · simp [Ans.no,Ans.run] at h

end Go.Rv
