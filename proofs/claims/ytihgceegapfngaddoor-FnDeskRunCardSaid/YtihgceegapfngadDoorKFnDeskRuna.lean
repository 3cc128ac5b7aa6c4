/-
  The checked code answers as the plain functions do; written by program. Conditions: none.
-/
import Derived.Test.YtihgceegapfngadDoorGFnDeskRun
import Derived.Test.YtihgceegapfngadDoorFB
import Derived.Test.YtihgceegapfngadDoorProg
set_option linter.unusedVariables false
set_option linter.unusedSimpArgs false
set_option linter.defProp false
set_option maxRecDepth 100000
namespace Go.Rv
open Go.Proofs
theorem ty3 : TIOk Tryd.prog 3 ⟨.int .i64,1,8,some (.int .i64),[.int .i64 0],false⟩ := ⟨⟨infoOf (Tryd.prog.info? 3),by kernel_rfl,by kernel_rfl,by kernel_rfl,.int .i64 0,by kernel_rfl,by kernel_rfl⟩,(by kernel_rfl : Tryd.prog.underlying 3 = some (.int .i64)),no_eq⟩
theorem ty4 : TIOk Tryd.prog 4 ⟨.bool,1,1,some .bool,[.bool false],false⟩ := ⟨⟨infoOf (Tryd.prog.info? 4),by kernel_rfl,by kernel_rfl,by kernel_rfl,.bool false,by kernel_rfl,by kernel_rfl⟩,(by kernel_rfl : Tryd.prog.underlying 4 = some .bool),no_eq⟩
theorem ty5 : TIOk Tryd.prog 5 ⟨.int .u8,1,1,some (.int .u8),[.int .u8 0],false⟩ := ⟨⟨infoOf (Tryd.prog.info? 5),by kernel_rfl,by kernel_rfl,by kernel_rfl,.int .u8 0,by kernel_rfl,by kernel_rfl⟩,(by kernel_rfl : Tryd.prog.underlying 5 = some (.int .u8)),no_eq⟩
theorem ty22 : TIOk Tryd.prog 22 ⟨.slice 5,1,24,some (.list (.int .u8)),[.slice none 0 0],false⟩ := ⟨⟨infoOf (Tryd.prog.info? 22),by kernel_rfl,by kernel_rfl,by kernel_rfl,.slice none 0 0,by kernel_rfl,by kernel_rfl⟩,(by kernel_rfl : Tryd.prog.underlying 22 = some (.slice 5)),no_eq⟩
theorem ty23 : TIOk Tryd.prog 23 ⟨.slice 3,1,24,some (.list (.int .i64)),[.slice none 0 0],false⟩ := ⟨⟨infoOf (Tryd.prog.info? 23),by kernel_rfl,by kernel_rfl,by kernel_rfl,.slice none 0 0,by kernel_rfl,by kernel_rfl⟩,(by kernel_rfl : Tryd.prog.underlying 23 = some (.slice 3)),no_eq⟩
theorem ty24 : TIOk Tryd.prog 24 ⟨.slice 23,1,24,some (.list (.list (.int .i64))),[.slice none 0 0],false⟩ := ⟨⟨infoOf (Tryd.prog.info? 24),by kernel_rfl,by kernel_rfl,by kernel_rfl,.slice none 0 0,by kernel_rfl,by kernel_rfl⟩,(by kernel_rfl : Tryd.prog.underlying 24 = some (.slice 23)),no_eq⟩
theorem ty26 : TIOk Tryd.prog 26 ⟨.strct [(0,23),(1,24)],2,48,some (.pair (.list (.int .i64)) (.pair (.list (.list (.int .i64))) .unit)),[.slice none 0 0,.slice none 0 0],false⟩ := ⟨⟨infoOf (Tryd.prog.info? 26),by kernel_rfl,by kernel_rfl,by kernel_rfl,.agg #[.slice none 0 0,.slice none 0 0],by kernel_rfl,by kernel_rfl⟩,⟨fieldsOf (Tryd.prog.underlying 26),by kernel_rfl,by kernel_rfl⟩,no_eq⟩
theorem ty28 : TIOk Tryd.prog 28 ⟨.strct [(0,3),(1,3),(2,3)],3,24,some (.pair (.int .i64) (.pair (.int .i64) (.pair (.int .i64) .unit))),[.int .i64 0,.int .i64 0,.int .i64 0],true⟩ := ⟨⟨infoOf (Tryd.prog.info? 28),by kernel_rfl,by kernel_rfl,by kernel_rfl,.agg #[.int .i64 0,.int .i64 0,.int .i64 0],by kernel_rfl,by kernel_rfl⟩,⟨fieldsOf (Tryd.prog.underlying 28),by kernel_rfl,by kernel_rfl⟩,fun _ => by kernel_rfl⟩
theorem ty39 : TIOk Tryd.prog 39 ⟨.slice 28,1,24,some (.list (.pair (.int .i64) (.pair (.int .i64) (.pair (.int .i64) .unit)))),[.slice none 0 0],false⟩ := ⟨⟨infoOf (Tryd.prog.info? 39),by kernel_rfl,by kernel_rfl,by kernel_rfl,.slice none 0 0,by kernel_rfl,by kernel_rfl⟩,(by kernel_rfl : Tryd.prog.underlying 39 = some (.slice 28)),no_eq⟩
theorem ty57 : TIOk Tryd.prog 57 ⟨.strct [(0,3),(1,3)],2,16,some (.pair (.int .i64) (.pair (.int .i64) .unit)),[.int .i64 0,.int .i64 0],false⟩ := ⟨⟨infoOf (Tryd.prog.info? 57),by kernel_rfl,by kernel_rfl,by kernel_rfl,.agg #[.int .i64 0,.int .i64 0],by kernel_rfl,by kernel_rfl⟩,⟨fieldsOf (Tryd.prog.underlying 57),by kernel_rfl,by kernel_rfl⟩,no_eq⟩
theorem ty58 : TIOk Tryd.prog 58 ⟨.slice 57,1,24,some (.list (.pair (.int .i64) (.pair (.int .i64) .unit))),[.slice none 0 0],false⟩ := ⟨⟨infoOf (Tryd.prog.info? 58),by kernel_rfl,by kernel_rfl,by kernel_rfl,.slice none 0 0,by kernel_rfl,by kernel_rfl⟩,(by kernel_rfl : Tryd.prog.underlying 58 = some (.slice 57)),no_eq⟩
theorem ty62 : TIOk Tryd.prog 62 ⟨.slice 65,1,24,some (.list (.int .u64)),[.slice none 0 0],false⟩ := ⟨⟨infoOf (Tryd.prog.info? 62),by kernel_rfl,by kernel_rfl,by kernel_rfl,.slice none 0 0,by kernel_rfl,by kernel_rfl⟩,(by kernel_rfl : Tryd.prog.underlying 62 = some (.slice 65)),no_eq⟩
theorem ty65 : TIOk Tryd.prog 65 ⟨.int .u64,1,8,some (.int .u64),[.int .u64 0],false⟩ := ⟨⟨infoOf (Tryd.prog.info? 65),by kernel_rfl,by kernel_rfl,by kernel_rfl,.int .u64 0,by kernel_rfl,by kernel_rfl⟩,(by kernel_rfl : Tryd.prog.underlying 65 = some (.int .u64)),no_eq⟩
theorem ty69 : TIOk Tryd.prog 69 ⟨.strct [(0,22),(1,3)],2,32,some (.pair (.list (.int .u8)) (.pair (.int .i64) .unit)),[.slice none 0 0,.int .i64 0],false⟩ := ⟨⟨infoOf (Tryd.prog.info? 69),by kernel_rfl,by kernel_rfl,by kernel_rfl,.agg #[.slice none 0 0,.int .i64 0],by kernel_rfl,by kernel_rfl⟩,⟨fieldsOf (Tryd.prog.underlying 69),by kernel_rfl,by kernel_rfl⟩,no_eq⟩
theorem ty85 : TIOk Tryd.prog 85 ⟨.strct [(0,23),(1,3),(2,3)],3,40,some (.pair (.list (.int .i64)) (.pair (.int .i64) (.pair (.int .i64) .unit))),[.slice none 0 0,.int .i64 0,.int .i64 0],false⟩ := ⟨⟨infoOf (Tryd.prog.info? 85),by kernel_rfl,by kernel_rfl,by kernel_rfl,.agg #[.slice none 0 0,.int .i64 0,.int .i64 0],by kernel_rfl,by kernel_rfl⟩,⟨fieldsOf (Tryd.prog.underlying 85),by kernel_rfl,by kernel_rfl⟩,no_eq⟩
theorem ty100 : TIOk Tryd.prog 100 ⟨.int .u64,1,8,some (.int .u64),[.int .u64 0],false⟩ := ⟨⟨infoOf (Tryd.prog.info? 100),by kernel_rfl,by kernel_rfl,by kernel_rfl,.int .u64 0,by kernel_rfl,by kernel_rfl⟩,(by kernel_rfl : Tryd.prog.underlying 100 = some (.int .u64)),no_eq⟩
theorem ty101 : TIOk Tryd.prog 101 ⟨.arr 9 4,9,9,none,[.bool false,.bool false,.bool false,.bool false,.bool false,.bool false,.bool false,.bool false,.bool false],false⟩ := ⟨⟨infoOf (Tryd.prog.info? 101),by kernel_rfl,by kernel_rfl,by kernel_rfl,.agg #[.bool false,.bool false,.bool false,.bool false,.bool false,.bool false,.bool false,.bool false,.bool false],by kernel_rfl,by kernel_rfl⟩,(by kernel_rfl : Tryd.prog.underlying 101 = some (.array 9 4)),no_eq⟩
theorem ty106 : TIOk Tryd.prog 106 ⟨.arr 64 5,64,64,none,[.int .u8 0,.int .u8 0,.int .u8 0,.int .u8 0,.int .u8 0,.int .u8 0,.int .u8 0,.int .u8 0,.int .u8 0,.int .u8 0,.int .u8 0,.int .u8 0,.int .u8 0,.int .u8 0,.int .u8 0,.int .u8 0,.int .u8 0,.int .u8 0,.int .u8 0,.int .u8 0,.int .u8 0,.int .u8 0,.int .u8 0,.int .u8 0,.int .u8 0,.int .u8 0,.int .u8 0,.int .u8 0,.int .u8 0,.int .u8 0,.int .u8 0,.int .u8 0,.int .u8 0,.int .u8 0,.int .u8 0,.int .u8 0,.int .u8 0,.int .u8 0,.int .u8 0,.int .u8 0,.int .u8 0,.int .u8 0,.int .u8 0,.int .u8 0,.int .u8 0,.int .u8 0,.int .u8 0,.int .u8 0,.int .u8 0,.int .u8 0,.int .u8 0,.int .u8 0,.int .u8 0,.int .u8 0,.int .u8 0,.int .u8 0,.int .u8 0,.int .u8 0,.int .u8 0,.int .u8 0,.int .u8 0,.int .u8 0,.int .u8 0,.int .u8 0],false⟩ := ⟨⟨infoOf (Tryd.prog.info? 106),by kernel_rfl,by kernel_rfl,by kernel_rfl,.agg #[.int .u8 0,.int .u8 0,.int .u8 0,.int .u8 0,.int .u8 0,.int .u8 0,.int .u8 0,.int .u8 0,.int .u8 0,.int .u8 0,.int .u8 0,.int .u8 0,.int .u8 0,.int .u8 0,.int .u8 0,.int .u8 0,.int .u8 0,.int .u8 0,.int .u8 0,.int .u8 0,.int .u8 0,.int .u8 0,.int .u8 0,.int .u8 0,.int .u8 0,.int .u8 0,.int .u8 0,.int .u8 0,.int .u8 0,.int .u8 0,.int .u8 0,.int .u8 0,.int .u8 0,.int .u8 0,.int .u8 0,.int .u8 0,.int .u8 0,.int .u8 0,.int .u8 0,.int .u8 0,.int .u8 0,.int .u8 0,.int .u8 0,.int .u8 0,.int .u8 0,.int .u8 0,.int .u8 0,.int .u8 0,.int .u8 0,.int .u8 0,.int .u8 0,.int .u8 0,.int .u8 0,.int .u8 0,.int .u8 0,.int .u8 0,.int .u8 0,.int .u8 0,.int .u8 0,.int .u8 0,.int .u8 0,.int .u8 0,.int .u8 0,.int .u8 0],by kernel_rfl,by kernel_rfl⟩,(by kernel_rfl : Tryd.prog.underlying 106 = some (.array 64 5)),no_eq⟩
def tys : List (TypeId × TI) := [(3,⟨.int .i64,1,8,some (.int .i64),[.int .i64 0],false⟩),(4,⟨.bool,1,1,some .bool,[.bool false],false⟩),(5,⟨.int .u8,1,1,some (.int .u8),[.int .u8 0],false⟩),(22,⟨.slice 5,1,24,some (.list (.int .u8)),[.slice none 0 0],false⟩),(23,⟨.slice 3,1,24,some (.list (.int .i64)),[.slice none 0 0],false⟩),(24,⟨.slice 23,1,24,some (.list (.list (.int .i64))),[.slice none 0 0],false⟩),(26,⟨.strct [(0,23),(1,24)],2,48,some (.pair (.list (.int .i64)) (.pair (.list (.list (.int .i64))) .unit)),[.slice none 0 0,.slice none 0 0],false⟩),(28,⟨.strct [(0,3),(1,3),(2,3)],3,24,some (.pair (.int .i64) (.pair (.int .i64) (.pair (.int .i64) .unit))),[.int .i64 0,.int .i64 0,.int .i64 0],true⟩),(39,⟨.slice 28,1,24,some (.list (.pair (.int .i64) (.pair (.int .i64) (.pair (.int .i64) .unit)))),[.slice none 0 0],false⟩),(57,⟨.strct [(0,3),(1,3)],2,16,some (.pair (.int .i64) (.pair (.int .i64) .unit)),[.int .i64 0,.int .i64 0],false⟩),(58,⟨.slice 57,1,24,some (.list (.pair (.int .i64) (.pair (.int .i64) .unit))),[.slice none 0 0],false⟩),(62,⟨.slice 65,1,24,some (.list (.int .u64)),[.slice none 0 0],false⟩),(65,⟨.int .u64,1,8,some (.int .u64),[.int .u64 0],false⟩),(69,⟨.strct [(0,22),(1,3)],2,32,some (.pair (.list (.int .u8)) (.pair (.int .i64) .unit)),[.slice none 0 0,.int .i64 0],false⟩),(85,⟨.strct [(0,23),(1,3),(2,3)],3,40,some (.pair (.list (.int .i64)) (.pair (.int .i64) (.pair (.int .i64) .unit))),[.slice none 0 0,.int .i64 0,.int .i64 0],false⟩),(100,⟨.int .u64,1,8,some (.int .u64),[.int .u64 0],false⟩),(101,⟨.arr 9 4,9,9,none,[.bool false,.bool false,.bool false,.bool false,.bool false,.bool false,.bool false,.bool false,.bool false],false⟩),(106,⟨.arr 64 5,64,64,none,[.int .u8 0,.int .u8 0,.int .u8 0,.int .u8 0,.int .u8 0,.int .u8 0,.int .u8 0,.int .u8 0,.int .u8 0,.int .u8 0,.int .u8 0,.int .u8 0,.int .u8 0,.int .u8 0,.int .u8 0,.int .u8 0,.int .u8 0,.int .u8 0,.int .u8 0,.int .u8 0,.int .u8 0,.int .u8 0,.int .u8 0,.int .u8 0,.int .u8 0,.int .u8 0,.int .u8 0,.int .u8 0,.int .u8 0,.int .u8 0,.int .u8 0,.int .u8 0,.int .u8 0,.int .u8 0,.int .u8 0,.int .u8 0,.int .u8 0,.int .u8 0,.int .u8 0,.int .u8 0,.int .u8 0,.int .u8 0,.int .u8 0,.int .u8 0,.int .u8 0,.int .u8 0,.int .u8 0,.int .u8 0,.int .u8 0,.int .u8 0,.int .u8 0,.int .u8 0,.int .u8 0,.int .u8 0,.int .u8 0,.int .u8 0,.int .u8 0,.int .u8 0,.int .u8 0,.int .u8 0,.int .u8 0,.int .u8 0,.int .u8 0,.int .u8 0],false⟩)]
theorem tys_ok : TOk Tryd.prog (tlook tys) := tok_of (allc ty3 (allc ty4 (allc ty5 (allc ty22 (allc ty23 (allc ty24 (allc ty26 (allc ty28 (allc ty39 (allc ty57 (allc ty58 (allc ty62 (allc ty65 (allc ty69 (allc ty85 (allc ty100 (allc ty101 (allc ty106 alln))))))))))))))))))
def ioF (f : FuncId) (i : Nat) : Bool := [(54,0),(69,1),(81,0),(86,0)].any fun (p : Nat × Nat) => Nat.beq p.1 f && Nat.beq p.2 i

def Nc3 : Ann := (.seq (.leaf [0]) (.seq (.seq (.leaf [0,5]) (.cond (.leaf [0]) (.leaf [0]))) (.seq (.leaf [2]) (.leaf [2]))))
noncomputable def Nbt : Ctx := ⟨tlook tys,olook [],ioF,0,false,[]⟩
theorem Nup (a : List Int) : Link Nbt LL (bodyOf Tryd.f18) Nc3 ⟨mkE 11 0 [(0,dV a)],[]⟩ (N7w a) (fun (t : (List Int)) => (Exit.ret,⟨mkE 11 0 [(2,.ptr 0 0)],[some (.box [dV t,dI 0])]⟩)) := .of fun K h => by
  simp only [N7w,wpW] at h
  exact .of (by kernel_rfl) h
theorem Njp (a : List Int) {r : AV} {H' : Heap} (h : (Ans.mk _ (N3l a) (fun (t : (List Int)) => (.ptr 0 0,[some (.box [dV t,dI 0])])) [] none).run = some (r,H')) : Awp Nbt LL (bodyOf Tryd.f18) Nc3 ⟨mkE 11 0 [(0,dV a)],[]⟩ (Ret (tlook tys) Tryd.f18.results.toList r H') :=
  ret_of' (Nup a) (by unfold N3l; kernel_rfl) (by
  intro t
  exact ret_mk [.ptr 0 0] (by kernel_rfl) (by kernel_rfl) (by kernel_rfl) (by kernel_rfl)) h
def Ncz : Fun := fun avs H =>
  match avs,H with
  | [.dat (.list (.int .u8)) a],[] => ⟨_,N3l a,fun (t : (List Int)) => (.ptr 0 0,[some (.box [dV t,dI 0])]),[],none⟩
  | _,_ => Ans.no
theorem Nta : Sound Tryd.prog 18 Ncz := by
  refine fn_sound' (C := Nbt) (c := bodyOf Tryd.f18) (cok_of tys_ok (alln) (alln) (by kernel_rfl)) Tryd.func18 (by kernel_rfl) LL Nc3 ?_
  intro avs H r H' h
  unfold Ncz at h
  split at h
  · refine Awp.cast ?_ ?_ ?_ (Njp _ h) <;> kernel_rfl
  · simp [Ans.no,Ans.run] at h

def Ncu : Ann := (.seq (.leaf [0,1]) (.seq (.leaf [0,1]) (.seq (.seq (.leaf [0,1,24]) (.cond (.seq (.leaf [4]) (.leaf [4])) (.leaf [0,1]))) (.seq (.leaf [0,1,5]) (.seq (.seq (.leaf [0,1,5,36]) (.cond (.seq (.leaf [4]) (.leaf [4])) (.leaf [0,1,5]))) (.seq (.draw [] [0,1,2,3,4,5,6,7,8,9,10,11,12,13,14,15,16,17,18,19,20,21,22,23,24,25,26,27,28,29,30,31,32,33,34,35,36,37,38,39,40,41,42,43,44,45] [] [1,6]) (.seq (.leaf [1,6]) (.seq (.leaf [4]) (.leaf [4])))))))))
noncomputable def Nau : Ctx := ⟨tlook tys,olook [],ioF,1,false,[]⟩
theorem Nlx (a : Int) (b : List Int) (c : Int) : Link Nau LL (bodyOf Tryd.f40) Ncu ⟨mkE 99 0 [(0,.ptr 0 0),(1,dI a)],[some (.box [dV b,dI c])]⟩ (N7f a b c) (fun (t : Int × Int) => (Exit.ret,⟨mkE 99 0 [(4,dI t.1)],[some (.box [dV b,dI t.2])]⟩)) := .of fun K h => by
  simp only [N7f,wpW] at h
  exact .of (by kernel_rfl) h
theorem Nng (a : Int) (b : List Int) (c : Int) {r : AV} {H' : Heap} (h : (Ans.mk _ (N0 a b c) (fun (t : Int × Int) => (dI t.1,[some (.box [dV b,dI t.2])])) [] none).run = some (r,H')) : Awp Nau LL (bodyOf Tryd.f40) Ncu ⟨mkE 99 0 [(0,.ptr 0 0),(1,dI a)],[some (.box [dV b,dI c])]⟩ (Ret (tlook tys) Tryd.f40.results.toList r H') :=
  ret_of' (Nlx a b c) (by unfold N0; kernel_rfl) (by
  intro t
  exact ret_mk [dI t.1] (by kernel_rfl) (by kernel_rfl) (by kernel_rfl) (by kernel_rfl)) h
def Nm : Fun := fun avs H =>
  match avs,H with
  | [.ptr 0 0,.dat (.int .i64) a],[some (.box [.dat (.list (.int .u8)) b,.dat (.int .i64) c])] => ⟨_,N0 a b c,fun (t : Int × Int) => (dI t.1,[some (.box [dV b,dI t.2])]),[],none⟩
  | _,_ => Ans.no
theorem N1f : Sound Tryd.prog 40 Nm := by
  refine fn_sound' (C := Nau) (c := bodyOf Tryd.f40) (cok_of tys_ok (alln) (alln) (by kernel_rfl)) Tryd.func40 (by kernel_rfl) LL Ncu ?_
  intro avs H r H' h
  unfold Nm at h
  split at h
  · refine Awp.cast ?_ ?_ ?_ (Nng _ _ _ h) <;> kernel_rfl
  · simp [Ans.no,Ans.run] at h

def Ni : Ann := (.seq (.leaf [0,1]) (.seq (.leaf [0,1,5]) (.seq (.leaf [0,1,5,6]) (.seq (.seq (.leaf [0,1,5,6,7]) (.block (.loop (.seq (.seq (.leaf [0,1,5,6,7,15]) (.cond (.leaf [0,1,5,6,7]) (.leaf [5]))) (.seq (.block (.seq (.leaf [0,1,5,6,7,8]) (.seq (.seq (.leaf [0,1,5,6,7,8,26]) (.cond (.leaf [0,1,5,6,7,8]) (.leaf [0,1,5,6,7,8]))) (.seq (.leaf [0,1,5,6,7,8,9]) (.seq (.leaf [0,1,5,6,7,8,9]) (.leaf [0,1,5,6,7])))))) (.leaf [0,1,5,6,7])))))) (.seq (.leaf [4]) (.leaf [4]))))))
noncomputable def N3r : Ctx := ⟨tlook tys,olook [(40,Nm)],ioF,1,false,[]⟩
theorem Nma (a : Int) (b : List Int) (c : Int) : Link N3r LL (Code.seq (cq [0] (bodyOf Tryd.f58)) (Code.seq (cq [0,1] (bodyOf Tryd.f58)) (cq [0,1,1] (bodyOf Tryd.f58)))) (Ann.seq (aq [0] Ni) (Ann.seq (aq [0,1] Ni) (aq [0,1,1] Ni))) ⟨mkE 45 0 [(0,.ptr 0 0),(1,dI a)],[some (.box [dV b,dI c])]⟩ (N79 b c) (fun (t : Int × Int) => (Exit.normal,⟨mkE 45 0 [(0,.ptr 0 0),(1,dI a),(5,.slc 1),(6,dI t.1)],[some (.box [dV b,dI t.2]),some (sI ([] : List Int))]⟩)) := .of fun K h => by
  simp only [N79,wpW] at h
  exact .of (by kernel_rfl) h
theorem Nik (a b : Int) (c : List Int) (d : Int) : Link N3r LL (cq [0,0,1,1,1] (bodyOf Tryd.f58)) (aq [0,0,1,1,1] Ni) ⟨mkE 45 0 [(0,.ptr 0 0),(1,dI a),(5,.slc 1),(6,dI b)],[some (.box [dV c,dI d]),some (sI ([] : List Int))]⟩ (N7l) (fun (t : Unit) => (Exit.normal,⟨mkE 45 0 [(0,.ptr 0 0),(1,dI a),(5,.slc 1),(6,dI b),(7,dI 1)],[some (.box [dV c,dI d]),some (sI ([] : List Int))]⟩)) := .of fun K h => by
  simp only [N7l,wpW] at h
  exact .of (by kernel_rfl) h
theorem Nj5 (a b c : Int) (d : List Int) (g : Int) (i : List Int) : Link N3r LL (cq [0,0,1,0,1,1,1] (bodyOf Tryd.f58)) (aq [0,0,1,0,1,1,1] Ni) ⟨mkE 45 0 [(0,.ptr 0 0),(1,dI a),(5,.slc 1),(6,dI b),(7,dI c)],[some (.box [dV d,dI g]),some (sI i)]⟩ (N4e a b c d g i) (Sum.elim (fun (t : Int × Int × (List Int)) => (Exit.normal,⟨mkE 45 0 [(0,.ptr 0 0),(1,dI a),(5,.slc 1),(6,dI b),(7,dI t.1)],[some (.box [dV d,dI t.2.1]),some (sI t.2.2)]⟩)) (fun (t : Int × (List Int)) => ((Exit.exit 0),⟨mkE 45 0 [(5,.slc 1)],[some (.box [dV d,dI t.1]),some (sI t.2)]⟩))) := .of fun K h => by
  simp only [N4e,wpW] at h
  exact .of (by kernel_rfl) h
theorem Nnc (a : List Int) (b : Int) (c : List Int) : Link N3r LL (cq [1,1,1,1] (bodyOf Tryd.f58)) (aq [1,1,1,1] Ni) ⟨mkE 45 0 [(5,.slc 1)],[some (.box [dV a,dI b]),some (sI c)]⟩ (N8j b c) (fun (t : Int × (List Int)) => (Exit.ret,⟨mkE 45 0 [(4,.slc 1)],[some (.box [dV a,dI t.1]),some (sI t.2)]⟩)) := .of fun K h => by
  simp only [N8j,wpW] at h
  exact .of (by kernel_rfl) h
theorem Nlf (b : Int) (d : List Int) (g : Int) {r : AV} {H' : Heap} (h : (Ans.mk _ (N2e b d g) (fun (t : Int × (List Int)) => (.slc 1,[some (.box [dV d,dI t.1]),some (sI t.2)])) [] none).run = some (r,H')) : Awp N3r LL (bodyOf Tryd.f58) Ni ⟨mkE 45 0 [(0,.ptr 0 0),(1,dI b)],[some (.box [dV d,dI g])]⟩ (Ret (tlook tys) Tryd.f58.results.toList r H') :=
  ret_of' (Link.cast (by kernel_rfl) (by kernel_rfl) (link_group (c := (cq [0,1,1] (bodyOf Tryd.f58))) (a := (aq [0,1,1] Ni)) [(cq [0] (bodyOf Tryd.f58)),(cq [0,1] (bodyOf Tryd.f58))] [(aq [0] Ni),(aq [0,1] Ni)] rfl (link_seq (Nma b d g) (fun (t : Int × Int) => (link_seq (link_seq (Nik b t.1 d t.2) (fun (t25 : Unit) => (link_block (fin2 := (fun (t25 : Int × (List Int)) => (Exit.normal,⟨mkE 45 0 [(5,.slc 1)],[some (.box [dV d,dI t25.1]),some (sI t25.2)]⟩))) (id := 0) (link_loop (mk := fun (s : Int × Int × (List Int)) => ⟨mkE 45 0 [(0,.ptr 0 0),(1,dI b),(5,.slc 1),(6,dI t.1),(7,dI s.1)],[some (.box [dV d,dI s.2.1]),some (sI s.2.2)]⟩) (fin := (fun (t25 : Int × (List Int)) => ((Exit.exit 0),⟨mkE 45 0 [(5,.slc 1)],[some (.box [dV d,dI t25.1]),some (sI t25.2)]⟩))) (by
  rintro t25 f K h
  · exact h) (fun s => link_map (Nj5 b t.1 s.1 d s.2.1 s.2.2) (Sum.elim (fun (t25 : Int × Int × (List Int)) => Sum.inl (t25.1,t25.2.1,t25.2.2)) (fun (t25 : Int × (List Int)) => Sum.inr t25)) (by
  rintro (t25 | t25)
  · kernel_rfl
  · kernel_rfl)) (1,t.2,([] : List Int))) (fun (t25 : Int × (List Int)) => (t25.1,t25.2)) (by
  rintro t25 K h
  · exact Eq.mp (by kernel_rfl) h)))) (fun (t25 : Int × (List Int)) => (Nnc d t25.1 t25.2))))))) (by unfold N2e; kernel_rfl) (by
  intro t
  exact ret_mk [.slc 1] (by kernel_rfl) (by kernel_rfl) (by kernel_rfl) (by kernel_rfl)) h
def N6c : Fun := fun avs H =>
  match avs,H with
  | [.ptr 0 0,.dat (.int .i64) a],[some (.box [.dat (.list (.int .u8)) b,.dat (.int .i64) c])] => ⟨_,N2e a b c,fun (t : Int × (List Int)) => (.slc 1,[some (.box [dV b,dI t.1]),some (sI t.2)]),[],none⟩
  | _,_ => Ans.no
theorem Nhc : Sound Tryd.prog 58 N6c := by
  refine fn_sound' (C := N3r) (c := bodyOf Tryd.f58) (cok_of tys_ok (allc N1f alln) (allc Tryd.call40 alln) (by kernel_rfl)) Tryd.func58 (by kernel_rfl) LL Ni ?_
  intro avs H r H' h
  unfold N6c at h
  split at h
  · refine Awp.cast ?_ ?_ ?_ (Nlf _ _ _ h) <;> kernel_rfl
  · simp [Ans.no,Ans.run] at h

def Nab : Ann := (.seq (.leaf [0,1]) (.seq (.leaf [4]) (.leaf [4])))
noncomputable def Ndg : Ctx := ⟨tlook tys,olook [(40,Nm)],ioF,1,false,[]⟩
theorem Nl5 (a : Int) (b : List Int) (c : Int) : Link Ndg LL (bodyOf Tryd.f36) Nab ⟨mkE 15 0 [(0,.ptr 0 0),(1,dI a)],[some (.box [dV b,dI c])]⟩ (N6x a b c) (fun (t : Bool × Int) => (Exit.ret,⟨mkE 15 0 [(4,dB t.1)],[some (.box [dV b,dI t.2])]⟩)) := .of fun K h => by
  simp only [N6x,wpW] at h
  exact .of (by kernel_rfl) h
theorem Nvv (a : Int) (b : List Int) (c : Int) {r : AV} {H' : Heap} (h : (Ans.mk _ (Nd a b c) (fun (t : Bool × Int) => (dB t.1,[some (.box [dV b,dI t.2])])) [] none).run = some (r,H')) : Awp Ndg LL (bodyOf Tryd.f36) Nab ⟨mkE 15 0 [(0,.ptr 0 0),(1,dI a)],[some (.box [dV b,dI c])]⟩ (Ret (tlook tys) Tryd.f36.results.toList r H') :=
  ret_of' (Nl5 a b c) (by unfold Nd; kernel_rfl) (by
  intro t
  exact ret_mk [dB t.1] (by kernel_rfl) (by kernel_rfl) (by kernel_rfl) (by kernel_rfl)) h
def N2y : Fun := fun avs H =>
  match avs,H with
  | [.ptr 0 0,.dat (.int .i64) a],[some (.box [.dat (.list (.int .u8)) b,.dat (.int .i64) c])] => ⟨_,Nd a b c,fun (t : Bool × Int) => (dB t.1,[some (.box [dV b,dI t.2])]),[],none⟩
  | _,_ => Ans.no
theorem N66 : Sound Tryd.prog 36 N2y := by
  refine fn_sound' (C := Ndg) (c := bodyOf Tryd.f36) (cok_of tys_ok (allc N1f alln) (allc Tryd.call40 alln) (by kernel_rfl)) Tryd.func36 (by kernel_rfl) LL Nab ?_
  intro avs H r H' h
  unfold N2y at h
  split at h
  · refine Awp.cast ?_ ?_ ?_ (Nvv _ _ _ h) <;> kernel_rfl
  · simp [Ans.no,Ans.run] at h

def N3 : Ann := (.seq (.leaf [0,1]) (.seq (.leaf [0,1,5]) (.seq (.leaf [0,1,5,6]) (.seq (.leaf [0,1,5,6,7]) (.seq (.leaf [0,1,5,6,7,8]) (.seq (.seq (.leaf [0,1,5,6,7,8,9]) (.block (.loop (.seq (.seq (.leaf [0,1,5,6,7,8,9,23]) (.cond (.leaf [0,1,5,6,7,8,9]) (.leaf [0,1,5,7]))) (.seq (.block (.seq (.leaf [0,1,5,6,7,8,9,10]) (.seq (.seq (.leaf [0,1,5,6,7,8,9,10,35]) (.cond (.leaf [0,1,5,6,7,8,9,10]) (.leaf [0,1,5,6,7,8,9,10]))) (.draw [] [0,1,2,3,4,5,6,7,8,9,10,11] [] [0,1,5,6,7,8,9])))) (.leaf [0,1,5,6,7,8,9])))))) (.seq (.seq (.leaf [0,5,7,51]) (.cond (.seq (.leaf [0,5,7,53]) (.block (.seq (.leaf [0,5,7,53,63]) (.cond (.seq (.leaf [4]) (.leaf [4])) (.seq (.leaf [0,5,7,53,66]) (.cond (.seq (.leaf [4]) (.leaf [4])) (.seq (.leaf [0,5,7,69]) (.cond (.seq (.leaf [7]) (.seq (.leaf [4]) (.leaf [4]))) (.leaf [7]))))))))) (.leaf [7]))) (.seq (.leaf [4]) (.leaf [4])))))))))
noncomputable def N2k : Ctx := ⟨tlook tys,olook [(40,Nm),(58,N6c),(36,N2y)],ioF,1,false,[]⟩
theorem Npw (a : Int) (b : List Int) (c : Int) : Link N2k LL (Code.seq (cq [0] (bodyOf Tryd.f56)) (Code.seq (cq [0,1] (bodyOf Tryd.f56)) (Code.seq (cq [0,1,1] (bodyOf Tryd.f56)) (Code.seq (cq [0,1,1,1] (bodyOf Tryd.f56)) (cq [0,1,1,1,1] (bodyOf Tryd.f56)))))) (Ann.seq (aq [0] N3) (Ann.seq (aq [0,1] N3) (Ann.seq (aq [0,1,1] N3) (Ann.seq (aq [0,1,1,1] N3) (aq [0,1,1,1,1] N3))))) ⟨mkE 80 0 [(0,.ptr 0 0),(1,dI a)],[some (.box [dV b,dI c])]⟩ (N7t b c) (fun (t : Int × Int × Int × (List Int) × (List Int)) => (Exit.normal,⟨mkE 80 0 [(0,.ptr 0 0),(1,dI a),(5,dI t.1),(6,.slc 1),(7,.slc 2),(8,dI t.2.1)],[some (.box [dV b,dI t.2.2.1]),some (sI t.2.2.2.1),some (sI t.2.2.2.2)]⟩)) := .of fun K h => by
  simp only [N7t,wpW] at h
  exact .of (by kernel_rfl) h
theorem Nxh (a b c : Int) (d : List Int) (g : Int) (i j : List Int) : Link N2k LL (cq [0,0,1,1,1,1,1] (bodyOf Tryd.f56)) (aq [0,0,1,1,1,1,1] N3) ⟨mkE 80 0 [(0,.ptr 0 0),(1,dI a),(5,dI b),(6,.slc 1),(7,.slc 2),(8,dI c)],[some (.box [dV d,dI g]),some (sI i),some (sI j)]⟩ (N7c) (fun (t : Unit) => (Exit.normal,⟨mkE 80 0 [(0,.ptr 0 0),(1,dI a),(5,dI b),(6,.slc 1),(7,.slc 2),(8,dI c),(9,dI 1)],[some (.box [dV d,dI g]),some (sI i),some (sI j)]⟩)) := .of fun K h => by
  simp only [N7c,wpW] at h
  exact .of (by kernel_rfl) h
theorem Nm4 (a b c d : Int) (g : List Int) (i : Int) (j k : List Int) : Link N2k LL (cq [0,0,1,0,1,1,1,1,1] (bodyOf Tryd.f56)) (aq [0,0,1,0,1,1,1,1,1] N3) ⟨mkE 80 0 [(0,.ptr 0 0),(1,dI a),(5,dI b),(6,.slc 1),(7,.slc 2),(8,dI c),(9,dI d)],[some (.box [dV g,dI i]),some (sI j),some (sI k)]⟩ (N4f b c d g i j k) (Sum.elim (fun (t : Int × Int × (List Int)) => (Exit.normal,⟨mkE 80 0 [(0,.ptr 0 0),(1,dI a),(5,dI b),(6,.slc 1),(7,.slc 2),(8,dI c),(9,dI t.1)],[some (.box [dV g,dI t.2.1]),some (sI j),some (sI t.2.2)]⟩)) (fun (t : Int × (List Int)) => ((Exit.exit 0),⟨mkE 80 0 [(0,.ptr 0 0),(1,dI a),(5,dI b),(7,.slc 1)],[some (.box [dV g,dI t.1]),some (sI t.2)]⟩))) := .of fun K h => by
  simp only [N4f,wpW] at h
  exact .of (by kernel_rfl) h
theorem Nu8 (a b : Int) (c : List Int) (d : Int) (g : List Int) : Link N2k LL (cq [1,1,1,1,1,1] (bodyOf Tryd.f56)) (aq [1,1,1,1,1,1] N3) ⟨mkE 80 0 [(0,.ptr 0 0),(1,dI a),(5,dI b),(7,.slc 1)],[some (.box [dV c,dI d]),some (sI g)]⟩ (N72 a b c d g) (fun (t : Int × (List Int)) => (Exit.ret,⟨mkE 80 0 [(4,.slc 1)],[some (.box [dV c,dI t.1]),some (sI t.2)]⟩)) := .of fun K h => by
  simp only [N72,wpW] at h
  exact .of (by kernel_rfl) h
theorem Nj3 (b : Int) (d : List Int) (g : Int) {r : AV} {H' : Heap} (h : (Ans.mk _ (N25 b d g) (fun (t : Int × (List Int)) => (.slc 1,[some (.box [dV d,dI t.1]),some (sI t.2)])) [] none).run = some (r,H')) : Awp N2k LL (bodyOf Tryd.f56) N3 ⟨mkE 80 0 [(0,.ptr 0 0),(1,dI b)],[some (.box [dV d,dI g])]⟩ (Ret (tlook tys) Tryd.f56.results.toList r H') :=
  ret_of' (Link.cast (by kernel_rfl) (by kernel_rfl) (link_group (c := (cq [0,1,1,1,1] (bodyOf Tryd.f56))) (a := (aq [0,1,1,1,1] N3)) [(cq [0] (bodyOf Tryd.f56)),(cq [0,1] (bodyOf Tryd.f56)),(cq [0,1,1] (bodyOf Tryd.f56)),(cq [0,1,1,1] (bodyOf Tryd.f56))] [(aq [0] N3),(aq [0,1] N3),(aq [0,1,1] N3),(aq [0,1,1,1] N3)] rfl (link_seq (Npw b d g) (fun (t : Int × Int × Int × (List Int) × (List Int)) => (link_seq (link_seq (Nxh b t.1 t.2.1 d t.2.2.1 t.2.2.2.1 t.2.2.2.2) (fun (t26 : Unit) => (link_block (fin2 := (fun (t26 : Int × (List Int)) => (Exit.normal,⟨mkE 80 0 [(0,.ptr 0 0),(1,dI b),(5,dI t.1),(7,.slc 1)],[some (.box [dV d,dI t26.1]),some (sI t26.2)]⟩))) (id := 0) (link_loop (mk := fun (s : Int × Int × (List Int)) => ⟨mkE 80 0 [(0,.ptr 0 0),(1,dI b),(5,dI t.1),(6,.slc 1),(7,.slc 2),(8,dI t.2.1),(9,dI s.1)],[some (.box [dV d,dI s.2.1]),some (sI t.2.2.2.1),some (sI s.2.2)]⟩) (fin := (fun (t26 : Int × (List Int)) => ((Exit.exit 0),⟨mkE 80 0 [(0,.ptr 0 0),(1,dI b),(5,dI t.1),(7,.slc 1)],[some (.box [dV d,dI t26.1]),some (sI t26.2)]⟩))) (by
  rintro t26 f K h
  · exact h) (fun s => link_map (Nm4 b t.1 t.2.1 s.1 d s.2.1 t.2.2.2.1 s.2.2) (Sum.elim (fun (t26 : Int × Int × (List Int)) => Sum.inl (t26.1,t26.2.1,t26.2.2)) (fun (t26 : Int × (List Int)) => Sum.inr t26)) (by
  rintro (t26 | t26)
  · kernel_rfl
  · kernel_rfl)) (1,t.2.2.1,t.2.2.2.2)) (fun (t26 : Int × (List Int)) => (t26.1,t26.2)) (by
  rintro t26 K h
  · exact Eq.mp (by kernel_rfl) h)))) (fun (t26 : Int × (List Int)) => (Nu8 b t.1 d t26.1 t26.2))))))) (by unfold N25; kernel_rfl) (by
  intro t
  exact ret_mk [.slc 1] (by kernel_rfl) (by kernel_rfl) (by kernel_rfl) (by kernel_rfl)) h
def N76 : Fun := fun avs H =>
  match avs,H with
  | [.ptr 0 0,.dat (.int .i64) a],[some (.box [.dat (.list (.int .u8)) b,.dat (.int .i64) c])] => ⟨_,N25 a b c,fun (t : Int × (List Int)) => (.slc 1,[some (.box [dV b,dI t.1]),some (sI t.2)]),[],none⟩
  | _,_ => Ans.no
theorem Net : Sound Tryd.prog 56 N76 := by
  refine fn_sound' (C := N2k) (c := bodyOf Tryd.f56) (cok_of tys_ok (allc N1f (allc Nhc (allc N66 alln))) (allc Tryd.call40 (allc Tryd.call58 (allc Tryd.call36 alln))) (by kernel_rfl)) Tryd.func56 (by kernel_rfl) LL N3 ?_
  intro avs H r H' h
  unfold N76 at h
  split at h
  · refine Awp.cast ?_ ?_ ?_ (Nj3 _ _ _ h) <;> kernel_rfl
  · simp [Ans.no,Ans.run] at h

def Nay : Ann := (.seq (.leaf [0,1,2]) (.seq (.leaf [6]) (.leaf [6])))
noncomputable def Nco : Ctx := ⟨tlook tys,olook [],ioF,0,false,[]⟩
theorem Nj8 (a b c : Int) : Link Nco LL (bodyOf Tryd.f46) Nay ⟨mkE 15 0 [(0,dI a),(1,dI b),(2,dI c)],[]⟩ (N52 a b c) (fun (t : Bool) => (Exit.ret,⟨mkE 15 0 [(6,dB t)],[]⟩)) := .of fun K h => by
  simp only [N52,wpW] at h
  exact .of (by kernel_rfl) h
theorem Nlg (a b c : Int) {r : AV} {H' : Heap} (h : (Ans.mk _ (Nh a b c) (fun (t : Bool) => (dB t,[])) [] none).run = some (r,H')) : Awp Nco LL (bodyOf Tryd.f46) Nay ⟨mkE 15 0 [(0,dI a),(1,dI b),(2,dI c)],[]⟩ (Ret (tlook tys) Tryd.f46.results.toList r H') :=
  ret_of' (Nj8 a b c) (by unfold Nh; kernel_rfl) (by
  intro t
  exact ret_mk [dB t] (by kernel_rfl) (by kernel_rfl) (by kernel_rfl) (by kernel_rfl)) h
def N4g : Fun := fun avs H =>
  match avs,H with
  | [.dat (.int .i64) a,.dat (.int .i64) b,.dat (.int .i64) c],[] => ⟨_,Nh a b c,fun (t : Bool) => (dB t,[]),[],none⟩
  | _,_ => Ans.no
theorem Nd3 : Sound Tryd.prog 46 N4g := by
  refine fn_sound' (C := Nco) (c := bodyOf Tryd.f46) (cok_of tys_ok (alln) (alln) (by kernel_rfl)) Tryd.func46 (by kernel_rfl) LL Nay ?_
  intro avs H r H' h
  unfold N4g at h
  split at h
  · refine Awp.cast ?_ ?_ ?_ (Nlg _ _ _ h) <;> kernel_rfl
  · simp [Ans.no,Ans.run] at h

def N1 : Ann := (.seq (.leaf [0]) (.seq (.leaf [0,3]) (.seq (.seq (.leaf [0,3,12]) (.cond (.seq (.leaf [2]) (.leaf [2])) (.leaf [0,3]))) (.seq (.leaf [0,3,4]) (.seq (.seq (.leaf [0,3,4,5]) (.block (.loop (.seq (.seq (.leaf [0,3,4,5,15]) (.cond (.leaf [0,3,4,5]) (.leaf [4]))) (.seq (.block (.seq (.seq (.leaf [0,3,4,5,33]) (.cond (.seq (.leaf [2]) (.leaf [2])) (.leaf [0,3,4,5]))) (.seq (.seq (.leaf [0,3,4,5,38]) (.cond (.leaf [0,3,4,5]) (.leaf [0,3,4,5]))) (.seq (.leaf [0,3,4,5,6]) (.seq (.seq (.leaf [0,3,4,5,6,7]) (.block (.loop (.seq (.seq (.leaf [0,3,4,5,6,7,49]) (.cond (.leaf [0,3,4,5,6,7]) (.leaf [0,3,4,5,6]))) (.seq (.block (.seq (.leaf [0,3,4,5,6,7]) (.seq (.leaf [0,3,4,5,6,7,60]) (.cond (.seq (.leaf [2]) (.leaf [2])) (.leaf [0,3,4,5,6,7]))))) (.leaf [0,3,4,5,6,7])))))) (.seq (.leaf [0,3,4,5,62]) (.cond (.seq (.leaf [2]) (.leaf [2])) (.leaf [0,3,4,5])))))))) (.leaf [0,3,4,5])))))) (.seq (.leaf [2]) (.leaf [2])))))))
noncomputable def Nf : Ctx := ⟨tlook tys,olook [(46,N4g)],ioF,0,false,[]⟩
theorem No2 (a : List Int) : Link Nf LL (Code.seq (cq [0] (bodyOf Tryd.f27)) (Code.seq (cq [0,1] (bodyOf Tryd.f27)) (Code.seq (cq [0,1,1] (bodyOf Tryd.f27)) (cq [0,1,1,1] (bodyOf Tryd.f27))))) (Ann.seq (aq [0] N1) (Ann.seq (aq [0,1] N1) (Ann.seq (aq [0,1,1] N1) (aq [0,1,1,1] N1)))) ⟨mkE 65 0 [(0,dL a)],[]⟩ (N53 a) (Sum.elim (fun (t : Int) => (Exit.normal,⟨mkE 65 0 [(0,dL a),(3,dI t),(4,dI 0)],[]⟩)) (fun (t : Bool) => (Exit.ret,⟨mkE 65 0 [(2,dB t)],[]⟩))) := .of fun K h => by
  simp only [N53,wpW] at h
  exact .of (by kernel_rfl) h
theorem Nmi (a : List Int) (b : Int) : Link Nf LL (cq [0,0,1,1,1,1] (bodyOf Tryd.f27)) (aq [0,0,1,1,1,1] N1) ⟨mkE 65 0 [(0,dL a),(3,dI b),(4,dI 0)],[]⟩ (N60) (fun (t : Unit) => (Exit.normal,⟨mkE 65 0 [(0,dL a),(3,dI b),(4,dI 0),(5,dI 0)],[]⟩)) := .of fun K h => by
  simp only [N60,wpW] at h
  exact .of (by kernel_rfl) h
theorem No6 (a : List Int) (b c d : Int) : Link Nf LL (cq [0,0,0,1,0,1,1,1,1] (bodyOf Tryd.f27)) (aq [0,0,0,1,0,1,1,1,1] N1) ⟨mkE 65 0 [(0,dL a),(3,dI b),(4,dI c),(5,dI d)],[]⟩ (N49 b c d) (Sum.elim (fun (t : Unit) => (Exit.normal,⟨mkE 65 0 [(0,dL a),(3,dI b),(4,dI c),(5,dI d)],[]⟩)) (fun (t : Int) => ((Exit.exit 0),⟨mkE 65 0 [(4,dI t)],[]⟩))) := .of fun K h => by
  simp only [N49,wpW] at h
  exact .of (by kernel_rfl) h
theorem Nqt (a : List Int) (b c d : Int) : Link Nf LL (Code.seq (cq [0,0,0,1,0,0,1,0,1,1,1,1] (bodyOf Tryd.f27)) (Code.seq (cq [0,1,0,0,1,0,0,1,0,1,1,1,1] (bodyOf Tryd.f27)) (cq [0,1,1,0,0,1,0,0,1,0,1,1,1,1] (bodyOf Tryd.f27)))) (Ann.seq (aq [0,0,0,1,0,0,1,0,1,1,1,1] N1) (Ann.seq (aq [0,1,0,0,1,0,0,1,0,1,1,1,1] N1) (aq [0,1,1,0,0,1,0,0,1,0,1,1,1,1] N1))) ⟨mkE 65 0 [(0,dL a),(3,dI b),(4,dI c),(5,dI d)],[]⟩ (N4z a b c d) (Sum.elim (fun (t : Int × Int) => (Exit.normal,⟨mkE 65 0 [(0,dL a),(3,dI b),(4,dI t.1),(5,dI d),(6,dI t.2)],[]⟩)) (fun (t : Bool) => (Exit.ret,⟨mkE 65 0 [(2,dB t)],[]⟩))) := .of fun K h => by
  simp only [N4z,wpW] at h
  exact .of (by kernel_rfl) h
theorem Nqc (a : List Int) (b c d g : Int) : Link Nf LL (cq [0,0,1,1,1,0,0,1,0,0,1,0,1,1,1,1] (bodyOf Tryd.f27)) (aq [0,0,1,1,1,0,0,1,0,0,1,0,1,1,1,1] N1) ⟨mkE 65 0 [(0,dL a),(3,dI b),(4,dI c),(5,dI d),(6,dI g)],[]⟩ (N7j) (fun (t : Unit) => (Exit.normal,⟨mkE 65 0 [(0,dL a),(3,dI b),(4,dI c),(5,dI d),(6,dI g),(7,dI 0)],[]⟩)) := .of fun K h => by
  simp only [N7j,wpW] at h
  exact .of (by kernel_rfl) h
theorem Nx7 (a : List Int) (b c d g i : Int) : Link Nf LL (cq [0,0,1,0,1,1,1,0,0,1,0,0,1,0,1,1,1,1] (bodyOf Tryd.f27)) (aq [0,0,1,0,1,1,1,0,0,1,0,0,1,0,1,1,1,1] N1) ⟨mkE 65 0 [(0,dL a),(3,dI b),(4,dI c),(5,dI d),(6,dI g),(7,dI i)],[]⟩ (N3u a b g i) (Sum.elim (fun (t : Int × Int) => (Exit.normal,⟨mkE 65 0 [(0,dL a),(3,dI b),(4,dI c),(5,dI d),(6,dI t.1),(7,dI t.2)],[]⟩)) (Sum.elim (fun (t : Bool) => (Exit.ret,⟨mkE 65 0 [(2,dB t)],[]⟩)) (fun (t : Int) => ((Exit.exit 2),⟨mkE 65 0 [(0,dL a),(3,dI b),(4,dI c),(5,dI d),(6,dI t)],[]⟩)))) := .of fun K h => by
  simp only [N3u,wpW] at h
  exact .of (by kernel_rfl) h
theorem Niy (a : List Int) (b c d g : Int) : Link Nf LL (cq [1,1,1,1,0,0,1,0,0,1,0,1,1,1,1] (bodyOf Tryd.f27)) (aq [1,1,1,1,0,0,1,0,0,1,0,1,1,1,1] N1) ⟨mkE 65 0 [(0,dL a),(3,dI b),(4,dI c),(5,dI d),(6,dI g)],[]⟩ (N5o g) (Sum.elim (fun (t : Unit) => (Exit.normal,⟨mkE 65 0 [(0,dL a),(3,dI b),(4,dI c),(5,dI d)],[]⟩)) (fun (t : Bool) => (Exit.ret,⟨mkE 65 0 [(2,dB t)],[]⟩))) := .of fun K h => by
  simp only [N5o,wpW] at h
  exact .of (by kernel_rfl) h
theorem Nqg (a : List Int) (b c d : Int) : Link Nf LL (cq [1,1,0,0,1,0,1,1,1,1] (bodyOf Tryd.f27)) (aq [1,1,0,0,1,0,1,1,1,1] N1) ⟨mkE 65 0 [(0,dL a),(3,dI b),(4,dI c),(5,dI d)],[]⟩ (N6n d) (fun (t : Int) => (Exit.normal,⟨mkE 65 0 [(0,dL a),(3,dI b),(4,dI c),(5,dI t)],[]⟩)) := .of fun K h => by
  simp only [N6n,wpW] at h
  exact .of (by kernel_rfl) h
theorem Nv6 (a : Int) : Link Nf LL (cq [1,1,1,1,1] (bodyOf Tryd.f27)) (aq [1,1,1,1,1] N1) ⟨mkE 65 0 [(4,dI a)],[]⟩ (N6q a) (fun (t : Bool) => (Exit.ret,⟨mkE 65 0 [(2,dB t)],[]⟩)) := .of fun K h => by
  simp only [N6q,wpW] at h
  exact .of (by kernel_rfl) h
theorem Ntf (b : List Int) {r : AV} {H' : Heap} (h : (Ans.mk _ (N5 b) (fun (t : Bool) => (dB t,[])) [] none).run = some (r,H')) : Awp Nf LL (bodyOf Tryd.f27) N1 ⟨mkE 65 0 [(0,dL b)],[]⟩ (Ret (tlook tys) Tryd.f27.results.toList r H') :=
  ret_of' (Link.cast (by kernel_rfl) (by kernel_rfl) (link_group (c := (cq [0,1,1,1] (bodyOf Tryd.f27))) (a := (aq [0,1,1,1] N1)) [(cq [0] (bodyOf Tryd.f27)),(cq [0,1] (bodyOf Tryd.f27)),(cq [0,1,1] (bodyOf Tryd.f27))] [(aq [0] N1),(aq [0,1] N1),(aq [0,1,1] N1)] rfl (link_seq2 (No2 b) (fun (t : Int) => (link_seq2 (link_seq (Nmi b t) (fun (t28 : Unit) => (link_block (fin2 := (Sum.elim (fun (t28 : Int) => (Exit.normal,⟨mkE 65 0 [(4,dI t28)],[]⟩)) (fun (t28 : Bool) => (Exit.ret,⟨mkE 65 0 [(2,dB t28)],[]⟩)))) (id := 0) (link_loop (mk := fun (s : Int × Int) => ⟨mkE 65 0 [(0,dL b),(3,dI t),(4,dI s.1),(5,dI s.2)],[]⟩) (fin := (Sum.elim (fun (t28 : Bool) => (Exit.ret,⟨mkE 65 0 [(2,dB t28)],[]⟩)) (fun (t28 : Int) => ((Exit.exit 0),⟨mkE 65 0 [(4,dI t28)],[]⟩)))) (by
  rintro (t28 | t28) f K h
  · exact h
  · exact h) (fun s => link_map (link_seq2 (No6 b t s.1 s.2) (fun (t43 : Unit) => (link_map (fin2 := (Sum.elim (fun (t43 : Int × Int) => (Exit.normal,⟨mkE 65 0 [(0,dL b),(3,dI t),(4,dI t43.1),(5,dI t43.2)],[]⟩)) (Sum.elim (fun (t43 : Bool) => (Exit.ret,⟨mkE 65 0 [(2,dB t43)],[]⟩)) (fun (t43 : Int) => ((Exit.exit 0),⟨mkE 65 0 [(4,dI t43)],[]⟩))))) (link_seq2 (link_block (fin2 := (Sum.elim (fun (t43 : Int) => (Exit.normal,⟨mkE 65 0 [(0,dL b),(3,dI t),(4,dI t43),(5,dI s.2)],[]⟩)) (fun (t43 : Bool) => (Exit.ret,⟨mkE 65 0 [(2,dB t43)],[]⟩)))) (id := 1) (link_group (c := (cq [0,1,1,0,0,1,0,0,1,0,1,1,1,1] (bodyOf Tryd.f27))) (a := (aq [0,1,1,0,0,1,0,0,1,0,1,1,1,1] N1)) [(cq [0,0,0,1,0,0,1,0,1,1,1,1] (bodyOf Tryd.f27)),(cq [0,1,0,0,1,0,0,1,0,1,1,1,1] (bodyOf Tryd.f27))] [(aq [0,0,0,1,0,0,1,0,1,1,1,1] N1),(aq [0,1,0,0,1,0,0,1,0,1,1,1,1] N1)] rfl (link_seq2 (Nqt b t s.1 s.2) (fun (t43 : Int × Int) => (link_map (fin2 := (Sum.elim (fun (t43 : Int) => (Exit.normal,⟨mkE 65 0 [(0,dL b),(3,dI t),(4,dI t43),(5,dI s.2)],[]⟩)) (fun (t43 : Bool) => (Exit.ret,⟨mkE 65 0 [(2,dB t43)],[]⟩)))) (link_seq2 (link_seq (Nqc b t t43.1 s.2 t43.2) (fun (t27 : Unit) => (link_block (fin2 := (Sum.elim (fun (t27 : Int) => (Exit.normal,⟨mkE 65 0 [(0,dL b),(3,dI t),(4,dI t43.1),(5,dI s.2),(6,dI t27)],[]⟩)) (fun (t27 : Bool) => (Exit.ret,⟨mkE 65 0 [(2,dB t27)],[]⟩)))) (id := 2) (link_loop (mk := fun (s42 : Int × Int) => ⟨mkE 65 0 [(0,dL b),(3,dI t),(4,dI t43.1),(5,dI s.2),(6,dI s42.1),(7,dI s42.2)],[]⟩) (fin := (Sum.elim (fun (t27 : Bool) => (Exit.ret,⟨mkE 65 0 [(2,dB t27)],[]⟩)) (fun (t27 : Int) => ((Exit.exit 2),⟨mkE 65 0 [(0,dL b),(3,dI t),(4,dI t43.1),(5,dI s.2),(6,dI t27)],[]⟩)))) (by
  rintro (t27 | t27) f K h
  · exact h
  · exact h) (fun s42 => link_map (Nx7 b t t43.1 s.2 s42.1 s42.2) (Sum.elim (fun (t27 : Int × Int) => Sum.inl (t27.1,t27.2)) (Sum.elim (fun (t27 : Bool) => Sum.inr (Sum.inl t27)) (fun (t27 : Int) => Sum.inr (Sum.inr t27)))) (by
  rintro (t27 | t27 | t27)
  · kernel_rfl
  · kernel_rfl
  · kernel_rfl)) (t43.2,0)) (Sum.elim (fun (t27 : Bool) => (Sum.inr t27)) (fun (t27 : Int) => (Sum.inl t27))) (by
  rintro (t27 | t27) K h
  · exact Eq.mp (by kernel_rfl) h
  · exact Eq.mp (by kernel_rfl) h)))) (fun (t27 : Int) => (Niy b t t43.1 s.2 t27)) (fun (t27 : Bool) => (Sum.inr t27)) (by
  rintro t27
  · kernel_rfl) (by
  rintro t27 f K h
  · exact h)) (Sum.elim (fun (u : Unit) => (Sum.inl t43.1)) (fun (u : Bool) => (Sum.inr u))) (by
  rintro (t43 | t43)
  · kernel_rfl
  · kernel_rfl))) (fun (t43 : Bool) => (Sum.inr t43)) (by
  rintro t43
  · kernel_rfl) (by
  rintro t43 f K h
  · exact h))) (Sum.elim (fun (t43 : Int) => (Sum.inl t43)) (fun (t43 : Bool) => (Sum.inr t43))) (by
  rintro (t43 | t43) K h
  · exact Eq.mp (by kernel_rfl) h
  · exact Eq.mp (by kernel_rfl) h)) (fun (t43 : Int) => (link_map (fin2 := (Sum.elim (fun (t43 : Int × Int) => (Exit.normal,⟨mkE 65 0 [(0,dL b),(3,dI t),(4,dI t43.1),(5,dI t43.2)],[]⟩)) (fun (t43 : Bool) => (Exit.ret,⟨mkE 65 0 [(2,dB t43)],[]⟩)))) (Nqg b t t43 s.2) (fun (u : Int) => (Sum.inl (t43,u))) (by
  rintro t43
  · kernel_rfl))) (fun (t43 : Bool) => (Sum.inr t43)) (by
  rintro t43
  · kernel_rfl) (by
  rintro t43 f K h
  · exact h)) (Sum.elim (fun (t43 : Int × Int) => (Sum.inl (t43.1,t43.2))) (fun (t43 : Bool) => (Sum.inr (Sum.inl t43)))) (by
  rintro (t43 | t43)
  · kernel_rfl
  · kernel_rfl))) (fun (t43 : Int) => (Sum.inr (Sum.inr t43))) (by
  rintro t43
  · kernel_rfl) (by
  rintro t43 f K h
  · exact h)) (Sum.elim (fun (t28 : Int × Int) => Sum.inl (t28.1,t28.2)) (Sum.elim (fun (t28 : Bool) => Sum.inr (Sum.inl t28)) (fun (t28 : Int) => Sum.inr (Sum.inr t28)))) (by
  rintro (t28 | t28 | t28)
  · kernel_rfl
  · kernel_rfl
  · kernel_rfl)) (0,0)) (Sum.elim (fun (t28 : Bool) => (Sum.inr t28)) (fun (t28 : Int) => (Sum.inl t28))) (by
  rintro (t28 | t28) K h
  · exact Eq.mp (by kernel_rfl) h
  · exact Eq.mp (by kernel_rfl) h)))) (fun (t28 : Int) => (Nv6 t28)) (fun (t28 : Bool) => t28) (by
  rintro t28
  · kernel_rfl) (by
  rintro t28 f K h
  · exact h))) (fun (t : Bool) => t) (by
  rintro t
  · kernel_rfl) (by
  rintro t f K h
  · exact h)))) (by unfold N5; kernel_rfl) (by
  intro t
  exact ret_mk [dB t] (by kernel_rfl) (by kernel_rfl) (by kernel_rfl) (by kernel_rfl)) h
def Nu : Fun := fun avs H =>
  match avs,H with
  | [.dat (.list (.int .i64)) a],[] => ⟨_,N5 a,fun (t : Bool) => (dB t,[]),[],none⟩
  | _,_ => Ans.no
theorem N1q : Sound Tryd.prog 27 Nu := by
  refine fn_sound' (C := Nf) (c := bodyOf Tryd.f27) (cok_of tys_ok (allc Nd3 alln) (allc Tryd.call46 alln) (by kernel_rfl)) Tryd.func27 (by kernel_rfl) LL N1 ?_
  intro avs H r H' h
  unfold Nu at h
  split at h
  · refine Awp.cast ?_ ?_ ?_ (Ntf _ h) <;> kernel_rfl
  · simp [Ans.no,Ans.run] at h

def Nb : Ann := (.seq (.leaf [0,1]) (.seq (.seq (.leaf [0,1,5]) (.block (.loop (.seq (.seq (.leaf [0,1,5,10]) (.cond (.leaf [0,1,5]) (.leaf [0,1]))) (.seq (.block (.seq (.seq (.leaf [0,1,5,19]) (.cond (.seq (.leaf [4]) (.leaf [4])) (.leaf [0,1,5]))) (.seq (.leaf [0,1,5,6]) (.block (.loop (.seq (.seq (.leaf [0,1,5,6,22]) (.cond (.leaf [0,1,5,6]) (.leaf [0,1,5]))) (.seq (.block (.seq (.draw [] [0,1,2,3,4,5,6,7,8] [] [0,1,5,6,33]) (.cond (.seq (.leaf [4]) (.leaf [4])) (.leaf [0,1,5,6])))) (.leaf [0,1,5,6])))))))) (.leaf [0,1,5])))))) (.seq (.leaf [4]) (.leaf [4]))))
noncomputable def N1d : Ctx := ⟨tlook tys,olook [(46,N4g)],ioF,0,false,[]⟩
theorem Nne (a : List Int) (b : Int) : Link N1d LL (cq [0] (bodyOf Tryd.f68)) (aq [0] Nb) ⟨mkE 42 0 [(0,dL a),(1,dI b)],[]⟩ (N75) (fun (t : Unit) => (Exit.normal,⟨mkE 42 0 [(0,dL a),(1,dI b)],[]⟩)) := .of fun K h => by
  simp only [N75,wpW] at h
  exact .of (by kernel_rfl) h
theorem Nm3 (a : List Int) (b : Int) : Link N1d LL (cq [0,0,1] (bodyOf Tryd.f68)) (aq [0,0,1] Nb) ⟨mkE 42 0 [(0,dL a),(1,dI b)],[]⟩ (N5s) (fun (t : Unit) => (Exit.normal,⟨mkE 42 0 [(0,dL a),(1,dI b),(5,dI 0)],[]⟩)) := .of fun K h => by
  simp only [N5s,wpW] at h
  exact .of (by kernel_rfl) h
theorem Npk (a : List Int) (b c : Int) : Link N1d LL (cq [0,0,0,1,0,1] (bodyOf Tryd.f68)) (aq [0,0,0,1,0,1] Nb) ⟨mkE 42 0 [(0,dL a),(1,dI b),(5,dI c)],[]⟩ (N7i a c) (Sum.elim (fun (t : Unit) => (Exit.normal,⟨mkE 42 0 [(0,dL a),(1,dI b),(5,dI c)],[]⟩)) (fun (t : Unit) => ((Exit.exit 0),⟨mkE 42 0 [(0,dL a),(1,dI b)],[]⟩))) := .of fun K h => by
  simp only [N7i,wpW] at h
  exact .of (by kernel_rfl) h
theorem Nx2 (a : List Int) (b c : Int) : Link N1d LL (Code.seq (cq [0,0,0,1,0,0,1,0,1] (bodyOf Tryd.f68)) (cq [0,1,0,0,1,0,0,1,0,1] (bodyOf Tryd.f68))) (Ann.seq (aq [0,0,0,1,0,0,1,0,1] Nb) (aq [0,1,0,0,1,0,0,1,0,1] Nb)) ⟨mkE 42 0 [(0,dL a),(1,dI b),(5,dI c)],[]⟩ (N6g a b c) (Sum.elim (fun (t : Unit) => (Exit.normal,⟨mkE 42 0 [(0,dL a),(1,dI b),(5,dI c),(6,dI 0)],[]⟩)) (fun (t : Bool) => (Exit.ret,⟨mkE 42 0 [(4,dB t)],[]⟩))) := .of fun K h => by
  simp only [N6g,wpW] at h
  exact .of (by kernel_rfl) h
theorem Nw7 (a : List Int) (b c d : Int) : Link N1d LL (cq [0,0,1,1,0,0,1,0,0,1,0,1] (bodyOf Tryd.f68)) (aq [0,0,1,1,0,0,1,0,0,1,0,1] Nb) ⟨mkE 42 0 [(0,dL a),(1,dI b),(5,dI c),(6,dI d)],[]⟩ (N43 a c d) (Sum.elim (fun (t : Int) => (Exit.normal,⟨mkE 42 0 [(0,dL a),(1,dI b),(5,dI c),(6,dI t)],[]⟩)) (Sum.elim (fun (t : Bool) => (Exit.ret,⟨mkE 42 0 [(4,dB t)],[]⟩)) (fun (t : Unit) => ((Exit.exit 2),⟨mkE 42 0 [(0,dL a),(1,dI b),(5,dI c)],[]⟩)))) := .of fun K h => by
  simp only [N43,wpW] at h
  exact .of (by kernel_rfl) h
theorem Ni4 (a : List Int) (b c : Int) : Link N1d LL (cq [1,1,0,0,1,0,1] (bodyOf Tryd.f68)) (aq [1,1,0,0,1,0,1] Nb) ⟨mkE 42 0 [(0,dL a),(1,dI b),(5,dI c)],[]⟩ (N7m c) (fun (t : Int) => (Exit.normal,⟨mkE 42 0 [(0,dL a),(1,dI b),(5,dI t)],[]⟩)) := .of fun K h => by
  simp only [N7m,wpW] at h
  exact .of (by kernel_rfl) h
theorem Nn2 (a : List Int) (b : Int) : Link N1d LL (cq [1,1] (bodyOf Tryd.f68)) (aq [1,1] Nb) ⟨mkE 42 0 [(0,dL a),(1,dI b)],[]⟩ (N5j a b) (fun (t : Bool) => (Exit.ret,⟨mkE 42 0 [(4,dB t)],[]⟩)) := .of fun K h => by
  simp only [N5j,wpW] at h
  exact .of (by kernel_rfl) h
theorem Ni9 (b : List Int) (d : Int) {r : AV} {H' : Heap} (h : (Ans.mk _ (N2n b d) (fun (t : Bool) => (dB t,[])) [] none).run = some (r,H')) : Awp N1d LL (bodyOf Tryd.f68) Nb ⟨mkE 42 0 [(0,dL b),(1,dI d)],[]⟩ (Ret (tlook tys) Tryd.f68.results.toList r H') :=
  ret_of' (Link.cast (by kernel_rfl) (by kernel_rfl) (link_seq (Nne b d) (fun (t : Unit) => (link_seq2 (link_seq (Nm3 b d) (fun (t : Unit) => (link_block (fin2 := (Sum.elim (fun (t : Unit) => (Exit.normal,⟨mkE 42 0 [(0,dL b),(1,dI d)],[]⟩)) (fun (t : Bool) => (Exit.ret,⟨mkE 42 0 [(4,dB t)],[]⟩)))) (id := 0) (link_loop (mk := fun (s : Int) => ⟨mkE 42 0 [(0,dL b),(1,dI d),(5,dI s)],[]⟩) (fin := (Sum.elim (fun (t : Bool) => (Exit.ret,⟨mkE 42 0 [(4,dB t)],[]⟩)) (fun (t : Unit) => ((Exit.exit 0),⟨mkE 42 0 [(0,dL b),(1,dI d)],[]⟩)))) (by
  rintro (t | t) f K h
  · exact h
  · exact h) (fun s => link_map (link_seq2 (Npk b d s) (fun (t : Unit) => (link_map (fin2 := (Sum.elim (fun (t : Int) => (Exit.normal,⟨mkE 42 0 [(0,dL b),(1,dI d),(5,dI t)],[]⟩)) (Sum.elim (fun (t : Bool) => (Exit.ret,⟨mkE 42 0 [(4,dB t)],[]⟩)) (fun (t : Unit) => ((Exit.exit 0),⟨mkE 42 0 [(0,dL b),(1,dI d)],[]⟩))))) (link_seq2 (link_block (fin2 := (Sum.elim (fun (t : Unit) => (Exit.normal,⟨mkE 42 0 [(0,dL b),(1,dI d),(5,dI s)],[]⟩)) (fun (t : Bool) => (Exit.ret,⟨mkE 42 0 [(4,dB t)],[]⟩)))) (id := 1) (link_group (c := (cq [0,1,0,0,1,0,0,1,0,1] (bodyOf Tryd.f68))) (a := (aq [0,1,0,0,1,0,0,1,0,1] Nb)) [(cq [0,0,0,1,0,0,1,0,1] (bodyOf Tryd.f68))] [(aq [0,0,0,1,0,0,1,0,1] Nb)] rfl (link_seq2 (Nx2 b d s) (fun (t : Unit) => (link_block (fin2 := (Sum.elim (fun (t : Unit) => (Exit.normal,⟨mkE 42 0 [(0,dL b),(1,dI d),(5,dI s)],[]⟩)) (fun (t : Bool) => (Exit.ret,⟨mkE 42 0 [(4,dB t)],[]⟩)))) (id := 2) (link_loop (mk := fun (s29 : Int) => ⟨mkE 42 0 [(0,dL b),(1,dI d),(5,dI s),(6,dI s29)],[]⟩) (fin := (Sum.elim (fun (t : Bool) => (Exit.ret,⟨mkE 42 0 [(4,dB t)],[]⟩)) (fun (t : Unit) => ((Exit.exit 2),⟨mkE 42 0 [(0,dL b),(1,dI d),(5,dI s)],[]⟩)))) (by
  rintro (t | t) f K h
  · exact h
  · exact h) (fun s29 => link_map (Nw7 b d s s29) (Sum.elim (fun (t : Int) => Sum.inl t) (Sum.elim (fun (t : Bool) => Sum.inr (Sum.inl t)) (fun (t : Unit) => Sum.inr (Sum.inr t)))) (by
  rintro (t | t | t)
  · kernel_rfl
  · kernel_rfl
  · kernel_rfl)) 0) (Sum.elim (fun (t : Bool) => (Sum.inr t)) (fun (t : Unit) => (Sum.inl ()))) (by
  rintro (t | t) K h
  · exact Eq.mp (by kernel_rfl) h
  · exact Eq.mp (by kernel_rfl) h))) (fun (t : Bool) => (Sum.inr t)) (by
  rintro t
  · kernel_rfl) (by
  rintro t f K h
  · exact h))) (Sum.elim (fun (t : Unit) => (Sum.inl ())) (fun (t : Bool) => (Sum.inr t))) (by
  rintro (t | t) K h
  · exact Eq.mp (by kernel_rfl) h
  · exact Eq.mp (by kernel_rfl) h)) (fun (t : Unit) => (link_map (fin2 := (Sum.elim (fun (t : Int) => (Exit.normal,⟨mkE 42 0 [(0,dL b),(1,dI d),(5,dI t)],[]⟩)) (fun (t : Bool) => (Exit.ret,⟨mkE 42 0 [(4,dB t)],[]⟩)))) (Ni4 b d s) (fun (t : Int) => (Sum.inl t)) (by
  rintro t
  · kernel_rfl))) (fun (t : Bool) => (Sum.inr t)) (by
  rintro t
  · kernel_rfl) (by
  rintro t f K h
  · exact h)) (Sum.elim (fun (t : Int) => (Sum.inl t)) (fun (t : Bool) => (Sum.inr (Sum.inl t)))) (by
  rintro (t | t)
  · kernel_rfl
  · kernel_rfl))) (fun (t : Unit) => (Sum.inr (Sum.inr t))) (by
  rintro t
  · kernel_rfl) (by
  rintro t f K h
  · exact h)) (Sum.elim (fun (t : Int) => Sum.inl t) (Sum.elim (fun (t : Bool) => Sum.inr (Sum.inl t)) (fun (t : Unit) => Sum.inr (Sum.inr t)))) (by
  rintro (t | t | t)
  · kernel_rfl
  · kernel_rfl
  · kernel_rfl)) 0) (Sum.elim (fun (t : Bool) => (Sum.inr t)) (fun (t : Unit) => (Sum.inl ()))) (by
  rintro (t | t) K h
  · exact Eq.mp (by kernel_rfl) h
  · exact Eq.mp (by kernel_rfl) h)))) (fun (t : Unit) => (Nn2 b d)) (fun (t : Bool) => t) (by
  rintro t
  · kernel_rfl) (by
  rintro t f K h
  · exact h))))) (by unfold N2n; kernel_rfl) (by
  intro t
  exact ret_mk [dB t] (by kernel_rfl) (by kernel_rfl) (by kernel_rfl) (by kernel_rfl)) h
def Nbn : Fun := fun avs H =>
  match avs,H with
  | [.dat (.list (.int .i64)) a,.dat (.int .i64) b],[] => ⟨_,N2n a b,fun (t : Bool) => (dB t,[]),[],none⟩
  | _,_ => Ans.no
theorem Ns7 : Sound Tryd.prog 68 Nbn := by
  refine fn_sound' (C := N1d) (c := bodyOf Tryd.f68) (cok_of tys_ok (allc Nd3 alln) (allc Tryd.call46 alln) (by kernel_rfl)) Tryd.func68 (by kernel_rfl) LL Nb ?_
  intro avs H r H' h
  unfold Nbn at h
  split at h
  · refine Awp.cast ?_ ?_ ?_ (Ni9 _ _ h) <;> kernel_rfl
  · simp [Ans.no,Ans.run] at h

def N7 : Ann := (.seq (.leaf [0,1]) (.seq (.seq (.leaf [0,1,19]) (.cond (.seq (.leaf [4,5]) (.leaf [4,5])) (.leaf [0,1]))) (.seq (.leaf [0,1,6]) (.seq (.seq (.leaf [0,1,6,7]) (.block (.loop (.seq (.seq (.leaf [0,1,6,7,28]) (.cond (.leaf [0,1,6,7]) (.leaf [0,1,6]))) (.seq (.block (.leaf [0,1,6,7])) (.leaf [0,1,6,7])))))) (.seq (.leaf [0,1,6,8]) (.seq (.seq (.leaf [0,1,6,8,9]) (.block (.loop (.seq (.seq (.leaf [0,1,6,8,9,43]) (.cond (.leaf [0,1,6,8,9]) (.leaf [8]))) (.seq (.block (.leaf [0,1,6,8,9])) (.leaf [0,1,6,8,9])))))) (.seq (.leaf [4,5]) (.leaf [4,5]))))))))
noncomputable def N1h : Ctx := ⟨tlook tys,olook [(27,Nu),(68,Nbn)],ioF,0,false,[]⟩
theorem Nro (a b : List Int) : Link N1h LL (Code.seq (cq [0] (bodyOf Tryd.f57)) (Code.seq (cq [0,1] (bodyOf Tryd.f57)) (cq [0,1,1] (bodyOf Tryd.f57)))) (Ann.seq (aq [0] N7) (Ann.seq (aq [0,1] N7) (aq [0,1,1] N7))) ⟨mkE 61 0 [(0,dL a),(1,dL b)],[]⟩ (N6e a b) (Sum.elim (fun (t : (List Int)) => (Exit.normal,⟨mkE 61 0 [(0,dL a),(1,dL b),(6,.slc 0)],[some (sI t)]⟩)) (fun (t : Bool × (List Int)) => (Exit.ret,⟨mkE 61 0 [(4,.slc 0),(5,dB t.1)],[some (sI t.2)]⟩))) := .of fun K h => by
  simp only [N6e,wpW] at h
  exact .of (by kernel_rfl) h
theorem Ni0 (a b c : List Int) : Link N1h LL (cq [0,0,1,1,1] (bodyOf Tryd.f57)) (aq [0,0,1,1,1] N7) ⟨mkE 61 0 [(0,dL a),(1,dL b),(6,.slc 0)],[some (sI c)]⟩ (N4p) (fun (t : Unit) => (Exit.normal,⟨mkE 61 0 [(0,dL a),(1,dL b),(6,.slc 0),(7,dI 0)],[some (sI c)]⟩)) := .of fun K h => by
  simp only [N4p,wpW] at h
  exact .of (by kernel_rfl) h
theorem Nrz (a b : List Int) (c : Int) (d : List Int) : Link N1h LL (cq [0,0,1,0,1,1,1] (bodyOf Tryd.f57)) (aq [0,0,1,0,1,1,1] N7) ⟨mkE 61 0 [(0,dL a),(1,dL b),(6,.slc 0),(7,dI c)],[some (sI d)]⟩ (N4n b c d) (Sum.elim (fun (t : Int × (List Int)) => (Exit.normal,⟨mkE 61 0 [(0,dL a),(1,dL b),(6,.slc 0),(7,dI t.1)],[some (sI t.2)]⟩)) (fun (t : (List Int)) => ((Exit.exit 0),⟨mkE 61 0 [(0,dL a),(1,dL b),(6,.slc 0)],[some (sI t)]⟩))) := .of fun K h => by
  simp only [N4n,wpW] at h
  exact .of (by kernel_rfl) h
theorem Nkx (a b c : List Int) : Link N1h LL (cq [0,1,1,1,1] (bodyOf Tryd.f57)) (aq [0,1,1,1,1] N7) ⟨mkE 61 0 [(0,dL a),(1,dL b),(6,.slc 0)],[some (sI c)]⟩ (N57) (fun (t : Unit) => (Exit.normal,⟨mkE 61 0 [(0,dL a),(1,dL b),(6,.slc 0),(8,.slc 1)],[some (sI c),some (sI ([] : List Int))]⟩)) := .of fun K h => by
  simp only [N57,wpW] at h
  exact .of (by kernel_rfl) h
theorem Nrq (a b c : List Int) : Link N1h LL (cq [0,0,1,1,1,1,1] (bodyOf Tryd.f57)) (aq [0,0,1,1,1,1,1] N7) ⟨mkE 61 0 [(0,dL a),(1,dL b),(6,.slc 0),(8,.slc 1)],[some (sI c),some (sI ([] : List Int))]⟩ (N5i) (fun (t : Unit) => (Exit.normal,⟨mkE 61 0 [(0,dL a),(1,dL b),(6,.slc 0),(8,.slc 1),(9,dI 0)],[some (sI c),some (sI ([] : List Int))]⟩)) := .of fun K h => by
  simp only [N5i,wpW] at h
  exact .of (by kernel_rfl) h
theorem Nis (a b : List Int) (c : Int) (d g : List Int) : Link N1h LL (cq [0,0,1,0,1,1,1,1,1] (bodyOf Tryd.f57)) (aq [0,0,1,0,1,1,1,1,1] N7) ⟨mkE 61 0 [(0,dL a),(1,dL b),(6,.slc 0),(8,.slc 1),(9,dI c)],[some (sI d),some (sI g)]⟩ (N40 a b c d g) (Sum.elim (fun (t : Int × (List Int)) => (Exit.normal,⟨mkE 61 0 [(0,dL a),(1,dL b),(6,.slc 0),(8,.slc 1),(9,dI t.1)],[some (sI d),some (sI t.2)]⟩)) (fun (t : (List Int)) => ((Exit.exit 2),⟨mkE 61 0 [(8,.slc 0)],[some (sI t)]⟩))) := .of fun K h => by
  simp only [N40,wpW] at h
  exact .of (by kernel_rfl) h
theorem Nq4 (a : List Int) : Link N1h LL (cq [1,1,1,1,1,1] (bodyOf Tryd.f57)) (aq [1,1,1,1,1,1] N7) ⟨mkE 61 0 [(8,.slc 0)],[some (sI a)]⟩ (N7e a) (fun (t : Bool × (List Int)) => (Exit.ret,⟨mkE 61 0 [(4,.slc 0),(5,dB t.1)],[some (sI t.2)]⟩)) := .of fun K h => by
  simp only [N7e,wpW] at h
  exact .of (by kernel_rfl) h
theorem Ntm (b d : List Int) {r : AV} {H' : Heap} (h : (Ans.mk _ (N2f b d) (fun (t : Bool × (List Int)) => (.tup [.slc 0,dB t.1],[some (sI t.2)])) [] none).run = some (r,H')) : Awp N1h LL (bodyOf Tryd.f57) N7 ⟨mkE 61 0 [(0,dL b),(1,dL d)],[]⟩ (Ret (tlook tys) Tryd.f57.results.toList r H') :=
  ret_of' (Link.cast (by kernel_rfl) (by kernel_rfl) (link_group (c := (cq [0,1,1] (bodyOf Tryd.f57))) (a := (aq [0,1,1] N7)) [(cq [0] (bodyOf Tryd.f57)),(cq [0,1] (bodyOf Tryd.f57))] [(aq [0] N7),(aq [0,1] N7)] rfl (link_seq2 (Nro b d) (fun (t : (List Int)) => (link_seq (link_seq (Ni0 b d t) (fun (t30 : Unit) => (link_block (fin2 := (fun (t30 : (List Int)) => (Exit.normal,⟨mkE 61 0 [(0,dL b),(1,dL d),(6,.slc 0)],[some (sI t30)]⟩))) (id := 0) (link_loop (mk := fun (s : Int × (List Int)) => ⟨mkE 61 0 [(0,dL b),(1,dL d),(6,.slc 0),(7,dI s.1)],[some (sI s.2)]⟩) (fin := (fun (t30 : (List Int)) => ((Exit.exit 0),⟨mkE 61 0 [(0,dL b),(1,dL d),(6,.slc 0)],[some (sI t30)]⟩))) (by
  rintro t30 f K h
  · exact h) (fun s => link_map (Nrz b d s.1 s.2) (Sum.elim (fun (t30 : Int × (List Int)) => Sum.inl (t30.1,t30.2)) (fun (t30 : (List Int)) => Sum.inr t30)) (by
  rintro (t30 | t30)
  · kernel_rfl
  · kernel_rfl)) (0,t)) (fun (t30 : (List Int)) => t30) (by
  rintro t30 K h
  · exact Eq.mp (by kernel_rfl) h)))) (fun (t30 : (List Int)) => (link_seq (Nkx b d t30) (fun (t : Unit) => (link_seq (link_seq (Nrq b d t30) (fun (t : Unit) => (link_block (fin2 := (fun (t : (List Int)) => (Exit.normal,⟨mkE 61 0 [(8,.slc 0)],[some (sI t)]⟩))) (id := 2) (link_loop (mk := fun (s : Int × (List Int)) => ⟨mkE 61 0 [(0,dL b),(1,dL d),(6,.slc 0),(8,.slc 1),(9,dI s.1)],[some (sI t30),some (sI s.2)]⟩) (fin := (fun (t : (List Int)) => ((Exit.exit 2),⟨mkE 61 0 [(8,.slc 0)],[some (sI t)]⟩))) (by
  rintro t f K h
  · exact h) (fun s => link_map (Nis b d s.1 t30 s.2) (Sum.elim (fun (t : Int × (List Int)) => Sum.inl (t.1,t.2)) (fun (t : (List Int)) => Sum.inr t)) (by
  rintro (t | t)
  · kernel_rfl
  · kernel_rfl)) (0,([] : List Int))) (fun (t : (List Int)) => t) (by
  rintro t K h
  · exact Eq.mp (by kernel_rfl) h)))) (fun (t : (List Int)) => (Nq4 t)))))))) (fun (t : Bool × (List Int)) => t) (by
  rintro t
  · kernel_rfl) (by
  rintro t f K h
  · exact h)))) (by unfold N2f; kernel_rfl) (by
  intro t
  exact ret_mk [.slc 0,dB t.1] (by kernel_rfl) (by kernel_rfl) (by kernel_rfl) (by kernel_rfl)) h
def N64 : Fun := fun avs H =>
  match avs,H with
  | [.dat (.list (.int .i64)) a,.dat (.list (.int .i64)) b],[] => ⟨_,N2f a b,fun (t : Bool × (List Int)) => (.tup [.slc 0,dB t.1],[some (sI t.2)]),[],none⟩
  | _,_ => Ans.no
theorem Ngt : Sound Tryd.prog 57 N64 := by
  refine fn_sound' (C := N1h) (c := bodyOf Tryd.f57) (cok_of tys_ok (allc N1q (allc Ns7 alln)) (allc Tryd.call27 (allc Tryd.call68 alln)) (by kernel_rfl)) Tryd.func57 (by kernel_rfl) LL N7 ?_
  intro avs H r H' h
  unfold N64 at h
  split at h
  · refine Awp.cast ?_ ?_ ?_ (Ntm _ _ h) <;> kernel_rfl
  · simp [Ans.no,Ans.run] at h

def Na : Ann := (.seq (.seq (.leaf [0,1,2,3,4,16]) (.cond (.leaf []) (.leaf [0,1,2,3,4]))) (.seq (.leaf [0,1,2,3,4,10]) (.seq (.leaf [0,1,2,3,10]) (.seq (.leaf [0,1,3,10,11]) (.seq (.block (.loop (.seq (.seq (.leaf [0,1,3,10,11,33]) (.cond (.leaf [0,1,3,10,11]) (.leaf [0,1,3,10]))) (.block (.seq (.leaf [0,1,3,10,11,12]) (.seq (.leaf [0,1,3,10,12]) (.leaf [0,1,3,10,11]))))))) (.seq (.leaf [0,1,3,10,11]) (.block (.loop (.seq (.seq (.leaf [0,1,3,10,11,53]) (.cond (.leaf [0,1,3,10,11]) (.leaf []))) (.block (.seq (.leaf [0,1,3,10,11,13]) (.seq (.leaf [0,1,3,10,13]) (.leaf [0,1,3,10,11])))))))))))))
def N17 (n : Nat) : Fun := fun avs H =>
  match avs,H with
  | [.ptr 0 0,.slc 1,.dat (.int .i64) a,.dat (.int .i64) b,.dat (.int .i64) c],[some (.box [.dat (.list (.int .u8)) d,.dat (.int .i64) g]),some (.seq (.int .i64) i)] => ⟨_,N1c n a b c d g i,fun (t : Int × (List Int)) => (.tup [],[some (.box [dV d,dI t.1]),some (sI t.2)]),[],none⟩
  | _,_ => Ans.no
noncomputable def N2p (n : Nat) : Ctx := ⟨tlook tys,olook [(40,Nm),(69,N17 n)],ioF,2,false,[]⟩
theorem Nsx (n : Nat) (a b c : Int) (d : List Int) (g : Int) (i : List Int) : Link (N2p n) LL (Code.seq (cq [0] (bodyOf Tryd.f69)) (Code.seq (cq [0,1] (bodyOf Tryd.f69)) (Code.seq (cq [0,1,1] (bodyOf Tryd.f69)) (cq [0,1,1,1] (bodyOf Tryd.f69))))) (Ann.seq (aq [0] Na) (Ann.seq (aq [0,1] Na) (Ann.seq (aq [0,1,1] Na) (aq [0,1,1,1] Na)))) ⟨mkE 70 0 [(0,.ptr 0 0),(1,.slc 1),(2,dI a),(3,dI b),(4,dI c)],[some (.box [dV d,dI g]),some (sI i)]⟩ (N6h (N1c n) a b c d g i) (Sum.elim (fun (t : Int × Int × (List Int)) => (Exit.normal,⟨mkE 70 0 [(0,.ptr 0 0),(1,.slc 1),(3,dI b),(10,dI t.1),(11,dI a)],[some (.box [dV d,dI t.2.1]),some (sI t.2.2)]⟩)) (fun (t : Int × (List Int)) => (Exit.ret,⟨mkE 70 0 [],[some (.box [dV d,dI t.1]),some (sI t.2)]⟩))) := .of fun K h => by
  simp only [N6h,wpW] at h
  exact .of (by kernel_rfl) h
theorem Nk9 (n : Nat) (a b c : Int) (d : List Int) (g : Int) (i : List Int) : Link (N2p n) LL (cq [0,0,0,1,1,1,1] (bodyOf Tryd.f69)) (aq [0,0,0,1,1,1,1] Na) ⟨mkE 70 0 [(0,.ptr 0 0),(1,.slc 1),(3,dI a),(10,dI b),(11,dI c)],[some (.box [dV d,dI g]),some (sI i)]⟩ (N4d (N1c n) b c d g i) (Sum.elim (fun (t : Int × Int × (List Int)) => (Exit.normal,⟨mkE 70 0 [(0,.ptr 0 0),(1,.slc 1),(3,dI a),(10,dI b),(11,dI t.1)],[some (.box [dV d,dI t.2.1]),some (sI t.2.2)]⟩)) (fun (t : Int × (List Int)) => ((Exit.exit 0),⟨mkE 70 0 [(0,.ptr 0 0),(1,.slc 1),(3,dI a),(10,dI b)],[some (.box [dV d,dI t.1]),some (sI t.2)]⟩))) := .of fun K h => by
  simp only [N4d,wpW] at h
  exact .of (by kernel_rfl) h
theorem Nlc (n : Nat) (a b : Int) (c : List Int) (d : Int) (g : List Int) : Link (N2p n) LL (cq [0,1,1,1,1,1] (bodyOf Tryd.f69)) (aq [0,1,1,1,1,1] Na) ⟨mkE 70 0 [(0,.ptr 0 0),(1,.slc 1),(3,dI a),(10,dI b)],[some (.box [dV c,dI d]),some (sI g)]⟩ (N7p (N1c n) b) (fun (t : Int) => (Exit.normal,⟨mkE 70 0 [(0,.ptr 0 0),(1,.slc 1),(3,dI a),(10,dI b),(11,dI t)],[some (.box [dV c,dI d]),some (sI g)]⟩)) := .of fun K h => by
  simp only [N7p,wpW] at h
  exact .of (by kernel_rfl) h
theorem Noz (n : Nat) (a b c : Int) (d : List Int) (g : Int) (i : List Int) : Link (N2p n) LL (cq [0,0,1,1,1,1,1,1] (bodyOf Tryd.f69)) (aq [0,0,1,1,1,1,1,1] Na) ⟨mkE 70 0 [(0,.ptr 0 0),(1,.slc 1),(3,dI a),(10,dI b),(11,dI c)],[some (.box [dV d,dI g]),some (sI i)]⟩ (N45 (N1c n) a b c d g i) (Sum.elim (fun (t : Int × Int × (List Int)) => (Exit.normal,⟨mkE 70 0 [(0,.ptr 0 0),(1,.slc 1),(3,dI a),(10,dI b),(11,dI t.1)],[some (.box [dV d,dI t.2.1]),some (sI t.2.2)]⟩)) (fun (t : Int × (List Int)) => ((Exit.exit 2),⟨mkE 70 0 [],[some (.box [dV d,dI t.1]),some (sI t.2)]⟩))) := .of fun K h => by
  simp only [N45,wpW] at h
  exact .of (by kernel_rfl) h
theorem Noh (n : Nat) (b d g : Int) (i : List Int) (j : Int) (k : List Int) {r : AV} {H' : Heap} (h : (Ans.mk _ (N1c (n + 1) b d g i j k) (fun (t : Int × (List Int)) => (.tup [],[some (.box [dV i,dI t.1]),some (sI t.2)])) [] none).run = some (r,H')) : Awp (N2p n) LL (bodyOf Tryd.f69) Na ⟨mkE 70 0 [(0,.ptr 0 0),(1,.slc 1),(2,dI b),(3,dI d),(4,dI g)],[some (.box [dV i,dI j]),some (sI k)]⟩ (Ret (tlook tys) Tryd.f69.results.toList r H') :=
  ret_of (Link.cast (by kernel_rfl) (by kernel_rfl) (link_group (c := (cq [0,1,1,1] (bodyOf Tryd.f69))) (a := (aq [0,1,1,1] Na)) [(cq [0] (bodyOf Tryd.f69)),(cq [0,1] (bodyOf Tryd.f69)),(cq [0,1,1] (bodyOf Tryd.f69))] [(aq [0] Na),(aq [0,1] Na),(aq [0,1,1] Na)] rfl (link_seq2 (Nsx n b d g i j k) (fun (t : Int × Int × (List Int)) => (link_map (fin2 := (Sum.elim (fun (t : Int × (List Int)) => (Exit.normal,⟨mkE 70 0 [],[some (.box [dV i,dI t.1]),some (sI t.2)]⟩)) (fun (t : Int × (List Int)) => (Exit.ret,⟨mkE 70 0 [],[some (.box [dV i,dI t.1]),some (sI t.2)]⟩)))) (link_seq (link_block (fin2 := (fun (t44 : Int × (List Int)) => (Exit.normal,⟨mkE 70 0 [(0,.ptr 0 0),(1,.slc 1),(3,dI d),(10,dI t.1)],[some (.box [dV i,dI t44.1]),some (sI t44.2)]⟩))) (id := 0) (link_loop (mk := fun (s : Int × Int × (List Int)) => ⟨mkE 70 0 [(0,.ptr 0 0),(1,.slc 1),(3,dI d),(10,dI t.1),(11,dI s.1)],[some (.box [dV i,dI s.2.1]),some (sI s.2.2)]⟩) (fin := (fun (t44 : Int × (List Int)) => ((Exit.exit 0),⟨mkE 70 0 [(0,.ptr 0 0),(1,.slc 1),(3,dI d),(10,dI t.1)],[some (.box [dV i,dI t44.1]),some (sI t44.2)]⟩))) (by
  rintro t44 f K h
  · exact h) (fun s => link_map (Nk9 n d t.1 s.1 i s.2.1 s.2.2) (Sum.elim (fun (t44 : Int × Int × (List Int)) => Sum.inl (t44.1,t44.2.1,t44.2.2)) (fun (t44 : Int × (List Int)) => Sum.inr t44)) (by
  rintro (t44 | t44)
  · kernel_rfl
  · kernel_rfl)) (b,t.2.1,t.2.2)) (fun (t44 : Int × (List Int)) => (t44.1,t44.2)) (by
  rintro t44 K h
  · exact Eq.mp (by kernel_rfl) h)) (fun (t44 : Int × (List Int)) => (link_seq (Nlc n d t.1 i t44.1 t44.2) (fun (t1 : Int) => (link_block (fin2 := (fun (t31 : Int × (List Int)) => (Exit.normal,⟨mkE 70 0 [],[some (.box [dV i,dI t31.1]),some (sI t31.2)]⟩))) (id := 2) (link_loop (mk := fun (s : Int × Int × (List Int)) => ⟨mkE 70 0 [(0,.ptr 0 0),(1,.slc 1),(3,dI d),(10,dI t.1),(11,dI s.1)],[some (.box [dV i,dI s.2.1]),some (sI s.2.2)]⟩) (fin := (fun (t31 : Int × (List Int)) => ((Exit.exit 2),⟨mkE 70 0 [],[some (.box [dV i,dI t31.1]),some (sI t31.2)]⟩))) (by
  rintro t31 f K h
  · exact h) (fun s => link_map (Noz n d t.1 s.1 i s.2.1 s.2.2) (Sum.elim (fun (t31 : Int × Int × (List Int)) => Sum.inl (t31.1,t31.2.1,t31.2.2)) (fun (t31 : Int × (List Int)) => Sum.inr t31)) (by
  rintro (t31 | t31)
  · kernel_rfl
  · kernel_rfl)) (t1,t44.1,t44.2)) (fun (t31 : Int × (List Int)) => (t31.1,t31.2)) (by
  rintro t31 K h
  · exact Eq.mp (by kernel_rfl) h)))))) (fun (u : Int × (List Int)) => (Sum.inl (u.1,u.2))) (by
  rintro t
  · kernel_rfl))) (fun (t : Int × (List Int)) => (Sum.inr t)) (by
  rintro t
  · kernel_rfl) (by
  rintro t f K h
  · exact h)))) (Sum.elim (fun (t : Int × (List Int)) => (t.1,t.2)) (fun (t : Int × (List Int)) => t)) (by (show _ = _); kernel_rfl) (by
  rintro (t | t)
  · exact ret_mk [] (by kernel_rfl) (by kernel_rfl) (by kernel_rfl) (by kernel_rfl)
  · exact ret_mk [] (by kernel_rfl) (by kernel_rfl) (by kernel_rfl) (by kernel_rfl)) h
theorem Nx4 (n : Nat) (h69 : Sound Tryd.prog 69 (N17 n)) : Sound Tryd.prog 69 (N17 (n + 1)) := by
  refine fn_sound' (C := N2p n) (c := bodyOf Tryd.f69) (cok_of tys_ok (allc N1f (allc h69 alln)) (allc Tryd.call40 (allc Tryd.call69 alln)) (by kernel_rfl)) Tryd.func69 (by kernel_rfl) LL Na ?_
  intro avs H r H' h
  unfold N17 at h
  split at h
  · refine Awp.cast ?_ ?_ ?_ (Noh n _ _ _ _ _ _ h) <;> kernel_rfl
  · simp [Ans.no,Ans.run] at h
theorem Nit : Sound Tryd.prog 69 (N17 0) := by
  intro avs H r H' h
  unfold N17 at h
  split at h
  · simp [N1c,N2g,Ans.run] at h
  · simp [Ans.no,Ans.run] at h
theorem Nfl : ∀ n,Sound Tryd.prog 69 (N17 n)
  | 0 => Nit
  | n + 1 => by
    have h69 := Nfl n
    exact Nx4 n h69
def N6f : Fun := fun avs H =>
  match avs,H with
  | [.ptr 0 0,.slc 1,.dat (.int .i64) a,.dat (.int .i64) b,.dat (.int .i64) c],[some (.box [.dat (.list (.int .u8)) d,.dat (.int .i64) g]),some (.seq (.int .i64) i)] => ⟨_,N4h a b c d g i,fun (t : Int × (List Int)) => (.tup [],[some (.box [dV d,dI t.1]),some (sI t.2)]),[],none⟩
  | _,_ => Ans.no
theorem Nkd : Sound Tryd.prog 69 N6f := by
  have e : N6f = N17 RR := by
    funext avs H
    unfold N6f N17
    split <;> first | rfl | (simp only [N4h])
  rw [e]
  exact (Nfl RR)

def N9p : Ann := (.seq (.leaf [0,1]) (.seq (.seq (.leaf [0,1,9]) (.cond (.seq (.leaf [4]) (.leaf [4])) (.leaf [0]))) (.seq (.leaf [0,5]) (.seq (.leaf [0,5,6]) (.seq (.leaf [6]) (.seq (.leaf [4]) (.leaf [4])))))))
noncomputable def Nbx : Ctx := ⟨tlook tys,olook [(40,Nm),(56,N76),(69,N6f)],ioF,1,false,[]⟩
theorem Nid (a : Int) (b : List Int) (c : Int) : Link Nbx LL (bodyOf Tryd.f59) N9p ⟨mkE 23 0 [(0,.ptr 0 0),(1,dI a)],[some (.box [dV b,dI c])]⟩ (N42 a b c) (fun (t : Int × (List Int)) => (Exit.ret,⟨mkE 23 0 [(4,.slc 1)],[some (.box [dV b,dI t.1]),some (sI t.2)]⟩)) := .of fun K h => by
  simp only [N42,wpW] at h
  exact .of (by kernel_rfl) h
theorem Nrw (a : Int) (b : List Int) (c : Int) {r : AV} {H' : Heap} (h : (Ans.mk _ (Ny a b c) (fun (t : Int × (List Int)) => (.slc 1,[some (.box [dV b,dI t.1]),some (sI t.2)])) [] none).run = some (r,H')) : Awp Nbx LL (bodyOf Tryd.f59) N9p ⟨mkE 23 0 [(0,.ptr 0 0),(1,dI a)],[some (.box [dV b,dI c])]⟩ (Ret (tlook tys) Tryd.f59.results.toList r H') :=
  ret_of' (Nid a b c) (by unfold Ny; kernel_rfl) (by
  intro t
  exact ret_mk [.slc 1] (by kernel_rfl) (by kernel_rfl) (by kernel_rfl) (by kernel_rfl)) h
def Nbo : Fun := fun avs H =>
  match avs,H with
  | [.ptr 0 0,.dat (.int .i64) a],[some (.box [.dat (.list (.int .u8)) b,.dat (.int .i64) c])] => ⟨_,Ny a b c,fun (t : Int × (List Int)) => (.slc 1,[some (.box [dV b,dI t.1]),some (sI t.2)]),[],none⟩
  | _,_ => Ans.no
theorem Nie : Sound Tryd.prog 59 Nbo := by
  refine fn_sound' (C := Nbx) (c := bodyOf Tryd.f59) (cok_of tys_ok (allc N1f (allc Net (allc Nkd alln))) (allc Tryd.call40 (allc Tryd.call56 (allc Tryd.call69 alln))) (by kernel_rfl)) Tryd.func59 (by kernel_rfl) LL N9p ?_
  intro avs H r H' h
  unfold Nbo at h
  split at h
  · refine Awp.cast ?_ ?_ ?_ (Nrw _ _ _ h) <;> kernel_rfl
  · simp [Ans.no,Ans.run] at h

def N92 : Ann := (.seq (.leaf [0,1]) (.seq (.leaf [0,1,5]) (.seq (.seq (.leaf [0,1,5,17]) (.cond (.seq (.leaf [6]) (.seq (.leaf [4]) (.leaf [4]))) (.leaf [0,1,5]))) (.seq (.seq (.leaf [0,1,5,30]) (.cond (.seq (.leaf [4]) (.leaf [4])) (.leaf [5]))) (.seq (.leaf [4]) (.leaf [4]))))))
noncomputable def Ndk : Ctx := ⟨tlook tys,olook [(56,N76),(40,Nm),(27,Nu),(58,N6c),(57,N64),(59,Nbo)],ioF,1,false,[]⟩
theorem Nwk (a : Int) (b : List Int) (c : Int) : Link Ndk LL (bodyOf Tryd.f39) N92 ⟨mkE 35 0 [(0,.ptr 0 0),(1,dI a)],[some (.box [dV b,dI c])]⟩ (N41 a b c) (fun (t : Int × (List Int)) => (Exit.ret,⟨mkE 35 0 [(4,.slc 1)],[some (.box [dV b,dI t.1]),some (sI t.2)]⟩)) := .of fun K h => by
  simp only [N41,wpW] at h
  exact .of (by kernel_rfl) h
theorem Nr3 (a : Int) (b : List Int) (c : Int) {r : AV} {H' : Heap} (h : (Ans.mk _ (N28 a b c) (fun (t : Int × (List Int)) => (.slc 1,[some (.box [dV b,dI t.1]),some (sI t.2)])) [] none).run = some (r,H')) : Awp Ndk LL (bodyOf Tryd.f39) N92 ⟨mkE 35 0 [(0,.ptr 0 0),(1,dI a)],[some (.box [dV b,dI c])]⟩ (Ret (tlook tys) Tryd.f39.results.toList r H') :=
  ret_of' (Nwk a b c) (by unfold N28; kernel_rfl) (by
  intro t
  exact ret_mk [.slc 1] (by kernel_rfl) (by kernel_rfl) (by kernel_rfl) (by kernel_rfl)) h
def N8c : Fun := fun avs H =>
  match avs,H with
  | [.ptr 0 0,.dat (.int .i64) a],[some (.box [.dat (.list (.int .u8)) b,.dat (.int .i64) c])] => ⟨_,N28 a b c,fun (t : Int × (List Int)) => (.slc 1,[some (.box [dV b,dI t.1]),some (sI t.2)]),[],none⟩
  | _,_ => Ans.no
theorem Nip : Sound Tryd.prog 39 N8c := by
  refine fn_sound' (C := Ndk) (c := bodyOf Tryd.f39) (cok_of tys_ok (allc Net (allc N1f (allc N1q (allc Nhc (allc Ngt (allc Nie alln)))))) (allc Tryd.call56 (allc Tryd.call40 (allc Tryd.call27 (allc Tryd.call58 (allc Tryd.call57 (allc Tryd.call59 alln)))))) (by kernel_rfl)) Tryd.func39 (by kernel_rfl) LL N92 ?_
  intro avs H r H' h
  unfold N8c at h
  split at h
  · refine Awp.cast ?_ ?_ ?_ (Nr3 _ _ _ h) <;> kernel_rfl
  · simp [Ans.no,Ans.run] at h

def Ndd : Ann := (.seq (.leaf [0,2]) (.seq (.seq (.leaf [0,2,6]) (.cond (.seq (.leaf [2,3]) (.leafF [⟨0,2,false,some 0,some (.int .i64)⟩] [2,3])) (.leaf [0,2]))) (.seq (.leaf [2,3]) (.leaf [2,3]))))
noncomputable def N84 : Ctx := ⟨tlook tys,olook [(27,Nu)],ioF,0,false,[]⟩
theorem Nkf (a : List Int) : Link N84 LL (bodyOf Tryd.f38) Ndd ⟨mkE 12 0 [(0,dL a)],[]⟩ (N48 a) (fun (t : Bool × (List Int)) => (Exit.ret,⟨mkE 12 0 [(2,.ptr 0 0),(3,dB t.1)],[some (.box [.slc 1,.nils]),some (sI t.2)]⟩)) := .of fun K h => by
  simp only [N48,wpW] at h
  exact .of (by kernel_rfl) h
theorem Nrs (a : List Int) {r : AV} {H' : Heap} (h : (Ans.mk _ (N21 a) (fun (t : Bool × (List Int)) => (.tup [.agg [.slc 1,.nils],dB t.1],[some (.box [.slc 1,.nils]),some (sI t.2)])) [] none).run = some (r,H')) : Awp N84 LL (bodyOf Tryd.f38) Ndd ⟨mkE 12 0 [(0,dL a)],[]⟩ (Ret (tlook tys) Tryd.f38.results.toList r H') :=
  ret_of' (Nkf a) (by unfold N21; kernel_rfl) (by
  intro t
  exact ret_mk [.agg [.slc 1,.nils],dB t.1] (by kernel_rfl) (by kernel_rfl) (by kernel_rfl) (by kernel_rfl)) h
def Nc8 : Fun := fun avs H =>
  match avs,H with
  | [.dat (.list (.int .i64)) a],[] => ⟨_,N21 a,fun (t : Bool × (List Int)) => (.tup [.agg [.slc 1,.nils],dB t.1],[some (.box [.slc 1,.nils]),some (sI t.2)]),[],none⟩
  | _,_ => Ans.no
theorem Nv7 : Sound Tryd.prog 38 Nc8 := by
  refine fn_sound' (C := N84) (c := bodyOf Tryd.f38) (cok_of tys_ok (allc N1q alln) (allc Tryd.call27 alln) (by kernel_rfl)) Tryd.func38 (by kernel_rfl) LL Ndd ?_
  intro avs H r H' h
  unfold Nc8 at h
  split at h
  · refine Awp.cast ?_ ?_ ?_ (Nrs _ h) <;> kernel_rfl
  · simp [Ans.no,Ans.run] at h

def Nav : Ann := (.seq (.leaf [0,1,4]) (.seq (.draw [0,3,4] [0,1,5,2,3,4,6,7,8,9,10,11,12] [] [0,1,4,5]) (.seq (.seq (.leaf [0,1,4,5,18]) (.block (.seq (.leaf [0,1,4,5,18,19]) (.cond (.seq (.leaf [0,1,4,5]) (.leaf [0,4,5])) (.seq (.leaf [0,1,4,5,34]) (.cond (.leaf [0,4,5]) (.leaf [0,4,5]))))))) (.seq (.seq (.leaf [0,4,5,47]) (.cond (.leaf [4,5]) (.leaf [4,5]))) (.seq (.leaf [4]) (.leaf [4]))))))
noncomputable def N97 : Ctx := ⟨tlook tys,olook [(40,Nm),(36,N2y)],ioF,1,false,[]⟩
theorem Nxa (a b : List Int) (c : Int) : Link N97 LL (bodyOf Tryd.f20) Nav ⟨mkE 55 0 [(0,.ptr 0 0),(1,dL a)],[some (.box [dV b,dI c])]⟩ (N44 a b c) (fun (t : Int × Int × Int × Int) => (Exit.ret,⟨mkE 55 0 [(4,.ptr 1 0)],[some (.box [dV b,dI t.1]),some (.box [dI t.2.1,dI t.2.2.1,dI t.2.2.2])]⟩)) := .of fun K h => by
  simp only [N44,wpW] at h
  exact .of (by kernel_rfl) h
theorem Npn (a b : List Int) (c : Int) {r : AV} {H' : Heap} (h : (Ans.mk _ (N16 a b c) (fun (t : Int × Int × Int × Int) => (.agg [dI t.2.1,dI t.2.2.1,dI t.2.2.2],[some (.box [dV b,dI t.1]),some (.box [dI t.2.1,dI t.2.2.1,dI t.2.2.2])])) [] none).run = some (r,H')) : Awp N97 LL (bodyOf Tryd.f20) Nav ⟨mkE 55 0 [(0,.ptr 0 0),(1,dL a)],[some (.box [dV b,dI c])]⟩ (Ret (tlook tys) Tryd.f20.results.toList r H') :=
  ret_of' (Nxa a b c) (by unfold N16; kernel_rfl) (by
  intro t
  exact ret_mk [.agg [dI t.2.1,dI t.2.2.1,dI t.2.2.2]] (by kernel_rfl) (by kernel_rfl) (by kernel_rfl) (by kernel_rfl)) h
def N5f : Fun := fun avs H =>
  match avs,H with
  | [.ptr 0 0,.dat (.list (.int .i64)) a],[some (.box [.dat (.list (.int .u8)) b,.dat (.int .i64) c])] => ⟨_,N16 a b c,fun (t : Int × Int × Int × Int) => (.agg [dI t.2.1,dI t.2.2.1,dI t.2.2.2],[some (.box [dV b,dI t.1]),some (.box [dI t.2.1,dI t.2.2.1,dI t.2.2.2])]),[],none⟩
  | _,_ => Ans.no
theorem New : Sound Tryd.prog 20 N5f := by
  refine fn_sound' (C := N97) (c := bodyOf Tryd.f20) (cok_of tys_ok (allc N1f (allc N66 alln)) (allc Tryd.call40 (allc Tryd.call36 alln)) (by kernel_rfl)) Tryd.func20 (by kernel_rfl) LL Nav ?_
  intro avs H r H' h
  unfold N5f at h
  split at h
  · refine Awp.cast ?_ ?_ ?_ (Npn _ _ _ h) <;> kernel_rfl
  · simp [Ans.no,Ans.run] at h

def N3n : Ann := (.seq (.leaf [1]) (.seq (.seq (.leaf [1,3]) (.block (.loop (.seq (.seq (.leaf [1,3,8]) (.cond (.leaf [1,3]) (.leaf [1]))) (.seq (.block (.seq (.leaf [1,3,17]) (.cond (.seq (.leaf [2]) (.leaf [2])) (.leaf [1,3])))) (.leaf [1,3])))))) (.seq (.leaf [2]) (.leaf [2]))))
noncomputable def N2i : Ctx := ⟨tlook tys,olook [(27,Nu)],ioF,0,false,[]⟩
theorem Ntp (a : List Int) (b : List (List Int)) : Link N2i LL (cq [0] (bodyOf Tryd.f16)) (aq [0] N3n) ⟨mkE 27 0 [(0,.agg [dL a,.dat (.list (.list (.int .i64))) b])],[]⟩ (N67) (fun (t : Unit) => (Exit.normal,⟨mkE 27 0 [(1,.ptr 0 0)],[some (.box [dL a,.dat (.list (.list (.int .i64))) b])]⟩)) := .of fun K h => by
  simp only [N67,wpW] at h
  exact .of (by kernel_rfl) h
theorem Nsh (a : List Int) (b : List (List Int)) : Link N2i LL (cq [0,0,1] (bodyOf Tryd.f16)) (aq [0,0,1] N3n) ⟨mkE 27 0 [(1,.ptr 0 0)],[some (.box [dL a,.dat (.list (.list (.int .i64))) b])]⟩ (N58) (fun (t : Unit) => (Exit.normal,⟨mkE 27 0 [(1,.ptr 0 0),(3,dI 0)],[some (.box [dL a,.dat (.list (.list (.int .i64))) b])]⟩)) := .of fun K h => by
  simp only [N58,wpW] at h
  exact .of (by kernel_rfl) h
theorem Nr7 (a : Int) (b : List Int) (c : List (List Int)) : Link N2i LL (cq [0,0,1,0,1] (bodyOf Tryd.f16)) (aq [0,0,1,0,1] N3n) ⟨mkE 27 0 [(1,.ptr 0 0),(3,dI a)],[some (.box [dL b,.dat (.list (.list (.int .i64))) c])]⟩ (N23 a c) (Sum.elim (fun (t : Int) => (Exit.normal,⟨mkE 27 0 [(1,.ptr 0 0),(3,dI t)],[some (.box [dL b,.dat (.list (.list (.int .i64))) c])]⟩)) (Sum.elim (fun (t : Bool) => (Exit.ret,⟨mkE 27 0 [(2,dB t)],[]⟩)) (fun (t : Unit) => ((Exit.exit 0),⟨mkE 27 0 [(1,.ptr 0 0)],[some (.box [dL b,.dat (.list (.list (.int .i64))) c])]⟩)))) := .of fun K h => by
  simp only [N23,wpW] at h
  exact .of (by kernel_rfl) h
theorem Nmf (a : List Int) (b : List (List Int)) : Link N2i LL (cq [1,1] (bodyOf Tryd.f16)) (aq [1,1] N3n) ⟨mkE 27 0 [(1,.ptr 0 0)],[some (.box [dL a,.dat (.list (.list (.int .i64))) b])]⟩ (N5y a b) (fun (t : Bool) => (Exit.ret,⟨mkE 27 0 [(2,dB t)],[]⟩)) := .of fun K h => by
  simp only [N5y,wpW] at h
  exact .of (by kernel_rfl) h
theorem Nv2 (a : List Int) (b : List (List Int)) {r : AV} {H' : Heap} (h : (Ans.mk _ (Nn a b) (fun (t : Bool) => (dB t,[])) [] none).run = some (r,H')) : Awp N2i LL (bodyOf Tryd.f16) N3n ⟨mkE 27 0 [(0,.agg [dL a,.dat (.list (.list (.int .i64))) b])],[]⟩ (Ret (tlook tys) Tryd.f16.results.toList r H') :=
  ret_of' (Link.cast (by kernel_rfl) (by kernel_rfl) (link_seq (Ntp a b) (fun (t : Unit) => (link_seq2 (link_seq (Nsh a b) (fun (t : Unit) => (link_block (fin2 := (Sum.elim (fun (t : Unit) => (Exit.normal,⟨mkE 27 0 [(1,.ptr 0 0)],[some (.box [dL a,.dat (.list (.list (.int .i64))) b])]⟩)) (fun (t : Bool) => (Exit.ret,⟨mkE 27 0 [(2,dB t)],[]⟩)))) (id := 0) (link_loop (mk := fun (s : Int) => ⟨mkE 27 0 [(1,.ptr 0 0),(3,dI s)],[some (.box [dL a,.dat (.list (.list (.int .i64))) b])]⟩) (fin := (Sum.elim (fun (t : Bool) => (Exit.ret,⟨mkE 27 0 [(2,dB t)],[]⟩)) (fun (t : Unit) => ((Exit.exit 0),⟨mkE 27 0 [(1,.ptr 0 0)],[some (.box [dL a,.dat (.list (.list (.int .i64))) b])]⟩)))) (by
  rintro (t | t) f K h
  · exact h
  · exact h) (fun s => link_map (Nr7 s a b) (Sum.elim (fun (t : Int) => Sum.inl t) (Sum.elim (fun (t : Bool) => Sum.inr (Sum.inl t)) (fun (t : Unit) => Sum.inr (Sum.inr t)))) (by
  rintro (t | t | t)
  · kernel_rfl
  · kernel_rfl
  · kernel_rfl)) 0) (Sum.elim (fun (t : Bool) => (Sum.inr t)) (fun (t : Unit) => (Sum.inl ()))) (by
  rintro (t | t) K h
  · exact Eq.mp (by kernel_rfl) h
  · exact Eq.mp (by kernel_rfl) h)))) (fun (t : Unit) => (Nmf a b)) (fun (t : Bool) => t) (by
  rintro t
  · kernel_rfl) (by
  rintro t f K h
  · exact h))))) (by unfold Nn; kernel_rfl) (by
  intro t
  exact ret_mk [dB t] (by kernel_rfl) (by kernel_rfl) (by kernel_rfl) (by kernel_rfl)) h
def N3y : Fun := fun avs H =>
  match avs,H with
  | [.agg [.dat (.list (.int .i64)) a,.dat (.list (.list (.int .i64))) b]],[] => ⟨_,Nn a b,fun (t : Bool) => (dB t,[]),[],none⟩
  | _,_ => Ans.no
theorem N9c : Sound Tryd.prog 16 N3y := by
  refine fn_sound' (C := N2i) (c := bodyOf Tryd.f16) (cok_of tys_ok (allc N1q alln) (allc Tryd.call27 alln) (by kernel_rfl)) Tryd.func16 (by kernel_rfl) LL N3n ?_
  intro avs H r H' h
  unfold N3y at h
  split at h
  · refine Awp.cast ?_ ?_ ?_ (Nv2 _ _ h) <;> kernel_rfl
  · simp [Ans.no,Ans.run] at h

def N14 : Ann := (.seq (.leaf [1,2]) (.seq (.leaf [1,2,3]) (.seq (.seq (.leafF [⟨1,3,true,some 1,some (.int .i64)⟩] [1,2,3,4]) (.block (.loop (.seq (.seq (.leaf [1,2,3,4,14]) (.cond (.leaf [1,2,3,4]) (.leaf [2,3]))) (.seq (.block (.draw [8,2,100010] [0,1,2,3,4,5,6,7,8,9,10,11,12] [] [1,2,3,4])) (.leaf [1,2,3,4])))))) (.seq (.leaf [2]) (.leaf [2])))))
noncomputable def N32 : Ctx := ⟨tlook tys,olook [],ioF,0,true,[]⟩
theorem Nsz (a : List Int) (b : List (List Int)) : Link N32 LL (Code.seq (cq [0] (bodyOf Tryd.f25)) (cq [0,1] (bodyOf Tryd.f25))) (Ann.seq (aq [0] N14) (aq [0,1] N14)) ⟨mkE 30 0 [(0,.agg [dL a,.dat (.list (.list (.int .i64))) b])],[]⟩ (N5w a) (fun (t : (List Int)) => (Exit.normal,⟨mkE 30 0 [(1,.ptr 0 0),(2,.ptr 1 0),(3,.ptr 2 0)],[some (.box [dL a,.dat (.list (.list (.int .i64))) b]),some (.box [.nils,.nils]),some (.box [.slc 3,.nils]),some (sI t)]⟩)) := .of fun K h => by
  simp only [N5w,wpW] at h
  exact .of (by kernel_rfl) h
theorem Nx9 (a : List Int) (b : List (List Int)) (c : List Int) : Link N32 LL (cq [0,0,1,1] (bodyOf Tryd.f25)) (aq [0,0,1,1] N14) ⟨mkE 30 0 [(1,.ptr 0 0),(2,.ptr 1 0),(3,.ptr 2 0)],[some (.box [dL a,.dat (.list (.list (.int .i64))) b]),some (.box [.nils,.nils]),some (.box [.slc 3,.nils]),some (sI c)]⟩ (N74) (fun (t : Unit) => (Exit.normal,⟨mkE 30 0 [(1,.ptr 0 0),(2,.ptr 1 0),(3,.ptr 2 0),(4,dI 0)],[some (.box [dL a,.dat (.list (.list (.int .i64))) b]),some (.box [.nils,.nils]),some (.box [.slc 3,.slc 4]),some (sI c),some (.nest (.int .i64) ([] : List (List Int)) 0 [])]⟩)) := .of fun K h => by
  simp only [N74,wpW] at h
  exact .of (by kernel_rfl) h
theorem Nwa (a : Int) (b : List Int) (c : List (List Int)) (d : List Int) (g : List (List Int)) : Link N32 LL (cq [0,0,1,0,1,1] (bodyOf Tryd.f25)) (aq [0,0,1,0,1,1] N14) ⟨mkE 30 0 [(1,.ptr 0 0),(2,.ptr 1 0),(3,.ptr 2 0),(4,dI a)],[some (.box [dL b,.dat (.list (.list (.int .i64))) c]),some (.box [.nils,.nils]),some (.box [.slc 3,.slc 4]),some (sI d),some (.nest (.int .i64) g 0 [])]⟩ (N38 a c g) (Sum.elim (fun (t : Int × (List (List Int))) => (Exit.normal,⟨mkE 30 0 [(1,.ptr 0 0),(2,.ptr 1 0),(3,.ptr 2 0),(4,dI t.1)],[some (.box [dL b,.dat (.list (.list (.int .i64))) c]),some (.box [.nils,.nils]),some (.box [.slc 3,.slc 4]),some (sI d),some (.nest (.int .i64) t.2 0 [])]⟩)) (fun (t : (List (List Int))) => ((Exit.exit 0),⟨mkE 30 0 [(2,.ptr 0 0),(3,.ptr 1 0)],[some (.box [.nils,.nils]),some (.box [.slc 2,.slc 3]),some (sI d),some (.nest (.int .i64) t 0 [])]⟩))) := .of fun K h => by
  simp only [N38,wpW] at h
  exact .of (by kernel_rfl) h
theorem Nko (a : List Int) (b : List (List Int)) : Link N32 LL (cq [1,1,1] (bodyOf Tryd.f25)) (aq [1,1,1] N14) ⟨mkE 30 0 [(2,.ptr 0 0),(3,.ptr 1 0)],[some (.box [.nils,.nils]),some (.box [.slc 2,.slc 3]),some (sI a),some (.nest (.int .i64) b 0 [])]⟩ (N5u a b) (fun (t : (List Int) × (List (List Int))) => (Exit.ret,⟨mkE 30 0 [(2,.ptr 0 0)],[some (.box [.slc 1,.slc 2]),some (sI t.1),some (.nest (.int .i64) t.2 0 [])]⟩)) := .of fun K h => by
  simp only [N5u,wpW] at h
  exact .of (by kernel_rfl) h
theorem Nhw (b : List Int) (d : List (List Int)) {r : AV} {H' : Heap} (h : (Ans.mk _ (N1u b d) (fun (t : (List Int) × (List (List Int))) => (.agg [.slc 1,.slc 2],[some (.box [.slc 1,.slc 2]),some (sI t.1),some (.nest (.int .i64) t.2 0 [])])) [] none).run = some (r,H')) : Awp N32 LL (bodyOf Tryd.f25) N14 ⟨mkE 30 0 [(0,.agg [dL b,.dat (.list (.list (.int .i64))) d])],[]⟩ (Ret (tlook tys) Tryd.f25.results.toList r H') :=
  ret_of' (Link.cast (by kernel_rfl) (by kernel_rfl) (link_group (c := (cq [0,1] (bodyOf Tryd.f25))) (a := (aq [0,1] N14)) [(cq [0] (bodyOf Tryd.f25))] [(aq [0] N14)] rfl (link_seq (Nsz b d) (fun (t : (List Int)) => (link_seq (link_seq (Nx9 b d t) (fun (t32 : Unit) => (link_block (fin2 := (fun (t32 : (List (List Int))) => (Exit.normal,⟨mkE 30 0 [(2,.ptr 0 0),(3,.ptr 1 0)],[some (.box [.nils,.nils]),some (.box [.slc 2,.slc 3]),some (sI t),some (.nest (.int .i64) t32 0 [])]⟩))) (id := 0) (link_loop (mk := fun (s : Int × (List (List Int))) => ⟨mkE 30 0 [(1,.ptr 0 0),(2,.ptr 1 0),(3,.ptr 2 0),(4,dI s.1)],[some (.box [dL b,.dat (.list (.list (.int .i64))) d]),some (.box [.nils,.nils]),some (.box [.slc 3,.slc 4]),some (sI t),some (.nest (.int .i64) s.2 0 [])]⟩) (fin := (fun (t32 : (List (List Int))) => ((Exit.exit 0),⟨mkE 30 0 [(2,.ptr 0 0),(3,.ptr 1 0)],[some (.box [.nils,.nils]),some (.box [.slc 2,.slc 3]),some (sI t),some (.nest (.int .i64) t32 0 [])]⟩))) (by
  rintro t32 f K h
  · exact h) (fun s => link_map (Nwa s.1 b d t s.2) (Sum.elim (fun (t32 : Int × (List (List Int))) => Sum.inl (t32.1,t32.2)) (fun (t32 : (List (List Int))) => Sum.inr t32)) (by
  rintro (t32 | t32)
  · kernel_rfl
  · kernel_rfl)) (0,([] : List (List Int)))) (fun (t32 : (List (List Int))) => t32) (by
  rintro t32 K h
  · exact Eq.mp (by kernel_rfl) h)))) (fun (t32 : (List (List Int))) => (Nko t t32))))))) (by unfold N1u; kernel_rfl) (by
  intro t
  exact ret_mk [.agg [.slc 1,.slc 2]] (by kernel_rfl) (by kernel_rfl) (by kernel_rfl) (by kernel_rfl)) h
def N5x : Fun := fun avs H =>
  match avs,H with
  | [.agg [.dat (.list (.int .i64)) a,.dat (.list (.list (.int .i64))) b]],[] => ⟨_,N1u a b,fun (t : (List Int) × (List (List Int))) => (.agg [.slc 1,.slc 2],[some (.box [.slc 1,.slc 2]),some (sI t.1),some (.nest (.int .i64) t.2 0 [])]),[],none⟩
  | _,_ => Ans.no
theorem Ng3 : Sound Tryd.prog 25 N5x := by
  refine fn_sound' (C := N32) (c := bodyOf Tryd.f25) (cok_of tys_ok (alln) (alln) (by kernel_rfl)) Tryd.func25 (by kernel_rfl) LL N14 ?_
  intro avs H r H' h
  unfold N5x at h
  split at h
  · refine Awp.cast ?_ ?_ ?_ (Nhw _ _ h) <;> kernel_rfl
  · simp [Ans.no,Ans.run] at h

def Nl : Ann := (.seq (.leaf [0]) (.seq (.leaf [0,3]) (.seq (.leaf [0,3,4]) (.seq (.seq (.leaf [0,3,4,5]) (.block (.loop (.seq (.seq (.leaf [0,3,4,5,16]) (.cond (.leaf [0,3,4,5]) (.leaf [3]))) (.seq (.block (.seq (.leaf [0,3,4,5,23]) (.cond (.leaf [0,3,4,5]) (.leaf [0,3,4,5])))) (.leaf [0,3,4,5])))))) (.seq (.leaf [2]) (.leaf [2]))))))
noncomputable def N3i : Ctx := ⟨tlook tys,olook [(27,Nu)],ioF,0,false,[]⟩
theorem Nrh (a : List Int) : Link N3i LL (Code.seq (cq [0] (bodyOf Tryd.f47)) (Code.seq (cq [0,1] (bodyOf Tryd.f47)) (cq [0,1,1] (bodyOf Tryd.f47)))) (Ann.seq (aq [0] Nl) (Ann.seq (aq [0,1] Nl) (aq [0,1,1] Nl))) ⟨mkE 38 0 [(0,dL a)],[]⟩ (N6p a) (fun (t : Int) => (Exit.normal,⟨mkE 38 0 [(0,dL a),(3,.slc 0),(4,dI t)],[some (sI ([] : List Int))]⟩)) := .of fun K h => by
  simp only [N6p,wpW] at h
  exact .of (by kernel_rfl) h
theorem Nnp (a : List Int) (b : Int) : Link N3i LL (cq [0,0,1,1,1] (bodyOf Tryd.f47)) (aq [0,0,1,1,1] Nl) ⟨mkE 38 0 [(0,dL a),(3,.slc 0),(4,dI b)],[some (sI ([] : List Int))]⟩ (N4x b) (fun (t : Int) => (Exit.normal,⟨mkE 38 0 [(0,dL a),(3,.slc 0),(4,dI b),(5,dI t)],[some (sI ([] : List Int))]⟩)) := .of fun K h => by
  simp only [N4x,wpW] at h
  exact .of (by kernel_rfl) h
theorem Nnt (a : List Int) (b c : Int) (d : List Int) : Link N3i LL (cq [0,0,1,0,1,1,1] (bodyOf Tryd.f47)) (aq [0,0,1,0,1,1,1] Nl) ⟨mkE 38 0 [(0,dL a),(3,.slc 0),(4,dI b),(5,dI c)],[some (sI d)]⟩ (N1x a b c d) (Sum.elim (fun (t : Int × (List Int)) => (Exit.normal,⟨mkE 38 0 [(0,dL a),(3,.slc 0),(4,dI b),(5,dI t.1)],[some (sI t.2)]⟩)) (fun (t : (List Int)) => ((Exit.exit 0),⟨mkE 38 0 [(3,.slc 0)],[some (sI t)]⟩))) := .of fun K h => by
  simp only [N1x,wpW] at h
  exact .of (by kernel_rfl) h
theorem No8 (a : List Int) : Link N3i LL (cq [1,1,1,1] (bodyOf Tryd.f47)) (aq [1,1,1,1] Nl) ⟨mkE 38 0 [(3,.slc 0)],[some (sI a)]⟩ (N6w a) (fun (t : (List Int)) => (Exit.ret,⟨mkE 38 0 [(2,.slc 0)],[some (sI t)]⟩)) := .of fun K h => by
  simp only [N6w,wpW] at h
  exact .of (by kernel_rfl) h
theorem Nih (b : List Int) {r : AV} {H' : Heap} (h : (Ans.mk _ (N1k b) (fun (t : (List Int)) => (.slc 0,[some (sI t)])) [] none).run = some (r,H')) : Awp N3i LL (bodyOf Tryd.f47) Nl ⟨mkE 38 0 [(0,dL b)],[]⟩ (Ret (tlook tys) Tryd.f47.results.toList r H') :=
  ret_of' (Link.cast (by kernel_rfl) (by kernel_rfl) (link_group (c := (cq [0,1,1] (bodyOf Tryd.f47))) (a := (aq [0,1,1] Nl)) [(cq [0] (bodyOf Tryd.f47)),(cq [0,1] (bodyOf Tryd.f47))] [(aq [0] Nl),(aq [0,1] Nl)] rfl (link_seq (Nrh b) (fun (t : Int) => (link_seq (link_seq (Nnp b t) (fun (t33 : Int) => (link_block (fin2 := (fun (t10 : (List Int)) => (Exit.normal,⟨mkE 38 0 [(3,.slc 0)],[some (sI t10)]⟩))) (id := 0) (link_loop (mk := fun (s : Int × (List Int)) => ⟨mkE 38 0 [(0,dL b),(3,.slc 0),(4,dI t),(5,dI s.1)],[some (sI s.2)]⟩) (fin := (fun (t10 : (List Int)) => ((Exit.exit 0),⟨mkE 38 0 [(3,.slc 0)],[some (sI t10)]⟩))) (by
  rintro t10 f K h
  · exact h) (fun s => link_map (Nnt b t s.1 s.2) (Sum.elim (fun (t10 : Int × (List Int)) => Sum.inl (t10.1,t10.2)) (fun (t10 : (List Int)) => Sum.inr t10)) (by
  rintro (t10 | t10)
  · kernel_rfl
  · kernel_rfl)) (t33,([] : List Int))) (fun (t10 : (List Int)) => t10) (by
  rintro t10 K h
  · exact Eq.mp (by kernel_rfl) h)))) (fun (t33 : (List Int)) => (No8 t33))))))) (by unfold N1k; kernel_rfl) (by
  intro t
  exact ret_mk [.slc 0] (by kernel_rfl) (by kernel_rfl) (by kernel_rfl) (by kernel_rfl)) h
def Ne2 : Fun := fun avs H =>
  match avs,H with
  | [.dat (.list (.int .i64)) a],[] => ⟨_,N1k a,fun (t : (List Int)) => (.slc 0,[some (sI t)]),[],none⟩
  | _,_ => Ans.no
theorem Nnx : Sound Tryd.prog 47 Ne2 := by
  refine fn_sound' (C := N3i) (c := bodyOf Tryd.f47) (cok_of tys_ok (allc N1q alln) (allc Tryd.call27 alln) (by kernel_rfl)) Tryd.func47 (by kernel_rfl) LL Nl ?_
  intro avs H r H' h
  unfold Ne2 at h
  split at h
  · refine Awp.cast ?_ ?_ ?_ (Nih _ h) <;> kernel_rfl
  · simp [Ans.no,Ans.run] at h

def N2u : Ann := (.seq (.leaf [0]) (.seq (.seq (.leaf [0,3]) (.block (.loop (.seq (.seq (.leaf [0,3,11]) (.cond (.leaf [0,3]) (.leaf []))) (.seq (.block (.seq (.leaf [0,3,18]) (.cond (.seq (.leaf [2]) (.leaf [2])) (.leaf [0,3])))) (.leaf [0,3])))))) (.seq (.leaf [2]) (.leaf [2]))))
noncomputable def N2w : Ctx := ⟨tlook tys,olook [(27,Nu)],ioF,0,false,[]⟩
theorem Nvb (a : List Int) : Link N2w LL (cq [0] (bodyOf Tryd.f74)) (aq [0] N2u) ⟨mkE 21 0 [(0,dL a)],[]⟩ (N50) (fun (t : Unit) => (Exit.normal,⟨mkE 21 0 [(0,dL a)],[]⟩)) := .of fun K h => by
  simp only [N50,wpW] at h
  exact .of (by kernel_rfl) h
theorem Nkg (a : List Int) : Link N2w LL (cq [0,0,1] (bodyOf Tryd.f74)) (aq [0,0,1] N2u) ⟨mkE 21 0 [(0,dL a)],[]⟩ (N4o) (fun (t : Unit) => (Exit.normal,⟨mkE 21 0 [(0,dL a),(3,dI 0)],[]⟩)) := .of fun K h => by
  simp only [N4o,wpW] at h
  exact .of (by kernel_rfl) h
theorem Nmg (a : List Int) (b : Int) : Link N2w LL (cq [0,0,1,0,1] (bodyOf Tryd.f74)) (aq [0,0,1,0,1] N2u) ⟨mkE 21 0 [(0,dL a),(3,dI b)],[]⟩ (N2a a b) (Sum.elim (fun (t : Int) => (Exit.normal,⟨mkE 21 0 [(0,dL a),(3,dI t)],[]⟩)) (Sum.elim (fun (t : Int) => (Exit.ret,⟨mkE 21 0 [(2,dI t)],[]⟩)) (fun (t : Unit) => ((Exit.exit 0),⟨mkE 21 0 [],[]⟩)))) := .of fun K h => by
  simp only [N2a,wpW] at h
  exact .of (by kernel_rfl) h
theorem Nvy : Link N2w LL (cq [1,1] (bodyOf Tryd.f74)) (aq [1,1] N2u) ⟨mkE 21 0 [],[]⟩ (N59) (fun (t : Int) => (Exit.ret,⟨mkE 21 0 [(2,dI t)],[]⟩)) := .of fun K h => by
  simp only [N59,wpW] at h
  exact .of (by kernel_rfl) h
theorem Nrn (a : List Int) {r : AV} {H' : Heap} (h : (Ans.mk _ (N3o a) (fun (t : Int) => (dI t,[])) [] none).run = some (r,H')) : Awp N2w LL (bodyOf Tryd.f74) N2u ⟨mkE 21 0 [(0,dL a)],[]⟩ (Ret (tlook tys) Tryd.f74.results.toList r H') :=
  ret_of' (Link.cast (by kernel_rfl) (by kernel_rfl) (link_seq (Nvb a) (fun (t : Unit) => (link_seq2 (link_seq (Nkg a) (fun (t : Unit) => (link_block (fin2 := (Sum.elim (fun (t : Unit) => (Exit.normal,⟨mkE 21 0 [],[]⟩)) (fun (t : Int) => (Exit.ret,⟨mkE 21 0 [(2,dI t)],[]⟩)))) (id := 0) (link_loop (mk := fun (s : Int) => ⟨mkE 21 0 [(0,dL a),(3,dI s)],[]⟩) (fin := (Sum.elim (fun (t : Int) => (Exit.ret,⟨mkE 21 0 [(2,dI t)],[]⟩)) (fun (t : Unit) => ((Exit.exit 0),⟨mkE 21 0 [],[]⟩)))) (by
  rintro (t | t) f K h
  · exact h
  · exact h) (fun s => link_map (Nmg a s) (Sum.elim (fun (t : Int) => Sum.inl t) (Sum.elim (fun (t : Int) => Sum.inr (Sum.inl t)) (fun (t : Unit) => Sum.inr (Sum.inr t)))) (by
  rintro (t | t | t)
  · kernel_rfl
  · kernel_rfl
  · kernel_rfl)) 0) (Sum.elim (fun (t : Int) => (Sum.inr t)) (fun (t : Unit) => (Sum.inl ()))) (by
  rintro (t | t) K h
  · exact Eq.mp (by kernel_rfl) h
  · exact Eq.mp (by kernel_rfl) h)))) (fun (t : Unit) => (Nvy)) (fun (t : Int) => t) (by
  rintro t
  · kernel_rfl) (by
  rintro t f K h
  · exact h))))) (by unfold N3o; kernel_rfl) (by
  intro t
  exact ret_mk [dI t] (by kernel_rfl) (by kernel_rfl) (by kernel_rfl) (by kernel_rfl)) h
def Ndc : Fun := fun avs H =>
  match avs,H with
  | [.dat (.list (.int .i64)) a],[] => ⟨_,N3o a,fun (t : Int) => (dI t,[]),[],none⟩
  | _,_ => Ans.no
theorem Njo : Sound Tryd.prog 74 Ndc := by
  refine fn_sound' (C := N2w) (c := bodyOf Tryd.f74) (cok_of tys_ok (allc N1q alln) (allc Tryd.call27 alln) (by kernel_rfl)) Tryd.func74 (by kernel_rfl) LL N2u ?_
  intro avs H r H' h
  unfold Ndc at h
  split at h
  · refine Awp.cast ?_ ?_ ?_ (Nrn _ h) <;> kernel_rfl
  · simp [Ans.no,Ans.run] at h

def Nc : Ann := (.seq (.leaf [0,1]) (.seq (.leaf [0,1,5]) (.seq (.seq (.leaf [0,1,5,6]) (.block (.loop (.seq (.seq (.leaf [0,1,5,6,11]) (.cond (.leaf [0,1,5,6]) (.leaf [0,1,5]))) (.seq (.block (.seq (.leaf [0,1,5,6,20]) (.cond (.leaf [0,1,5,6]) (.leaf [0,1,5,6])))) (.leaf [0,1,5,6])))))) (.seq (.leaf [0,1,5]) (.seq (.seq (.leaf [0,1,5,7]) (.block (.loop (.seq (.seq (.leaf [0,1,5,7,35]) (.cond (.leaf [0,1,5,7]) (.leaf [5]))) (.seq (.block (.seq (.leaf [0,1,5,7,44]) (.cond (.leaf [0,1,5,7]) (.leaf [0,1,5,7])))) (.leaf [0,1,5,7])))))) (.seq (.leaf [4]) (.leaf [4])))))))
def N12 (n : Nat) : Fun := fun avs H =>
  match avs,H with
  | [.dat (.list (.int .i64)) a,.dat (.int .i64) b],[] => ⟨_,N6 n a b,fun (t : (List Int)) => (.slc 0,[some (sI t)]),[],none⟩
  | _,_ => Ans.no
noncomputable def Nz (n : Nat) : Ctx := ⟨tlook tys,olook [(73,N12 n)],ioF,0,false,[]⟩
theorem Nqd (n : Nat) (a : List Int) (b : Int) : Link (Nz n) LL (Code.seq (cq [0] (bodyOf Tryd.f73)) (cq [0,1] (bodyOf Tryd.f73))) (Ann.seq (aq [0] Nc) (aq [0,1] Nc)) ⟨mkE 51 0 [(0,dL a),(1,dI b)],[]⟩ (N4m (N6 n)) (fun (t : Unit) => (Exit.normal,⟨mkE 51 0 [(0,dL a),(1,dI b),(5,.slc 0)],[some (sI ([] : List Int))]⟩)) := .of fun K h => by
  simp only [N4m,wpW] at h
  exact .of (by kernel_rfl) h
theorem Npt (n : Nat) (a : List Int) (b : Int) : Link (Nz n) LL (cq [0,0,1,1] (bodyOf Tryd.f73)) (aq [0,0,1,1] Nc) ⟨mkE 51 0 [(0,dL a),(1,dI b),(5,.slc 0)],[some (sI ([] : List Int))]⟩ (N5n (N6 n)) (fun (t : Unit) => (Exit.normal,⟨mkE 51 0 [(0,dL a),(1,dI b),(5,.slc 0),(6,dI 1)],[some (sI ([] : List Int))]⟩)) := .of fun K h => by
  simp only [N5n,wpW] at h
  exact .of (by kernel_rfl) h
theorem Nl6 (n : Nat) (a : List Int) (b c : Int) (d : List Int) : Link (Nz n) LL (cq [0,0,1,0,1,1] (bodyOf Tryd.f73)) (aq [0,0,1,0,1,1] Nc) ⟨mkE 51 0 [(0,dL a),(1,dI b),(5,.slc 0),(6,dI c)],[some (sI d)]⟩ (N2o (N6 n) a b c d) (Sum.elim (fun (t : Int × (List Int)) => (Exit.normal,⟨mkE 51 0 [(0,dL a),(1,dI b),(5,.slc 0),(6,dI t.1)],[some (sI t.2)]⟩)) (fun (t : (List Int)) => ((Exit.exit 0),⟨mkE 51 0 [(0,dL a),(1,dI b),(5,.slc 0)],[some (sI t)]⟩))) := .of fun K h => by
  simp only [N2o,wpW] at h
  exact .of (by kernel_rfl) h
theorem Ntt (n : Nat) (a : List Int) (b : Int) (c : List Int) : Link (Nz n) LL (cq [0,1,1,1] (bodyOf Tryd.f73)) (aq [0,1,1,1] Nc) ⟨mkE 51 0 [(0,dL a),(1,dI b),(5,.slc 0)],[some (sI c)]⟩ (N5m (N6 n) b c) (fun (t : (List Int)) => (Exit.normal,⟨mkE 51 0 [(0,dL a),(1,dI b),(5,.slc 0)],[some (sI t)]⟩)) := .of fun K h => by
  simp only [N5m,wpW] at h
  exact .of (by kernel_rfl) h
theorem Nuz (n : Nat) (a : List Int) (b : Int) (c : List Int) : Link (Nz n) LL (cq [0,0,1,1,1,1] (bodyOf Tryd.f73)) (aq [0,0,1,1,1,1] Nc) ⟨mkE 51 0 [(0,dL a),(1,dI b),(5,.slc 0)],[some (sI c)]⟩ (N6d (N6 n) b) (fun (t : Int) => (Exit.normal,⟨mkE 51 0 [(0,dL a),(1,dI b),(5,.slc 0),(7,dI t)],[some (sI c)]⟩)) := .of fun K h => by
  simp only [N6d,wpW] at h
  exact .of (by kernel_rfl) h
theorem Ntr (n : Nat) (a : List Int) (b c : Int) (d : List Int) : Link (Nz n) LL (cq [0,0,1,0,1,1,1,1] (bodyOf Tryd.f73)) (aq [0,0,1,0,1,1,1,1] Nc) ⟨mkE 51 0 [(0,dL a),(1,dI b),(5,.slc 0),(7,dI c)],[some (sI d)]⟩ (N39 (N6 n) a b c d) (Sum.elim (fun (t : Int × (List Int)) => (Exit.normal,⟨mkE 51 0 [(0,dL a),(1,dI b),(5,.slc 0),(7,dI t.1)],[some (sI t.2)]⟩)) (fun (t : (List Int)) => ((Exit.exit 2),⟨mkE 51 0 [(5,.slc 0)],[some (sI t)]⟩))) := .of fun K h => by
  simp only [N39,wpW] at h
  exact .of (by kernel_rfl) h
theorem Npl (n : Nat) (a : List Int) : Link (Nz n) LL (cq [1,1,1,1,1] (bodyOf Tryd.f73)) (aq [1,1,1,1,1] Nc) ⟨mkE 51 0 [(5,.slc 0)],[some (sI a)]⟩ (N7v (N6 n) a) (fun (t : (List Int)) => (Exit.ret,⟨mkE 51 0 [(4,.slc 0)],[some (sI t)]⟩)) := .of fun K h => by
  simp only [N7v,wpW] at h
  exact .of (by kernel_rfl) h
theorem Nti (n : Nat) (b : List Int) (d : Int) {r : AV} {H' : Heap} (h : (Ans.mk _ (N6 (n + 1) b d) (fun (t : (List Int)) => (.slc 0,[some (sI t)])) [] none).run = some (r,H')) : Awp (Nz n) LL (bodyOf Tryd.f73) Nc ⟨mkE 51 0 [(0,dL b),(1,dI d)],[]⟩ (Ret (tlook tys) Tryd.f73.results.toList r H') :=
  ret_of' (Link.cast (by kernel_rfl) (by kernel_rfl) (link_group (c := (cq [0,1] (bodyOf Tryd.f73))) (a := (aq [0,1] Nc)) [(cq [0] (bodyOf Tryd.f73))] [(aq [0] Nc)] rfl (link_seq (Nqd n b d) (fun (t : Unit) => (link_seq (link_seq (Npt n b d) (fun (t : Unit) => (link_block (fin2 := (fun (t : (List Int)) => (Exit.normal,⟨mkE 51 0 [(0,dL b),(1,dI d),(5,.slc 0)],[some (sI t)]⟩))) (id := 0) (link_loop (mk := fun (s : Int × (List Int)) => ⟨mkE 51 0 [(0,dL b),(1,dI d),(5,.slc 0),(6,dI s.1)],[some (sI s.2)]⟩) (fin := (fun (t : (List Int)) => ((Exit.exit 0),⟨mkE 51 0 [(0,dL b),(1,dI d),(5,.slc 0)],[some (sI t)]⟩))) (by
  rintro t f K h
  · exact h) (fun s => link_map (Nl6 n b d s.1 s.2) (Sum.elim (fun (t : Int × (List Int)) => Sum.inl (t.1,t.2)) (fun (t : (List Int)) => Sum.inr t)) (by
  rintro (t | t)
  · kernel_rfl
  · kernel_rfl)) (1,([] : List Int))) (fun (t : (List Int)) => t) (by
  rintro t K h
  · exact Eq.mp (by kernel_rfl) h)))) (fun (t : (List Int)) => (link_seq (Ntt n b d t) (fun (t45 : (List Int)) => (link_seq (link_seq (Nuz n b d t45) (fun (t34 : Int) => (link_block (fin2 := (fun (t11 : (List Int)) => (Exit.normal,⟨mkE 51 0 [(5,.slc 0)],[some (sI t11)]⟩))) (id := 2) (link_loop (mk := fun (s : Int × (List Int)) => ⟨mkE 51 0 [(0,dL b),(1,dI d),(5,.slc 0),(7,dI s.1)],[some (sI s.2)]⟩) (fin := (fun (t11 : (List Int)) => ((Exit.exit 2),⟨mkE 51 0 [(5,.slc 0)],[some (sI t11)]⟩))) (by
  rintro t11 f K h
  · exact h) (fun s => link_map (Ntr n b d s.1 s.2) (Sum.elim (fun (t11 : Int × (List Int)) => Sum.inl (t11.1,t11.2)) (fun (t11 : (List Int)) => Sum.inr t11)) (by
  rintro (t11 | t11)
  · kernel_rfl
  · kernel_rfl)) (t34,t45)) (fun (t11 : (List Int)) => t11) (by
  rintro t11 K h
  · exact Eq.mp (by kernel_rfl) h)))) (fun (t34 : (List Int)) => (Npl n t34))))))))))) (by (show _ = _); kernel_rfl) (by
  intro t
  exact ret_mk [.slc 0] (by kernel_rfl) (by kernel_rfl) (by kernel_rfl) (by kernel_rfl)) h
theorem Nqb (n : Nat) (h73 : Sound Tryd.prog 73 (N12 n)) : Sound Tryd.prog 73 (N12 (n + 1)) := by
  refine fn_sound' (C := Nz n) (c := bodyOf Tryd.f73) (cok_of tys_ok (allc h73 alln) (allc Tryd.call73 alln) (by kernel_rfl)) Tryd.func73 (by kernel_rfl) LL Nc ?_
  intro avs H r H' h
  unfold N12 at h
  split at h
  · refine Awp.cast ?_ ?_ ?_ (Nti n _ _ h) <;> kernel_rfl
  · simp [Ans.no,Ans.run] at h
theorem Nv0 : Sound Tryd.prog 73 (N12 0) := by
  intro avs H r H' h
  unfold N12 at h
  split at h
  · simp [N6,N26,Ans.run] at h
  · simp [Ans.no,Ans.run] at h
theorem Ngi : ∀ n,Sound Tryd.prog 73 (N12 n)
  | 0 => Nv0
  | n + 1 => by
    have h73 := Ngi n
    exact Nqb n h73
def N4y : Fun := fun avs H =>
  match avs,H with
  | [.dat (.list (.int .i64)) a,.dat (.int .i64) b],[] => ⟨_,N4j a b,fun (t : (List Int)) => (.slc 0,[some (sI t)]),[],none⟩
  | _,_ => Ans.no
theorem Noo : Sound Tryd.prog 73 N4y := by
  have e : N4y = N12 RR := by
    funext avs H
    unfold N4y N12
    split <;> first | rfl | (simp only [N4j])
  rw [e]
  exact (Ngi RR)

def Nd9 : Ann := (.seq (.leaf [0]) (.seq (.seq (.leaf [0,5]) (.cond (.seq (.leaf [2]) (.leaf [2])) (.leaf [0]))) (.seq (.leaf [2]) (.leaf [2]))))
noncomputable def Nc6 : Ctx := ⟨tlook tys,olook [(27,Nu),(74,Ndc),(73,N4y)],ioF,0,false,[]⟩
theorem Nla (a : List Int) : Link Nc6 LL (bodyOf Tryd.f63) Nd9 ⟨mkE 11 0 [(0,dL a)],[]⟩ (N4w a) (fun (t : (List Int)) => (Exit.ret,⟨mkE 11 0 [(2,.slc 0)],[some (sI t)]⟩)) := .of fun K h => by
  simp only [N4w,wpW] at h
  exact .of (by kernel_rfl) h
theorem Nmq (a : List Int) {r : AV} {H' : Heap} (h : (Ans.mk _ (N3h a) (fun (t : (List Int)) => (.slc 0,[some (sI t)])) [] none).run = some (r,H')) : Awp Nc6 LL (bodyOf Tryd.f63) Nd9 ⟨mkE 11 0 [(0,dL a)],[]⟩ (Ret (tlook tys) Tryd.f63.results.toList r H') :=
  ret_of' (Nla a) (by unfold N3h; kernel_rfl) (by
  intro t
  exact ret_mk [.slc 0] (by kernel_rfl) (by kernel_rfl) (by kernel_rfl) (by kernel_rfl)) h
def Nap : Fun := fun avs H =>
  match avs,H with
  | [.dat (.list (.int .i64)) a],[] => ⟨_,N3h a,fun (t : (List Int)) => (.slc 0,[some (sI t)]),[],none⟩
  | _,_ => Ans.no
theorem Nr2 : Sound Tryd.prog 63 Nap := by
  refine fn_sound' (C := Nc6) (c := bodyOf Tryd.f63) (cok_of tys_ok (allc N1q (allc Njo (allc Noo alln))) (allc Tryd.call27 (allc Tryd.call74 (allc Tryd.call73 alln))) (by kernel_rfl)) Tryd.func63 (by kernel_rfl) LL Nd9 ?_
  intro avs H r H' h
  unfold Nap at h
  split at h
  · refine Awp.cast ?_ ?_ ?_ (Nmq _ h) <;> kernel_rfl
  · simp [Ans.no,Ans.run] at h

def N8s : Ann := (.seq (.leaf [0]) (.seq (.leaf [3]) (.seq (.leaf [2]) (.leaf [2]))))
noncomputable def N8e : Ctx := ⟨tlook tys,olook [(63,Nap),(57,N64)],ioF,0,false,[]⟩
theorem Nnn (a : List Int) : Link N8e LL (bodyOf Tryd.f48) N8s ⟨mkE 13 0 [(0,dL a)],[]⟩ (N5t a) (fun (t : (List Int)) => (Exit.ret,⟨mkE 13 0 [(2,.slc 0)],[some (sI t)]⟩)) := .of fun K h => by
  simp only [N5t,wpW] at h
  exact .of (by kernel_rfl) h
theorem Nsi (a : List Int) {r : AV} {H' : Heap} (h : (Ans.mk _ (N1v a) (fun (t : (List Int)) => (.slc 0,[some (sI t)])) [] none).run = some (r,H')) : Awp N8e LL (bodyOf Tryd.f48) N8s ⟨mkE 13 0 [(0,dL a)],[]⟩ (Ret (tlook tys) Tryd.f48.results.toList r H') :=
  ret_of' (Nnn a) (by unfold N1v; kernel_rfl) (by
  intro t
  exact ret_mk [.slc 0] (by kernel_rfl) (by kernel_rfl) (by kernel_rfl) (by kernel_rfl)) h
def N9h : Fun := fun avs H =>
  match avs,H with
  | [.dat (.list (.int .i64)) a],[] => ⟨_,N1v a,fun (t : (List Int)) => (.slc 0,[some (sI t)]),[],none⟩
  | _,_ => Ans.no
theorem Nx5 : Sound Tryd.prog 48 N9h := by
  refine fn_sound' (C := N8e) (c := bodyOf Tryd.f48) (cok_of tys_ok (allc Nr2 (allc Ngt alln)) (allc Tryd.call63 (allc Tryd.call57 alln)) (by kernel_rfl)) Tryd.func48 (by kernel_rfl) LL N8s ?_
  intro avs H r H' h
  unfold N9h at h
  split at h
  · refine Awp.cast ?_ ?_ ?_ (Nsi _ h) <;> kernel_rfl
  · simp [Ans.no,Ans.run] at h

def N9r : Ann := (.seq (.leaf [0,3]) (.seq (.leaf [0,3,5]) (.seq (.block (.seq (.leaf [0,3,5,9]) (.cond (.seq (.leaf [5]) (.seq (.leaf [4]) (.leafF [⟨0,4,true,none,none⟩] [4]))) (.seq (.leaf [0,3,5,28]) (.cond (.seq (.leaf [4]) (.leafF [⟨0,4,true,none,none⟩] [4])) (.seq (.leaf [0,3,5,39]) (.cond (.seq (.leaf [4]) (.leaf [4])) (.seq (.leaf [0,3,48]) (.cond (.seq (.leaf [4]) (.leafF [⟨0,4,true,none,none⟩] [4])) (.seq (.leaf [0,54]) (.cond (.seq (.leaf [4]) (.leafF [⟨0,4,true,none,none⟩] [4])) (.leaf [])))))))))))) (.seq (.leaf [4]) (.leafF [⟨0,4,true,none,none⟩] [4])))))
noncomputable def N9z : Ctx := ⟨tlook tys,olook [(46,N4g),(47,Ne2),(48,N9h)],ioF,0,false,[]⟩
theorem Np8 (a : List Int) (b c d : Int) : Link N9z LL (bodyOf Tryd.f26) N9r ⟨mkE 61 0 [(0,dL a),(1,.agg [dI b,dI c,dI d])],[]⟩ (N3w a b c d) (fun (t : Nat × (List Int)) => (Exit.ret,⟨mkE 61 0 [(4,.win 0 0 t.1)],[some (sI t.2)]⟩)) := .of fun K h => by
  simp only [N3w,wpW] at h
  exact .of (by kernel_rfl) h
theorem Nn0 (a : List Int) (b c d : Int) {r : AV} {H' : Heap} (h : (Ans.mk _ (N1o a b c d) (fun (t : Nat × (List Int)) => (.win 0 0 t.1,[some (sI t.2)])) [] none).run = some (r,H')) : Awp N9z LL (bodyOf Tryd.f26) N9r ⟨mkE 61 0 [(0,dL a),(1,.agg [dI b,dI c,dI d])],[]⟩ (Ret (tlook tys) Tryd.f26.results.toList r H') :=
  ret_of' (Np8 a b c d) (by unfold N1o; kernel_rfl) (by
  intro t
  exact ret_mk [.win 0 0 t.1] (by kernel_rfl) (by kernel_rfl) (by kernel_rfl) (by kernel_rfl)) h
def N9f : Fun := fun avs H =>
  match avs,H with
  | [.dat (.list (.int .i64)) a,.agg [.dat (.int .i64) b,.dat (.int .i64) c,.dat (.int .i64) d]],[] => ⟨_,N1o a b c d,fun (t : Nat × (List Int)) => (.win 0 0 t.1,[some (sI t.2)]),[],none⟩
  | _,_ => Ans.no
theorem Njs : Sound Tryd.prog 26 N9f := by
  refine fn_sound' (C := N9z) (c := bodyOf Tryd.f26) (cok_of tys_ok (allc Nd3 (allc Nnx (allc Nx5 alln))) (allc Tryd.call46 (allc Tryd.call47 (allc Tryd.call48 alln))) (by kernel_rfl)) Tryd.func26 (by kernel_rfl) LL N9r ?_
  intro avs H r H' h
  unfold N9f at h
  split at h
  · refine Awp.cast ?_ ?_ ?_ (Nn0 _ _ _ _ h) <;> kernel_rfl
  · simp [Ans.no,Ans.run] at h

def N2 : Ann := (.seq (.leaf [2,3,4]) (.seq (.seq (.leaf [2,3,4,13]) (.cond (.seq (.leaf [4,5]) (.leafF [⟨0,4,false,some 0,some (.int .i64)⟩,⟨0,4,true,some 1,some (.int .i64)⟩] [4,5])) (.leaf [2,3,4]))) (.seq (.leaf [2,3,4,6]) (.seq (.seq (.leaf [2,3,4,6,25]) (.cond (.seq (.leaf [4,6,7]) (.seq (.leaf [4,6,7]) (.seq (.leaf [4,6]) (.seq (.leaf [4,5]) (.leaf [4,5]))))) (.leaf [2,3,4,6]))) (.seq (.leaf [2,4,6,8]) (.seq (.leaf [2,4,6,8,9]) (.seq (.seq (.leaf [2,4,6,8,9,10]) (.block (.loop (.seq (.seq (.leaf [2,4,6,8,9,10,58]) (.cond (.leaf [2,4,6,8,10]) (.leaf [4,6,8,9]))) (.seq (.block (.draw [] [0,1,2,3,4,5,6,7,8,9,10] [] [2,4,6,8,9,10])) (.leaf [2,4,6,8,9,10])))))) (.seq (.seq (.leaf [4,6,8,76]) (.cond (.seq (.leaf [4,5]) (.leaf [4,5])) (.leaf [4,6,8]))) (.seq (.leaf [4,6,8]) (.seq (.seq (.leaf [4,6,8,88]) (.cond (.leaf [4,6,8]) (.leaf [4,6,8]))) (.seq (.leaf [4,6]) (.seq (.leaf [4,5]) (.leaf [4,5])))))))))))))
noncomputable def N3c : Ctx := ⟨tlook tys,olook [(16,N3y),(25,N5x),(26,N9f),(27,Nu)],ioF,0,true,[]⟩
theorem Np3 (a : List Int) (b : List (List Int)) (c d g : Int) : Link N3c LL (Code.seq (cq [0] (bodyOf Tryd.f7)) (Code.seq (cq [0,1] (bodyOf Tryd.f7)) (Code.seq (cq [0,1,1] (bodyOf Tryd.f7)) (Code.seq (cq [0,1,1,1] (bodyOf Tryd.f7)) (Code.seq (cq [0,1,1,1,1] (bodyOf Tryd.f7)) (cq [0,1,1,1,1,1] (bodyOf Tryd.f7))))))) (Ann.seq (aq [0] N2) (Ann.seq (aq [0,1] N2) (Ann.seq (aq [0,1,1] N2) (Ann.seq (aq [0,1,1,1] N2) (Ann.seq (aq [0,1,1,1,1] N2) (aq [0,1,1,1,1,1] N2)))))) ⟨mkE 98 0 [(0,.agg [dL a,.dat (.list (.list (.int .i64))) b]),(1,.agg [dI c,dI d,dI g])],[]⟩ (N77 a b c d g) (Sum.elim (fun (t : Nat × Bool × (List Int) × (List Int) × (List (List Int))) => (Exit.normal,⟨mkE 98 0 [(2,.ptr 0 0),(4,.ptr 1 0),(6,.ptr 2 0),(8,.win 3 0 t.1),(9,dB t.2.1)],[some (.box [dL a,.dat (.list (.list (.int .i64))) b]),some (.box [.nils,.nils]),some (.box [.slc 4,.slc 5]),some (sI t.2.2.1),some (sI t.2.2.2.1),some (.nest (.int .i64) t.2.2.2.2 0 [])]⟩)) (fun (t : Bool × (List Int) × (List (List Int))) => (Exit.ret,⟨mkE 98 0 [(4,.ptr 0 0),(5,dB t.1)],[some (.box [.slc 1,.slc 2]),some (sI t.2.1),some (.nest (.int .i64) t.2.2 0 [])]⟩))) := .of fun K h => by
  simp only [N77,wpW] at h
  exact .of (by kernel_rfl) h
theorem Nm7 (a : Nat) (b : Bool) (c : List Int) (d : List (List Int)) (g i : List Int) (j : List (List Int)) : Link N3c LL (cq [0,0,1,1,1,1,1,1] (bodyOf Tryd.f7)) (aq [0,0,1,1,1,1,1,1] N2) ⟨mkE 98 0 [(2,.ptr 0 0),(4,.ptr 1 0),(6,.ptr 2 0),(8,.win 3 0 a),(9,dB b)],[some (.box [dL c,.dat (.list (.list (.int .i64))) d]),some (.box [.nils,.nils]),some (.box [.slc 4,.slc 5]),some (sI g),some (sI i),some (.nest (.int .i64) j 0 [])]⟩ (N6r) (fun (t : Unit) => (Exit.normal,⟨mkE 98 0 [(2,.ptr 0 0),(4,.ptr 1 0),(6,.ptr 2 0),(8,.win 3 0 a),(9,dB b),(10,dI 0)],[some (.box [dL c,.dat (.list (.list (.int .i64))) d]),some (.box [.nils,.nils]),some (.box [.slc 4,.slc 5]),some (sI g),some (sI i),some (.nest (.int .i64) j 0 [])]⟩)) := .of fun K h => by
  simp only [N6r,wpW] at h
  exact .of (by kernel_rfl) h
theorem Nlq (a : Nat) (b : Bool) (c : Int) (d : List Int) (g : List (List Int)) (i j : List Int) (k : List (List Int)) : Link N3c LL (cq [0,0,1,0,1,1,1,1,1,1] (bodyOf Tryd.f7)) (aq [0,0,1,0,1,1,1,1,1,1] N2) ⟨mkE 98 0 [(2,.ptr 0 0),(4,.ptr 1 0),(6,.ptr 2 0),(8,.win 3 0 a),(9,dB b),(10,dI c)],[some (.box [dL d,.dat (.list (.list (.int .i64))) g]),some (.box [.nils,.nils]),some (.box [.slc 4,.slc 5]),some (sI i),some (sI j),some (.nest (.int .i64) k 0 [])]⟩ (N27 a b c d i) (Sum.elim (fun (t : Bool × Int) => (Exit.normal,⟨mkE 98 0 [(2,.ptr 0 0),(4,.ptr 1 0),(6,.ptr 2 0),(8,.win 3 0 a),(9,dB t.1),(10,dI t.2)],[some (.box [dL d,.dat (.list (.list (.int .i64))) g]),some (.box [.nils,.nils]),some (.box [.slc 4,.slc 5]),some (sI i),some (sI j),some (.nest (.int .i64) k 0 [])]⟩)) (fun (t : Bool) => ((Exit.exit 0),⟨mkE 98 0 [(4,.ptr 0 0),(6,.ptr 1 0),(8,.win 2 0 a),(9,dB t)],[some (.box [.nils,.nils]),some (.box [.slc 3,.slc 4]),some (sI i),some (sI j),some (.nest (.int .i64) k 0 [])]⟩))) := .of fun K h => by
  simp only [N27,wpW] at h
  exact .of (by kernel_rfl) h
theorem Nqu (a : Nat) (b : Bool) (c d : List Int) (g : List (List Int)) : Link N3c LL (cq [1,1,1,1,1,1,1] (bodyOf Tryd.f7)) (aq [1,1,1,1,1,1,1] N2) ⟨mkE 98 0 [(4,.ptr 0 0),(6,.ptr 1 0),(8,.win 2 0 a),(9,dB b)],[some (.box [.nils,.nils]),some (.box [.slc 3,.slc 4]),some (sI c),some (sI d),some (.nest (.int .i64) g 0 [])]⟩ (N4r a b c d g) (fun (t : Bool × (List Int) × (List (List Int))) => (Exit.ret,⟨mkE 98 0 [(4,.ptr 0 0),(5,dB t.1)],[some (.box [.slc 1,.slc 2]),some (sI t.2.1),some (.nest (.int .i64) t.2.2 0 [])]⟩)) := .of fun K h => by
  simp only [N4r,wpW] at h
  exact .of (by kernel_rfl) h
theorem Ns1 (b : List Int) (d : List (List Int)) (g i j : Int) {r : AV} {H' : Heap} (h : (Ans.mk _ (N1t b d g i j) (fun (t : Bool × (List Int) × (List (List Int))) => (.tup [.agg [.slc 1,.slc 2],dB t.1],[some (.box [.slc 1,.slc 2]),some (sI t.2.1),some (.nest (.int .i64) t.2.2 0 [])])) [] none).run = some (r,H')) : Awp N3c LL (bodyOf Tryd.f7) N2 ⟨mkE 98 0 [(0,.agg [dL b,.dat (.list (.list (.int .i64))) d]),(1,.agg [dI g,dI i,dI j])],[]⟩ (Ret (tlook tys) Tryd.f7.results.toList r H') :=
  ret_of' (Link.cast (by kernel_rfl) (by kernel_rfl) (link_group (c := (cq [0,1,1,1,1,1] (bodyOf Tryd.f7))) (a := (aq [0,1,1,1,1,1] N2)) [(cq [0] (bodyOf Tryd.f7)),(cq [0,1] (bodyOf Tryd.f7)),(cq [0,1,1] (bodyOf Tryd.f7)),(cq [0,1,1,1] (bodyOf Tryd.f7)),(cq [0,1,1,1,1] (bodyOf Tryd.f7))] [(aq [0] N2),(aq [0,1] N2),(aq [0,1,1] N2),(aq [0,1,1,1] N2),(aq [0,1,1,1,1] N2)] rfl (link_seq2 (Np3 b d g i j) (fun (t : Nat × Bool × (List Int) × (List Int) × (List (List Int))) => (link_seq (link_seq (Nm7 t.1 t.2.1 b d t.2.2.1 t.2.2.2.1 t.2.2.2.2) (fun (t35 : Unit) => (link_block (fin2 := (fun (t35 : Bool) => (Exit.normal,⟨mkE 98 0 [(4,.ptr 0 0),(6,.ptr 1 0),(8,.win 2 0 t.1),(9,dB t35)],[some (.box [.nils,.nils]),some (.box [.slc 3,.slc 4]),some (sI t.2.2.1),some (sI t.2.2.2.1),some (.nest (.int .i64) t.2.2.2.2 0 [])]⟩))) (id := 0) (link_loop (mk := fun (s : Bool × Int) => ⟨mkE 98 0 [(2,.ptr 0 0),(4,.ptr 1 0),(6,.ptr 2 0),(8,.win 3 0 t.1),(9,dB s.1),(10,dI s.2)],[some (.box [dL b,.dat (.list (.list (.int .i64))) d]),some (.box [.nils,.nils]),some (.box [.slc 4,.slc 5]),some (sI t.2.2.1),some (sI t.2.2.2.1),some (.nest (.int .i64) t.2.2.2.2 0 [])]⟩) (fin := (fun (t35 : Bool) => ((Exit.exit 0),⟨mkE 98 0 [(4,.ptr 0 0),(6,.ptr 1 0),(8,.win 2 0 t.1),(9,dB t35)],[some (.box [.nils,.nils]),some (.box [.slc 3,.slc 4]),some (sI t.2.2.1),some (sI t.2.2.2.1),some (.nest (.int .i64) t.2.2.2.2 0 [])]⟩))) (by
  rintro t35 f K h
  · exact h) (fun s => link_map (Nlq t.1 s.1 s.2 b d t.2.2.1 t.2.2.2.1 t.2.2.2.2) (Sum.elim (fun (t35 : Bool × Int) => Sum.inl (t35.1,t35.2)) (fun (t35 : Bool) => Sum.inr t35)) (by
  rintro (t35 | t35)
  · kernel_rfl
  · kernel_rfl)) (t.2.1,0)) (fun (t35 : Bool) => t35) (by
  rintro t35 K h
  · exact Eq.mp (by kernel_rfl) h)))) (fun (t35 : Bool) => (Nqu t.1 t35 t.2.2.1 t.2.2.2.1 t.2.2.2.2)))) (fun (t : Bool × (List Int) × (List (List Int))) => t) (by
  rintro t
  · kernel_rfl) (by
  rintro t f K h
  · exact h)))) (by unfold N1t; kernel_rfl) (by
  intro t
  exact ret_mk [.agg [.slc 1,.slc 2],dB t.1] (by kernel_rfl) (by kernel_rfl) (by kernel_rfl) (by kernel_rfl)) h
def N4u : Fun := fun avs H =>
  match avs,H with
  | [.agg [.dat (.list (.int .i64)) a,.dat (.list (.list (.int .i64))) b],.agg [.dat (.int .i64) c,.dat (.int .i64) d,.dat (.int .i64) g]],[] => ⟨_,N1t a b c d g,fun (t : Bool × (List Int) × (List (List Int))) => (.tup [.agg [.slc 1,.slc 2],dB t.1],[some (.box [.slc 1,.slc 2]),some (sI t.2.1),some (.nest (.int .i64) t.2.2 0 [])]),[],none⟩
  | _,_ => Ans.no
theorem Nf2 : Sound Tryd.prog 7 N4u := by
  refine fn_sound' (C := N3c) (c := bodyOf Tryd.f7) (cok_of tys_ok (allc N9c (allc Ng3 (allc Njs (allc N1q alln)))) (allc Tryd.call16 (allc Tryd.call25 (allc Tryd.call26 (allc Tryd.call27 alln)))) (by kernel_rfl)) Tryd.func7 (by kernel_rfl) LL N2 ?_
  intro avs H r H' h
  unfold N4u at h
  split at h
  · refine Awp.cast ?_ ?_ ?_ (Ns1 _ _ _ _ _ h) <;> kernel_rfl
  · simp [Ans.no,Ans.run] at h

def N1b : Ann := (.seq (.leaf [0,1,4]) (.seq (.leaf [0,1,4,5]) (.seq (.seq (.leafF [⟨3,5,false,some 0,none⟩,⟨3,5,true,some 1,some (.int .i64)⟩] [0,1,4,5,7]) (.block (.loop (.seq (.seq (.leaf [0,1,4,5,7,19]) (.cond (.leafF [⟨0,5,false,some 0,none⟩] [0,1,4,5,7]) (.leaf [0,1,4,5]))) (.seq (.block (.seq (.draw [5,200002,300000] [0,1,2,3,4,5,6,7,8,9,10,11] [] [0,1,4,5,7,8,9]) (.seq (.leaf [0,1,4,5,7,8,31]) (.cond (.leaf [0,1,4,5,7]) (.leaf [0,1,4,5,7]))))) (.leafF [⟨3,5,false,some 0,none⟩,⟨3,5,true,some 1,some (.int .i64)⟩] [0,1,4,5,7])))))) (.seq (.seq (.leaf [0,4,5,35]) (.cond (.seq (.leaf [4,5,37]) (.block (.seq (.leaf [4,5,37,39]) (.cond (.leaf [4,5]) (.seq (.leaf [4,5,43]) (.cond (.leaf [4,5]) (.seq (.leaf [4]) (.leafF [⟨0,4,false,some 0,some (.int .i64)⟩,⟨0,4,false,some 0,none⟩,⟨0,4,true,some 1,some (.int .i64)⟩] [4])))))))) (.leaf [4,5]))) (.seq (.leaf [4]) (.leafF [⟨0,4,false,some 0,none⟩] [4]))))))
noncomputable def N3e : Ctx := ⟨tlook tys,olook [(39,N8c),(38,Nc8),(40,Nm),(20,N5f),(7,N4u),(36,N2y)],ioF,1,true,[]⟩
theorem Nqp (a : Int) (b : List Int) (c : Int) : Link N3e LL (Code.seq (cq [0] (bodyOf Tryd.f19)) (cq [0,1] (bodyOf Tryd.f19))) (Ann.seq (aq [0] N1b) (aq [0,1] N1b)) ⟨mkE 52 0 [(0,.ptr 0 0),(1,dI a)],[some (.box [dV b,dI c])]⟩ (N7o b c) (fun (t : Int × (List Int)) => (Exit.normal,⟨mkE 52 0 [(0,.ptr 0 0),(1,dI a),(4,.ptr 1 0),(5,.ptr 2 0)],[some (.box [dV b,dI t.1]),some (.box [.nils,.nils]),some (.box [.slc 3,.nils]),some (sI t.2)]⟩)) := .of fun K h => by
  simp only [N7o,wpW] at h
  exact .of (by kernel_rfl) h
theorem Ns6 (a : Int) (b : List Int) (c : Int) (d : List Int) : Link N3e LL (cq [0,0,1,1] (bodyOf Tryd.f19)) (aq [0,0,1,1] N1b) ⟨mkE 52 0 [(0,.ptr 0 0),(1,dI a),(4,.ptr 1 0),(5,.ptr 2 0)],[some (.box [dV b,dI c]),some (.box [.nils,.nils]),some (.box [.slc 3,.nils]),some (sI d)]⟩ (N7k b c) (fun (t : Int × Int) => (Exit.normal,⟨mkE 52 0 [(0,.ptr 0 0),(1,dI a),(4,.ptr 1 0),(5,.ptr 2 0),(7,dI t.1)],[some (.box [dV b,dI t.2]),some (.box [.nils,.nils]),some (.box [dL d,.slc 3]),some (.nest (.int .i64) ([] : List (List Int)) 0 [])]⟩)) := .of fun K h => by
  simp only [N7k,wpW] at h
  exact .of (by kernel_rfl) h
theorem Nv5 (a b : Int) (c : List Int) (d : Int) (g : List Int) (i : List (List Int)) : Link N3e LL (cq [0,0,1,0,1,1] (bodyOf Tryd.f19)) (aq [0,0,1,0,1,1] N1b) ⟨mkE 52 0 [(0,.ptr 0 0),(1,dI a),(4,.ptr 1 0),(5,.ptr 2 0),(7,dI b)],[some (.box [dV c,dI d]),some (.box [.nils,.nils]),some (.box [dL g,.slc 3]),some (.nest (.int .i64) i 0 [])]⟩ (N4c b c d g i) (Sum.elim (fun (t : Int × Int × (List Int) × (List (List Int))) => (Exit.normal,⟨mkE 52 0 [(0,.ptr 0 0),(1,dI a),(4,.ptr 1 0),(5,.ptr 2 0),(7,dI t.1)],[some (.box [dV c,dI t.2.1]),some (.box [.nils,.nils]),some (.box [dL t.2.2.1,.slc 3]),some (.nest (.int .i64) t.2.2.2 0 [])]⟩)) (fun (t : Int × (List Int) × (List (List Int))) => ((Exit.exit 0),⟨mkE 52 0 [(0,.ptr 0 0),(1,dI a),(4,.ptr 1 0),(5,.ptr 2 0)],[some (.box [dV c,dI t.1]),some (.box [.nils,.nils]),some (.box [dL t.2.1,.slc 3]),some (.nest (.int .i64) t.2.2 0 [])]⟩))) := .of fun K h => by
  simp only [N4c,wpW] at h
  exact .of (by kernel_rfl) h
theorem Nhv (a : Int) (b : List Int) (c : Int) (d : List Int) (g : List (List Int)) : Link N3e LL (cq [1,1,1] (bodyOf Tryd.f19)) (aq [1,1,1] N1b) ⟨mkE 52 0 [(0,.ptr 0 0),(1,dI a),(4,.ptr 1 0),(5,.ptr 2 0)],[some (.box [dV b,dI c]),some (.box [.nils,.nils]),some (.box [dL d,.slc 3]),some (.nest (.int .i64) g 0 [])]⟩ (N5h a b c d g) (fun (t : Int × (List Int) × (List (List Int))) => (Exit.ret,⟨mkE 52 0 [(4,.ptr 1 0)],[some (.box [dV b,dI t.1]),some (.box [dL t.2.1,.slc 2]),some (.nest (.int .i64) t.2.2 0 [])]⟩)) := .of fun K h => by
  simp only [N5h,wpW] at h
  exact .of (by kernel_rfl) h
theorem Ni5 (b : Int) (d : List Int) (g : Int) {r : AV} {H' : Heap} (h : (Ans.mk _ (N22 b d g) (fun (t : Int × (List Int) × (List (List Int))) => (.agg [dL t.2.1,.slc 2],[some (.box [dV d,dI t.1]),some (.box [dL t.2.1,.slc 2]),some (.nest (.int .i64) t.2.2 0 [])])) [] none).run = some (r,H')) : Awp N3e LL (bodyOf Tryd.f19) N1b ⟨mkE 52 0 [(0,.ptr 0 0),(1,dI b)],[some (.box [dV d,dI g])]⟩ (Ret (tlook tys) Tryd.f19.results.toList r H') :=
  ret_of' (Link.cast (by kernel_rfl) (by kernel_rfl) (link_group (c := (cq [0,1] (bodyOf Tryd.f19))) (a := (aq [0,1] N1b)) [(cq [0] (bodyOf Tryd.f19))] [(aq [0] N1b)] rfl (link_seq (Nqp b d g) (fun (t : Int × (List Int)) => (link_seq (link_seq (Ns6 b d t.1 t.2) (fun (t36 : Int × Int) => (link_block (fin2 := (fun (t12 : Int × (List Int) × (List (List Int))) => (Exit.normal,⟨mkE 52 0 [(0,.ptr 0 0),(1,dI b),(4,.ptr 1 0),(5,.ptr 2 0)],[some (.box [dV d,dI t12.1]),some (.box [.nils,.nils]),some (.box [dL t12.2.1,.slc 3]),some (.nest (.int .i64) t12.2.2 0 [])]⟩))) (id := 0) (link_loop (mk := fun (s : Int × Int × (List Int) × (List (List Int))) => ⟨mkE 52 0 [(0,.ptr 0 0),(1,dI b),(4,.ptr 1 0),(5,.ptr 2 0),(7,dI s.1)],[some (.box [dV d,dI s.2.1]),some (.box [.nils,.nils]),some (.box [dL s.2.2.1,.slc 3]),some (.nest (.int .i64) s.2.2.2 0 [])]⟩) (fin := (fun (t12 : Int × (List Int) × (List (List Int))) => ((Exit.exit 0),⟨mkE 52 0 [(0,.ptr 0 0),(1,dI b),(4,.ptr 1 0),(5,.ptr 2 0)],[some (.box [dV d,dI t12.1]),some (.box [.nils,.nils]),some (.box [dL t12.2.1,.slc 3]),some (.nest (.int .i64) t12.2.2 0 [])]⟩))) (by
  rintro t12 f K h
  · exact h) (fun s => link_map (Nv5 b s.1 d s.2.1 s.2.2.1 s.2.2.2) (Sum.elim (fun (t12 : Int × Int × (List Int) × (List (List Int))) => Sum.inl (t12.1,t12.2.1,t12.2.2.1,t12.2.2.2)) (fun (t12 : Int × (List Int) × (List (List Int))) => Sum.inr t12)) (by
  rintro (t12 | t12)
  · kernel_rfl
  · kernel_rfl)) (t36.1,t36.2,t.2,([] : List (List Int)))) (fun (t12 : Int × (List Int) × (List (List Int))) => (t12.1,t12.2.1,t12.2.2)) (by
  rintro t12 K h
  · exact Eq.mp (by kernel_rfl) h)))) (fun (t36 : Int × (List Int) × (List (List Int))) => (Nhv b d t36.1 t36.2.1 t36.2.2))))))) (by unfold N22; kernel_rfl) (by
  intro t
  exact ret_mk [.agg [dL t.2.1,.slc 2]] (by kernel_rfl) (by kernel_rfl) (by kernel_rfl) (by kernel_rfl)) h
def Nbi : Fun := fun avs H =>
  match avs,H with
  | [.ptr 0 0,.dat (.int .i64) a],[some (.box [.dat (.list (.int .u8)) b,.dat (.int .i64) c])] => ⟨_,N22 a b c,fun (t : Int × (List Int) × (List (List Int))) => (.agg [dL t.2.1,.slc 2],[some (.box [dV b,dI t.1]),some (.box [dL t.2.1,.slc 2]),some (.nest (.int .i64) t.2.2 0 [])]),[],none⟩
  | _,_ => Ans.no
theorem Nt2 : Sound Tryd.prog 19 Nbi := by
  refine fn_sound' (C := N3e) (c := bodyOf Tryd.f19) (cok_of tys_ok (allc Nip (allc Nv7 (allc N1f (allc New (allc Nf2 (allc N66 alln)))))) (allc Tryd.call39 (allc Tryd.call38 (allc Tryd.call40 (allc Tryd.call20 (allc Tryd.call7 (allc Tryd.call36 alln)))))) (by kernel_rfl)) Tryd.func19 (by kernel_rfl) LL N1b ?_
  intro avs H r H' h
  unfold Nbi at h
  split at h
  · refine Awp.cast ?_ ?_ ?_ (Ni5 _ _ _ h) <;> kernel_rfl
  · simp [Ans.no,Ans.run] at h

def N15 : Ann := (.seq (.leaf [0]) (.seq (.leaf [0,3]) (.seq (.seq (.leaf [0,3,6,7,8]) (.block (.loop (.seq (.leaf [0,3,6,7,8,9]) (.seq (.cond (.leaf [0,3,6,7,8]) (.leaf [3])) (.seq (.block (.seq (.leaf [0,3,5,6,7,8]) (.seq (.seq (.leaf [0,3,5,6,7,8,19]) (.cond (.seq (.leaf [2]) (.leaf [2])) (.leaf [0,3,5,6,7,8]))) (.seq (.leaf [0,3,6,7,8,21]) (.cond (.leaf [0,3,6,7,8]) (.leaf [0,3,6,7,8])))))) (.leaf [0,3,6,7,8]))))))) (.seq (.leaf [2]) (.leaf [2])))))
noncomputable def N2x : Ctx := ⟨tlook tys,olook [],ioF,0,false,[]⟩
theorem Nkn (a : List Int) : Link N2x LL (Code.seq (cq [0] (bodyOf Tryd.f49)) (cq [0,1] (bodyOf Tryd.f49))) (Ann.seq (aq [0] N15) (aq [0,1] N15)) ⟨mkE 27 0 [(0,dL a)],[]⟩ (N5b) (fun (t : Unit) => (Exit.normal,⟨mkE 27 0 [(0,dL a),(3,dI 0)],[]⟩)) := .of fun K h => by
  simp only [N5b,wpW] at h
  exact .of (by kernel_rfl) h
theorem Nxl (a : List Int) : Link N2x LL (cq [0,0,1,1] (bodyOf Tryd.f49)) (aq [0,0,1,1] N15) ⟨mkE 27 0 [(0,dL a),(3,dI 0)],[]⟩ (N6y a) (fun (t : Int) => (Exit.normal,⟨mkE 27 0 [(0,dL a),(3,dI 0),(6,dL a),(7,dI t),(8,dI 0)],[]⟩)) := .of fun K h => by
  simp only [N6y,wpW] at h
  exact .of (by kernel_rfl) h
theorem Nk7 (a : List Int) (b c d : Int) : Link N2x LL (cq [0,0,1,0,1,1] (bodyOf Tryd.f49)) (aq [0,0,1,0,1,1] N15) ⟨mkE 27 0 [(0,dL a),(3,dI b),(6,dL a),(7,dI c),(8,dI d)],[]⟩ (N31 a b c d) (Sum.elim (fun (t : Int × Int) => (Exit.normal,⟨mkE 27 0 [(0,dL a),(3,dI t.1),(6,dL a),(7,dI c),(8,dI t.2)],[]⟩)) (Sum.elim (fun (t : Bool) => (Exit.ret,⟨mkE 27 0 [(2,dB t)],[]⟩)) (fun (t : Int) => ((Exit.exit 0),⟨mkE 27 0 [(3,dI t)],[]⟩)))) := .of fun K h => by
  simp only [N31,wpW] at h
  exact .of (by kernel_rfl) h
theorem Nwb (a : Int) : Link N2x LL (cq [1,1,1] (bodyOf Tryd.f49)) (aq [1,1,1] N15) ⟨mkE 27 0 [(3,dI a)],[]⟩ (N6b a) (fun (t : Bool) => (Exit.ret,⟨mkE 27 0 [(2,dB t)],[]⟩)) := .of fun K h => by
  simp only [N6b,wpW] at h
  exact .of (by kernel_rfl) h
theorem Nj7 (b : List Int) {r : AV} {H' : Heap} (h : (Ans.mk _ (N2j b) (fun (t : Bool) => (dB t,[])) [] none).run = some (r,H')) : Awp N2x LL (bodyOf Tryd.f49) N15 ⟨mkE 27 0 [(0,dL b)],[]⟩ (Ret (tlook tys) Tryd.f49.results.toList r H') :=
  ret_of' (Link.cast (by kernel_rfl) (by kernel_rfl) (link_group (c := (cq [0,1] (bodyOf Tryd.f49))) (a := (aq [0,1] N15)) [(cq [0] (bodyOf Tryd.f49))] [(aq [0] N15)] rfl (link_seq (Nkn b) (fun (t : Unit) => (link_seq2 (link_seq (Nxl b) (fun (t : Int) => (link_block (fin2 := (Sum.elim (fun (t13 : Int) => (Exit.normal,⟨mkE 27 0 [(3,dI t13)],[]⟩)) (fun (t13 : Bool) => (Exit.ret,⟨mkE 27 0 [(2,dB t13)],[]⟩)))) (id := 0) (link_loop (mk := fun (s : Int × Int) => ⟨mkE 27 0 [(0,dL b),(3,dI s.1),(6,dL b),(7,dI t),(8,dI s.2)],[]⟩) (fin := (Sum.elim (fun (t13 : Bool) => (Exit.ret,⟨mkE 27 0 [(2,dB t13)],[]⟩)) (fun (t13 : Int) => ((Exit.exit 0),⟨mkE 27 0 [(3,dI t13)],[]⟩)))) (by
  rintro (t13 | t13) f K h
  · exact h
  · exact h) (fun s => link_map (Nk7 b s.1 t s.2) (Sum.elim (fun (t13 : Int × Int) => Sum.inl (t13.1,t13.2)) (Sum.elim (fun (t13 : Bool) => Sum.inr (Sum.inl t13)) (fun (t13 : Int) => Sum.inr (Sum.inr t13)))) (by
  rintro (t13 | t13 | t13)
  · kernel_rfl
  · kernel_rfl
  · kernel_rfl)) (0,0)) (Sum.elim (fun (t13 : Bool) => (Sum.inr t13)) (fun (t13 : Int) => (Sum.inl t13))) (by
  rintro (t13 | t13) K h
  · exact Eq.mp (by kernel_rfl) h
  · exact Eq.mp (by kernel_rfl) h)))) (fun (t : Int) => (Nwb t)) (fun (t : Bool) => t) (by
  rintro t
  · kernel_rfl) (by
  rintro t f K h
  · exact h)))))) (by unfold N2j; kernel_rfl) (by
  intro t
  exact ret_mk [dB t] (by kernel_rfl) (by kernel_rfl) (by kernel_rfl) (by kernel_rfl)) h
def Ncr : Fun := fun avs H =>
  match avs,H with
  | [.dat (.list (.int .i64)) a],[] => ⟨_,N2j a,fun (t : Bool) => (dB t,[]),[],none⟩
  | _,_ => Ans.no
theorem Nl4 : Sound Tryd.prog 49 Ncr := by
  refine fn_sound' (C := N2x) (c := bodyOf Tryd.f49) (cok_of tys_ok (alln) (alln) (by kernel_rfl)) Tryd.func49 (by kernel_rfl) LL N15 ?_
  intro avs H r H' h
  unfold Ncr at h
  split at h
  · refine Awp.cast ?_ ?_ ?_ (Nj7 _ h) <;> kernel_rfl
  · simp [Ans.no,Ans.run] at h

def Nas : Ann := (.seq (.leaf [0]) (.seq (.draw [] [0,1,2,3,4,5,6,7,8,9,10,11] [] [0,3]) (.seq (.seq (.leaf [0,3,16]) (.cond (.seq (.leaf [2]) (.leaf [2])) (.leaf [0,3]))) (.seq (.leaf [0]) (.seq (.leaf []) (.seq (.leaf [2]) (.leaf [2])))))))
noncomputable def N8o : Ctx := ⟨tlook tys,olook [],ioF,1,false,[]⟩
theorem Ntz (a : List Int) (b c : Int) : Link N8o LL (bodyOf Tryd.f64) Nas ⟨mkE 28 0 [(0,.ptr 0 0)],[some (.box [dL a,dI b,dI c])]⟩ (N6k a b c) (fun (t : Bool × Int × Int) => (Exit.ret,⟨mkE 28 0 [(2,dB t.1)],[some (.box [dL a,dI t.2.1,dI t.2.2])]⟩)) := .of fun K h => by
  simp only [N6k,wpW] at h
  exact .of (by kernel_rfl) h
theorem Nwu (a : List Int) (b c : Int) {r : AV} {H' : Heap} (h : (Ans.mk _ (N2d a b c) (fun (t : Bool × Int × Int) => (dB t.1,[some (.box [dL a,dI t.2.1,dI t.2.2])])) [] none).run = some (r,H')) : Awp N8o LL (bodyOf Tryd.f64) Nas ⟨mkE 28 0 [(0,.ptr 0 0)],[some (.box [dL a,dI b,dI c])]⟩ (Ret (tlook tys) Tryd.f64.results.toList r H') :=
  ret_of' (Ntz a b c) (by unfold N2d; kernel_rfl) (by
  intro t
  exact ret_mk [dB t.1] (by kernel_rfl) (by kernel_rfl) (by kernel_rfl) (by kernel_rfl)) h
def N6t : Fun := fun avs H =>
  match avs,H with
  | [.ptr 0 0],[some (.box [.dat (.list (.int .i64)) a,.dat (.int .i64) b,.dat (.int .i64) c])] => ⟨_,N2d a b c,fun (t : Bool × Int × Int) => (dB t.1,[some (.box [dL a,dI t.2.1,dI t.2.2])]),[],none⟩
  | _,_ => Ans.no
theorem Ngh : Sound Tryd.prog 64 N6t := by
  refine fn_sound' (C := N8o) (c := bodyOf Tryd.f64) (cok_of tys_ok (alln) (alln) (by kernel_rfl)) Tryd.func64 (by kernel_rfl) LL Nas ?_
  intro avs H r H' h
  unfold N6t at h
  split at h
  · refine Awp.cast ?_ ?_ ?_ (Nwu _ _ _ h) <;> kernel_rfl
  · simp [Ans.no,Ans.run] at h

def N1r : Ann := (.seq (.leaf [0,1]) (.seq (.leaf [0,6]) (.seq (.block (.loop (.seq (.seq (.leaf [0,6,10]) (.cond (.leaf [0,6]) (.leaf [6]))) (.block (.seq (.leaf [0,6,15]) (.cond (.seq (.leaf [4,5]) (.leaf [4,5])) (.leaf [0,6]))))))) (.seq (.leaf [4,5]) (.leaf [4,5])))))
noncomputable def N4i : Ctx := ⟨tlook tys,olook [(64,N6t)],ioF,0,false,[]⟩
theorem Nqn (a : List Int) (b : Int) : Link N4i LL (Code.seq (cq [0] (bodyOf Tryd.f50)) (cq [0,1] (bodyOf Tryd.f50))) (Ann.seq (aq [0] N1r) (aq [0,1] N1r)) ⟨mkE 18 0 [(0,dL a),(1,dI b)],[]⟩ (N54) (fun (t : Unit) => (Exit.normal,⟨mkE 18 0 [(0,dL a),(6,.ptr 0 0)],[some (.box [dL a,dI b,dI 0])]⟩)) := .of fun K h => by
  simp only [N54,wpW] at h
  exact .of (by kernel_rfl) h
theorem Nt3 (a : List Int) (b c : Int) : Link N4i LL (cq [0,0,0,1,1] (bodyOf Tryd.f50)) (aq [0,0,0,1,1] N1r) ⟨mkE 18 0 [(0,dL a),(6,.ptr 0 0)],[some (.box [dL a,dI b,dI c])]⟩ (N3t a b c) (Sum.elim (fun (t : Int × Int) => (Exit.normal,⟨mkE 18 0 [(0,dL a),(6,.ptr 0 0)],[some (.box [dL a,dI t.1,dI t.2])]⟩)) (Sum.elim (fun (t : Int × Bool) => (Exit.ret,⟨mkE 18 0 [(4,dI t.1),(5,dB t.2)],[]⟩)) (fun (t : Int × Int) => ((Exit.exit 0),⟨mkE 18 0 [(6,.ptr 0 0)],[some (.box [dL a,dI t.1,dI t.2])]⟩)))) := .of fun K h => by
  simp only [N3t,wpW] at h
  exact .of (by kernel_rfl) h
theorem Nxb (a : List Int) (b c : Int) : Link N4i LL (cq [1,1,1] (bodyOf Tryd.f50)) (aq [1,1,1] N1r) ⟨mkE 18 0 [(6,.ptr 0 0)],[some (.box [dL a,dI b,dI c])]⟩ (N7n c) (fun (t : Int × Bool) => (Exit.ret,⟨mkE 18 0 [(4,dI t.1),(5,dB t.2)],[]⟩)) := .of fun K h => by
  simp only [N7n,wpW] at h
  exact .of (by kernel_rfl) h
theorem Nn9 (b : List Int) (d : Int) {r : AV} {H' : Heap} (h : (Ans.mk _ (N3g b d) (fun (t : Int × Bool) => (.tup [dI t.1,dB t.2],[])) [] none).run = some (r,H')) : Awp N4i LL (bodyOf Tryd.f50) N1r ⟨mkE 18 0 [(0,dL b),(1,dI d)],[]⟩ (Ret (tlook tys) Tryd.f50.results.toList r H') :=
  ret_of' (Link.cast (by kernel_rfl) (by kernel_rfl) (link_group (c := (cq [0,1] (bodyOf Tryd.f50))) (a := (aq [0,1] N1r)) [(cq [0] (bodyOf Tryd.f50))] [(aq [0] N1r)] rfl (link_seq (Nqn b d) (fun (t : Unit) => (link_seq2 (link_block (fin2 := (Sum.elim (fun (t : Int × Int) => (Exit.normal,⟨mkE 18 0 [(6,.ptr 0 0)],[some (.box [dL b,dI t.1,dI t.2])]⟩)) (fun (t : Int × Bool) => (Exit.ret,⟨mkE 18 0 [(4,dI t.1),(5,dB t.2)],[]⟩)))) (id := 0) (link_loop (mk := fun (s : Int × Int) => ⟨mkE 18 0 [(0,dL b),(6,.ptr 0 0)],[some (.box [dL b,dI s.1,dI s.2])]⟩) (fin := (Sum.elim (fun (t : Int × Bool) => (Exit.ret,⟨mkE 18 0 [(4,dI t.1),(5,dB t.2)],[]⟩)) (fun (t : Int × Int) => ((Exit.exit 0),⟨mkE 18 0 [(6,.ptr 0 0)],[some (.box [dL b,dI t.1,dI t.2])]⟩)))) (by
  rintro (t | t) f K h
  · exact h
  · exact h) (fun s => link_map (Nt3 b s.1 s.2) (Sum.elim (fun (t : Int × Int) => Sum.inl (t.1,t.2)) (Sum.elim (fun (t : Int × Bool) => Sum.inr (Sum.inl t)) (fun (t : Int × Int) => Sum.inr (Sum.inr t)))) (by
  rintro (t | t | t)
  · kernel_rfl
  · kernel_rfl
  · kernel_rfl)) (d,0)) (Sum.elim (fun (t : Int × Bool) => (Sum.inr t)) (fun (t : Int × Int) => (Sum.inl (t.1,t.2)))) (by
  rintro (t | t) K h
  · exact Eq.mp (by kernel_rfl) h
  · exact Eq.mp (by kernel_rfl) h)) (fun (t : Int × Int) => (Nxb b t.1 t.2)) (fun (t : Int × Bool) => t) (by
  rintro t
  · kernel_rfl) (by
  rintro t f K h
  · exact h)))))) (by unfold N3g; kernel_rfl) (by
  intro t
  exact ret_mk [dI t.1,dB t.2] (by kernel_rfl) (by kernel_rfl) (by kernel_rfl) (by kernel_rfl)) h
def Ndq : Fun := fun avs H =>
  match avs,H with
  | [.dat (.list (.int .i64)) a,.dat (.int .i64) b],[] => ⟨_,N3g a b,fun (t : Int × Bool) => (.tup [dI t.1,dB t.2],[]),[],none⟩
  | _,_ => Ans.no
theorem Nli : Sound Tryd.prog 50 Ndq := by
  refine fn_sound' (C := N4i) (c := bodyOf Tryd.f50) (cok_of tys_ok (allc Ngh alln) (allc Tryd.call64 alln) (by kernel_rfl)) Tryd.func50 (by kernel_rfl) LL N1r ?_
  intro avs H r H' h
  unfold Ndq at h
  split at h
  · refine Awp.cast ?_ ?_ ?_ (Nn9 _ _ h) <;> kernel_rfl
  · simp [Ans.no,Ans.run] at h

def N1m : Ann := (.seq (.leaf [0]) (.seq (.seq (.leaf [0,18]) (.cond (.seq (.leaf [2]) (.leaf [2])) (.leaf [0]))) (.seq (.seq (.leaf [0,20,21]) (.block (.loop (.seq (.leaf [0,20,21,22]) (.seq (.cond (.leaf [0,20,21]) (.leaf [])) (.seq (.block (.seq (.leaf [0,3,20,21]) (.seq (.leaf [0,5,20,21]) (.seq (.leaf [0,20,21,32]) (.cond (.seq (.leaf [2]) (.leaf [2])) (.leaf [0,20,21])))))) (.leaf [0,20,21]))))))) (.seq (.leaf [2]) (.leaf [2])))))
noncomputable def N3k : Ctx := ⟨tlook tys,olook [(49,Ncr),(50,Ndq)],ioF,0,false,[]⟩
theorem Ntb (a : List Int) : Link N3k LL (Code.seq (cq [0] (bodyOf Tryd.f30)) (cq [0,1] (bodyOf Tryd.f30))) (Ann.seq (aq [0] N1m) (aq [0,1] N1m)) ⟨mkE 34 0 [(0,dL a)],[]⟩ (N6j a) (Sum.elim (fun (t : Unit) => (Exit.normal,⟨mkE 34 0 [(0,dL a)],[]⟩)) (fun (t : Bool) => (Exit.ret,⟨mkE 34 0 [(2,dB t)],[]⟩))) := .of fun K h => by
  simp only [N6j,wpW] at h
  exact .of (by kernel_rfl) h
theorem Niq (a : List Int) : Link N3k LL (cq [0,0,1,1] (bodyOf Tryd.f30)) (aq [0,0,1,1] N1m) ⟨mkE 34 0 [(0,dL a)],[]⟩ (N71 a) (fun (t : Int) => (Exit.normal,⟨mkE 34 0 [(0,dL a),(20,dI t),(21,dI 0)],[]⟩)) := .of fun K h => by
  simp only [N71,wpW] at h
  exact .of (by kernel_rfl) h
theorem Npp (a : List Int) (b c : Int) : Link N3k LL (cq [0,0,1,0,1,1] (bodyOf Tryd.f30)) (aq [0,0,1,0,1,1] N1m) ⟨mkE 34 0 [(0,dL a),(20,dI b),(21,dI c)],[]⟩ (N2r a b c) (Sum.elim (fun (t : Int) => (Exit.normal,⟨mkE 34 0 [(0,dL a),(20,dI b),(21,dI t)],[]⟩)) (Sum.elim (fun (t : Bool) => (Exit.ret,⟨mkE 34 0 [(2,dB t)],[]⟩)) (fun (t : Unit) => ((Exit.exit 0),⟨mkE 34 0 [],[]⟩)))) := .of fun K h => by
  simp only [N2r,wpW] at h
  exact .of (by kernel_rfl) h
theorem Ntk : Link N3k LL (cq [1,1,1] (bodyOf Tryd.f30)) (aq [1,1,1] N1m) ⟨mkE 34 0 [],[]⟩ (N91) (fun (t : Bool) => (Exit.ret,⟨mkE 34 0 [(2,dB t)],[]⟩)) := .of fun K h => by
  simp only [N91,wpW] at h
  exact .of (by kernel_rfl) h
theorem Nsm (b : List Int) {r : AV} {H' : Heap} (h : (Ans.mk _ (N4 b) (fun (t : Bool) => (dB t,[])) [] none).run = some (r,H')) : Awp N3k LL (bodyOf Tryd.f30) N1m ⟨mkE 34 0 [(0,dL b)],[]⟩ (Ret (tlook tys) Tryd.f30.results.toList r H') :=
  ret_of' (Link.cast (by kernel_rfl) (by kernel_rfl) (link_group (c := (cq [0,1] (bodyOf Tryd.f30))) (a := (aq [0,1] N1m)) [(cq [0] (bodyOf Tryd.f30))] [(aq [0] N1m)] rfl (link_seq2 (Ntb b) (fun (t : Unit) => (link_seq2 (link_seq (Niq b) (fun (t : Int) => (link_block (fin2 := (Sum.elim (fun (t14 : Unit) => (Exit.normal,⟨mkE 34 0 [],[]⟩)) (fun (t14 : Bool) => (Exit.ret,⟨mkE 34 0 [(2,dB t14)],[]⟩)))) (id := 0) (link_loop (mk := fun (s : Int) => ⟨mkE 34 0 [(0,dL b),(20,dI t),(21,dI s)],[]⟩) (fin := (Sum.elim (fun (t14 : Bool) => (Exit.ret,⟨mkE 34 0 [(2,dB t14)],[]⟩)) (fun (t14 : Unit) => ((Exit.exit 0),⟨mkE 34 0 [],[]⟩)))) (by
  rintro (t14 | t14) f K h
  · exact h
  · exact h) (fun s => link_map (Npp b t s) (Sum.elim (fun (t14 : Int) => Sum.inl t14) (Sum.elim (fun (t14 : Bool) => Sum.inr (Sum.inl t14)) (fun (t14 : Unit) => Sum.inr (Sum.inr t14)))) (by
  rintro (t14 | t14 | t14)
  · kernel_rfl
  · kernel_rfl
  · kernel_rfl)) 0) (Sum.elim (fun (t14 : Bool) => (Sum.inr t14)) (fun (t14 : Unit) => (Sum.inl ()))) (by
  rintro (t14 | t14) K h
  · exact Eq.mp (by kernel_rfl) h
  · exact Eq.mp (by kernel_rfl) h)))) (fun (t : Unit) => (Ntk)) (fun (t : Bool) => t) (by
  rintro t
  · kernel_rfl) (by
  rintro t f K h
  · exact h))) (fun (t : Bool) => t) (by
  rintro t
  · kernel_rfl) (by
  rintro t f K h
  · exact h)))) (by unfold N4; kernel_rfl) (by
  intro t
  exact ret_mk [dB t] (by kernel_rfl) (by kernel_rfl) (by kernel_rfl) (by kernel_rfl)) h
def Nv : Fun := fun avs H =>
  match avs,H with
  | [.dat (.list (.int .i64)) a],[] => ⟨_,N4 a,fun (t : Bool) => (dB t,[]),[],none⟩
  | _,_ => Ans.no
theorem N1y : Sound Tryd.prog 30 Nv := by
  refine fn_sound' (C := N3k) (c := bodyOf Tryd.f30) (cok_of tys_ok (allc Nl4 (allc Nli alln)) (allc Tryd.call49 (allc Tryd.call50 alln)) (by kernel_rfl)) Tryd.func30 (by kernel_rfl) LL N1m ?_
  intro avs H r H' h
  unfold Nv at h
  split at h
  · refine Awp.cast ?_ ?_ ?_ (Nsm _ h) <;> kernel_rfl
  · simp [Ans.no,Ans.run] at h

def N1i : Ann := (.seq (.leaf [1]) (.seq (.seq (.leaf [1,14]) (.cond (.seq (.leaf [2]) (.leaf [2])) (.leaf [1]))) (.seq (.seq (.leaf [16,17,18]) (.block (.loop (.seq (.leaf [16,17,18,19]) (.seq (.cond (.leaf [16,17,18]) (.leaf [])) (.seq (.block (.seq (.leaf [4,16,17,18]) (.seq (.leaf [16,17,18,24]) (.cond (.seq (.leaf [2]) (.leaf [2])) (.leaf [16,17,18]))))) (.leaf [16,17,18]))))))) (.seq (.leaf [2]) (.leaf [2])))))
noncomputable def N3b : Ctx := ⟨tlook tys,olook [(30,Nv)],ioF,0,false,[]⟩
theorem Nvq (a : List Int) (b : List (List Int)) : Link N3b LL (Code.seq (cq [0] (bodyOf Tryd.f9)) (cq [0,1] (bodyOf Tryd.f9))) (Ann.seq (aq [0] N1i) (aq [0,1] N1i)) ⟨mkE 26 0 [(0,.agg [dL a,.dat (.list (.list (.int .i64))) b])],[]⟩ (N6a a b) (Sum.elim (fun (t : Unit) => (Exit.normal,⟨mkE 26 0 [(1,.ptr 0 0)],[some (.box [dL a,.dat (.list (.list (.int .i64))) b])]⟩)) (fun (t : Bool) => (Exit.ret,⟨mkE 26 0 [(2,dB t)],[]⟩))) := .of fun K h => by
  simp only [N6a,wpW] at h
  exact .of (by kernel_rfl) h
theorem Njl (a : List Int) (b : List (List Int)) : Link N3b LL (cq [0,0,1,1] (bodyOf Tryd.f9)) (aq [0,0,1,1] N1i) ⟨mkE 26 0 [(1,.ptr 0 0)],[some (.box [dL a,.dat (.list (.list (.int .i64))) b])]⟩ (N5p b) (fun (t : Int) => (Exit.normal,⟨mkE 26 0 [(16,.dat (.list (.list (.int .i64))) b),(17,dI t),(18,dI 0)],[]⟩)) := .of fun K h => by
  simp only [N5p,wpW] at h
  exact .of (by kernel_rfl) h
theorem Nxe (a : List (List Int)) (b c : Int) : Link N3b LL (cq [0,0,1,0,1,1] (bodyOf Tryd.f9)) (aq [0,0,1,0,1,1] N1i) ⟨mkE 26 0 [(16,.dat (.list (.list (.int .i64))) a),(17,dI b),(18,dI c)],[]⟩ (N24 a b c) (Sum.elim (fun (t : Int) => (Exit.normal,⟨mkE 26 0 [(16,.dat (.list (.list (.int .i64))) a),(17,dI b),(18,dI t)],[]⟩)) (Sum.elim (fun (t : Bool) => (Exit.ret,⟨mkE 26 0 [(2,dB t)],[]⟩)) (fun (t : Unit) => ((Exit.exit 0),⟨mkE 26 0 [],[]⟩)))) := .of fun K h => by
  simp only [N24,wpW] at h
  exact .of (by kernel_rfl) h
theorem Ni2 : Link N3b LL (cq [1,1,1] (bodyOf Tryd.f9)) (aq [1,1,1] N1i) ⟨mkE 26 0 [],[]⟩ (N86) (fun (t : Bool) => (Exit.ret,⟨mkE 26 0 [(2,dB t)],[]⟩)) := .of fun K h => by
  simp only [N86,wpW] at h
  exact .of (by kernel_rfl) h
theorem Nu5 (b : List Int) (d : List (List Int)) {r : AV} {H' : Heap} (h : (Ans.mk _ (Nj b d) (fun (t : Bool) => (dB t,[])) [] none).run = some (r,H')) : Awp N3b LL (bodyOf Tryd.f9) N1i ⟨mkE 26 0 [(0,.agg [dL b,.dat (.list (.list (.int .i64))) d])],[]⟩ (Ret (tlook tys) Tryd.f9.results.toList r H') :=
  ret_of' (Link.cast (by kernel_rfl) (by kernel_rfl) (link_group (c := (cq [0,1] (bodyOf Tryd.f9))) (a := (aq [0,1] N1i)) [(cq [0] (bodyOf Tryd.f9))] [(aq [0] N1i)] rfl (link_seq2 (Nvq b d) (fun (t : Unit) => (link_seq2 (link_seq (Njl b d) (fun (t : Int) => (link_block (fin2 := (Sum.elim (fun (t15 : Unit) => (Exit.normal,⟨mkE 26 0 [],[]⟩)) (fun (t15 : Bool) => (Exit.ret,⟨mkE 26 0 [(2,dB t15)],[]⟩)))) (id := 0) (link_loop (mk := fun (s : Int) => ⟨mkE 26 0 [(16,.dat (.list (.list (.int .i64))) d),(17,dI t),(18,dI s)],[]⟩) (fin := (Sum.elim (fun (t15 : Bool) => (Exit.ret,⟨mkE 26 0 [(2,dB t15)],[]⟩)) (fun (t15 : Unit) => ((Exit.exit 0),⟨mkE 26 0 [],[]⟩)))) (by
  rintro (t15 | t15) f K h
  · exact h
  · exact h) (fun s => link_map (Nxe d t s) (Sum.elim (fun (t15 : Int) => Sum.inl t15) (Sum.elim (fun (t15 : Bool) => Sum.inr (Sum.inl t15)) (fun (t15 : Unit) => Sum.inr (Sum.inr t15)))) (by
  rintro (t15 | t15 | t15)
  · kernel_rfl
  · kernel_rfl
  · kernel_rfl)) 0) (Sum.elim (fun (t15 : Bool) => (Sum.inr t15)) (fun (t15 : Unit) => (Sum.inl ()))) (by
  rintro (t15 | t15) K h
  · exact Eq.mp (by kernel_rfl) h
  · exact Eq.mp (by kernel_rfl) h)))) (fun (t : Unit) => (Ni2)) (fun (t : Bool) => t) (by
  rintro t
  · kernel_rfl) (by
  rintro t f K h
  · exact h))) (fun (t : Bool) => t) (by
  rintro t
  · kernel_rfl) (by
  rintro t f K h
  · exact h)))) (by unfold Nj; kernel_rfl) (by
  intro t
  exact ret_mk [dB t] (by kernel_rfl) (by kernel_rfl) (by kernel_rfl) (by kernel_rfl)) h
def N4l : Fun := fun avs H =>
  match avs,H with
  | [.agg [.dat (.list (.int .i64)) a,.dat (.list (.list (.int .i64))) b]],[] => ⟨_,Nj a b,fun (t : Bool) => (dB t,[]),[],none⟩
  | _,_ => Ans.no
theorem Nd8 : Sound Tryd.prog 9 N4l := by
  refine fn_sound' (C := N3b) (c := bodyOf Tryd.f9) (cok_of tys_ok (allc N1y alln) (allc Tryd.call30 alln) (by kernel_rfl)) Tryd.func9 (by kernel_rfl) LL N1i ?_
  intro avs H r H' h
  unfold N4l at h
  split at h
  · refine Awp.cast ?_ ?_ ?_ (Nu5 _ _ h) <;> kernel_rfl
  · simp [Ans.no,Ans.run] at h

def N8k : Ann := (.seq (.leaf [0]) (.seq (.seq (.leaf [3]) (.block (.seq (.leaf [3,4]) (.cond (.seq (.leaf [2]) (.leaf [2])) (.seq (.leaf [6]) (.cond (.seq (.leaf [2]) (.leaf [2])) (.leaf []))))))) (.seq (.leaf [2]) (.leaf [2]))))
noncomputable def Ncx : Ctx := ⟨tlook tys,olook [],ioF,0,false,[]⟩
theorem Nim (a : Int) : Link Ncx LL (bodyOf Tryd.f41) N8k ⟨mkE 8 0 [(0,dI a)],[]⟩ (Nch a) (fun (t : Int) => (Exit.ret,⟨mkE 8 0 [(2,dI t)],[]⟩)) := .of fun K h => by
  simp only [Nch,wpW] at h
  exact .of (by kernel_rfl) h
theorem Nt5 (a : Int) {r : AV} {H' : Heap} (h : (Ans.mk _ (N6z a) (fun (t : Int) => (dI t,[])) [] none).run = some (r,H')) : Awp Ncx LL (bodyOf Tryd.f41) N8k ⟨mkE 8 0 [(0,dI a)],[]⟩ (Ret (tlook tys) Tryd.f41.results.toList r H') :=
  ret_of' (Nim a) (by unfold N6z; kernel_rfl) (by
  intro t
  exact ret_mk [dI t] (by kernel_rfl) (by kernel_rfl) (by kernel_rfl) (by kernel_rfl)) h
def Nda : Fun := fun avs H =>
  match avs,H with
  | [.dat (.int .i64) a],[] => ⟨_,N6z a,fun (t : Int) => (dI t,[]),[],none⟩
  | _,_ => Ans.no
theorem Nwo : Sound Tryd.prog 41 Nda := by
  refine fn_sound' (C := Ncx) (c := bodyOf Tryd.f41) (cok_of tys_ok (alln) (alln) (by kernel_rfl)) Tryd.func41 (by kernel_rfl) LL N8k ?_
  intro avs H r H' h
  unfold Nda at h
  split at h
  · refine Awp.cast ?_ ?_ ?_ (Nt5 _ h) <;> kernel_rfl
  · simp [Ans.no,Ans.run] at h

def N85 : Ann := (.seq (.leaf [1]) (.seq (.leaf [1,3]) (.seq (.leaf [2]) (.leaf [2]))))
noncomputable def N81 : Ctx := ⟨tlook tys,olook [(41,Nda)],ioF,0,false,[]⟩
theorem Nox (a b c : Int) : Link N81 LL (bodyOf Tryd.f21) N85 ⟨mkE 23 0 [(0,.agg [dI a,dI b,dI c])],[]⟩ (Nag a b c) (fun (t : Bool) => (Exit.ret,⟨mkE 23 0 [(2,dB t)],[]⟩)) := .of fun K h => by
  simp only [Nag,wpW] at h
  exact .of (by kernel_rfl) h
theorem Nht (a b c : Int) {r : AV} {H' : Heap} (h : (Ans.mk _ (N5e a b c) (fun (t : Bool) => (dB t,[])) [] none).run = some (r,H')) : Awp N81 LL (bodyOf Tryd.f21) N85 ⟨mkE 23 0 [(0,.agg [dI a,dI b,dI c])],[]⟩ (Ret (tlook tys) Tryd.f21.results.toList r H') :=
  ret_of' (Nox a b c) (by unfold N5e; kernel_rfl) (by
  intro t
  exact ret_mk [dB t] (by kernel_rfl) (by kernel_rfl) (by kernel_rfl) (by kernel_rfl)) h
def Nah : Fun := fun avs H =>
  match avs,H with
  | [.agg [.dat (.int .i64) a,.dat (.int .i64) b,.dat (.int .i64) c]],[] => ⟨_,N5e a b c,fun (t : Bool) => (dB t,[]),[],none⟩
  | _,_ => Ans.no
theorem Nwq : Sound Tryd.prog 21 Nah := by
  refine fn_sound' (C := N81) (c := bodyOf Tryd.f21) (cok_of tys_ok (allc Nwo alln) (allc Tryd.call41 alln) (by kernel_rfl)) Tryd.func21 (by kernel_rfl) LL N85 ?_
  intro avs H r H' h
  unfold Nah at h
  split at h
  · refine Awp.cast ?_ ?_ ?_ (Nht _ _ _ h) <;> kernel_rfl
  · simp [Ans.no,Ans.run] at h

def ren_slices_Clone_int_int : Go.Shelf.Ren := ⟨fun | 41 => 42 | n => n,fun | 4 => 4 | 22 => 23 | 23 => 3 | n => n,fun n => n⟩
theorem lay_slices_Clone_int_int : SlLaysE0.n41 Tryd.prog ren_slices_Clone_int_int := {
  mixed := by kernel_rfl
  f41 := ⟨Tryd.f42.name,by kernel_rfl,Tryd.func42.trans (congrArg some (by kernel_rfl))⟩
  t4 := Tryd.underlying4
  a4 := Tryd.isAgg4
  z4 := Tryd.sizeOf4
  v4 := Tryd.zeroValue4
  t22 := Tryd.underlying23
  a22 := Tryd.isAgg23
  z22 := Tryd.sizeOf23
  v22 := Tryd.zeroValue23 }
def N8n : Fun := F_cloneD
theorem Nh4 : Sound Tryd.prog 42 N8n := cloneD_sound lay_slices_Clone_int_int (infoOf (Tryd.prog.info? 3)) (.int .i64 0) 8 (by kernel_rfl) (by kernel_rfl) (by kernel_rfl) (by kernel_rfl) (by kernel_rfl) (by decide) Tryd.sizeOf3

def N1e : Ann := (.seq (.leaf [0,1,4]) (.seq (.leaf [1,4,5]) (.seq (.seq (.leafF [⟨3,5,true,some 1,some (.int .i64)⟩] [4,5,11,12,13]) (.block (.loop (.seq (.leaf [4,5,11,12,13,14]) (.seq (.cond (.leaf [4,5,11,12,13]) (.leaf [4,5])) (.seq (.block (.seq (.leaf [4,5,7,11,12,13]) (.draw [3,100005] [0,1,2,3,4,5,6,7] [] [4,5,11,12,13]))) (.leaf [4,5,11,12,13]))))))) (.seq (.leaf [4]) (.leaf [4])))))
noncomputable def N2s : Ctx := ⟨tlook tys,olook [(42,N8n)],ioF,0,true,[]⟩
theorem Nxc (a : List Int) (b : List (List Int)) : Link N2s LL (Code.seq (cq [0] (bodyOf Tryd.f22)) (cq [0,1] (bodyOf Tryd.f22))) (Ann.seq (aq [0] N1e) (aq [0,1] N1e)) ⟨mkE 26 0 [(0,dL a),(1,.dat (.list (.list (.int .i64))) b)],[]⟩ (Ncl a) (fun (t : (List Int)) => (Exit.normal,⟨mkE 26 0 [(1,.dat (.list (.list (.int .i64))) b),(4,.ptr 0 0),(5,.ptr 1 0)],[some (.box [.nils,.nils]),some (.box [.slc 2,.nils]),some (sI t)]⟩)) := .of fun K h => by
  simp only [Ncl,wpW] at h
  exact .of (by kernel_rfl) h
theorem Nw9 (a : List (List Int)) (b : List Int) : Link N2s LL (cq [0,0,1,1] (bodyOf Tryd.f22)) (aq [0,0,1,1] N1e) ⟨mkE 26 0 [(1,.dat (.list (.list (.int .i64))) a),(4,.ptr 0 0),(5,.ptr 1 0)],[some (.box [.nils,.nils]),some (.box [.slc 2,.nils]),some (sI b)]⟩ (Ndf a) (fun (t : Int) => (Exit.normal,⟨mkE 26 0 [(4,.ptr 0 0),(5,.ptr 1 0),(11,.dat (.list (.list (.int .i64))) a),(12,dI t),(13,dI 0)],[some (.box [.nils,.nils]),some (.box [.slc 2,.slc 3]),some (sI b),some (.nest (.int .i64) ([] : List (List Int)) 0 [])]⟩)) := .of fun K h => by
  simp only [Ndf,wpW] at h
  exact .of (by kernel_rfl) h
theorem Njk (a : List (List Int)) (b c : Int) (d : List Int) (g : List (List Int)) : Link N2s LL (cq [0,0,1,0,1,1] (bodyOf Tryd.f22)) (aq [0,0,1,0,1,1] N1e) ⟨mkE 26 0 [(4,.ptr 0 0),(5,.ptr 1 0),(11,.dat (.list (.list (.int .i64))) a),(12,dI b),(13,dI c)],[some (.box [.nils,.nils]),some (.box [.slc 2,.slc 3]),some (sI d),some (.nest (.int .i64) g 0 [])]⟩ (Nba a b c g) (Sum.elim (fun (t : Int × (List (List Int))) => (Exit.normal,⟨mkE 26 0 [(4,.ptr 0 0),(5,.ptr 1 0),(11,.dat (.list (.list (.int .i64))) a),(12,dI b),(13,dI t.1)],[some (.box [.nils,.nils]),some (.box [.slc 2,.slc 3]),some (sI d),some (.nest (.int .i64) t.2 0 [])]⟩)) (fun (t : (List (List Int))) => ((Exit.exit 0),⟨mkE 26 0 [(4,.ptr 0 0),(5,.ptr 1 0)],[some (.box [.nils,.nils]),some (.box [.slc 2,.slc 3]),some (sI d),some (.nest (.int .i64) t 0 [])]⟩))) := .of fun K h => by
  simp only [Nba,wpW] at h
  exact .of (by kernel_rfl) h
theorem Npu (a : List Int) (b : List (List Int)) : Link N2s LL (cq [1,1,1] (bodyOf Tryd.f22)) (aq [1,1,1] N1e) ⟨mkE 26 0 [(4,.ptr 0 0),(5,.ptr 1 0)],[some (.box [.nils,.nils]),some (.box [.slc 2,.slc 3]),some (sI a),some (.nest (.int .i64) b 0 [])]⟩ (Nb0 a b) (fun (t : (List Int) × (List (List Int))) => (Exit.ret,⟨mkE 26 0 [(4,.ptr 0 0)],[some (.box [.slc 1,.slc 2]),some (sI t.1),some (.nest (.int .i64) t.2 0 [])]⟩)) := .of fun K h => by
  simp only [Nb0,wpW] at h
  exact .of (by kernel_rfl) h
theorem Nkt (b : List Int) (d : List (List Int)) {r : AV} {H' : Heap} (h : (Ans.mk _ (Nq b d) (fun (t : (List Int) × (List (List Int))) => (.agg [.slc 1,.slc 2],[some (.box [.slc 1,.slc 2]),some (sI t.1),some (.nest (.int .i64) t.2 0 [])])) [] none).run = some (r,H')) : Awp N2s LL (bodyOf Tryd.f22) N1e ⟨mkE 26 0 [(0,dL b),(1,.dat (.list (.list (.int .i64))) d)],[]⟩ (Ret (tlook tys) Tryd.f22.results.toList r H') :=
  ret_of' (Link.cast (by kernel_rfl) (by kernel_rfl) (link_group (c := (cq [0,1] (bodyOf Tryd.f22))) (a := (aq [0,1] N1e)) [(cq [0] (bodyOf Tryd.f22))] [(aq [0] N1e)] rfl (link_seq (Nxc b d) (fun (t : (List Int)) => (link_seq (link_seq (Nw9 d t) (fun (t37 : Int) => (link_block (fin2 := (fun (t16 : (List (List Int))) => (Exit.normal,⟨mkE 26 0 [(4,.ptr 0 0),(5,.ptr 1 0)],[some (.box [.nils,.nils]),some (.box [.slc 2,.slc 3]),some (sI t),some (.nest (.int .i64) t16 0 [])]⟩))) (id := 0) (link_loop (mk := fun (s : Int × (List (List Int))) => ⟨mkE 26 0 [(4,.ptr 0 0),(5,.ptr 1 0),(11,.dat (.list (.list (.int .i64))) d),(12,dI t37),(13,dI s.1)],[some (.box [.nils,.nils]),some (.box [.slc 2,.slc 3]),some (sI t),some (.nest (.int .i64) s.2 0 [])]⟩) (fin := (fun (t16 : (List (List Int))) => ((Exit.exit 0),⟨mkE 26 0 [(4,.ptr 0 0),(5,.ptr 1 0)],[some (.box [.nils,.nils]),some (.box [.slc 2,.slc 3]),some (sI t),some (.nest (.int .i64) t16 0 [])]⟩))) (by
  rintro t16 f K h
  · exact h) (fun s => link_map (Njk d t37 s.1 t s.2) (Sum.elim (fun (t16 : Int × (List (List Int))) => Sum.inl (t16.1,t16.2)) (fun (t16 : (List (List Int))) => Sum.inr t16)) (by
  rintro (t16 | t16)
  · kernel_rfl
  · kernel_rfl)) (0,([] : List (List Int)))) (fun (t16 : (List (List Int))) => t16) (by
  rintro t16 K h
  · exact Eq.mp (by kernel_rfl) h)))) (fun (t37 : (List (List Int))) => (Npu t t37))))))) (by unfold Nq; kernel_rfl) (by
  intro t
  exact ret_mk [.agg [.slc 1,.slc 2]] (by kernel_rfl) (by kernel_rfl) (by kernel_rfl) (by kernel_rfl)) h
def N2l : Fun := fun avs H =>
  match avs,H with
  | [.dat (.list (.int .i64)) a,.dat (.list (.list (.int .i64))) b],[] => ⟨_,Nq a b,fun (t : (List Int) × (List (List Int))) => (.agg [.slc 1,.slc 2],[some (.box [.slc 1,.slc 2]),some (sI t.1),some (.nest (.int .i64) t.2 0 [])]),[],none⟩
  | _,_ => Ans.no
theorem N4t : Sound Tryd.prog 22 N2l := by
  refine fn_sound' (C := N2s) (c := bodyOf Tryd.f22) (cok_of tys_ok (allc Nh4 alln) (allc Tryd.call42 alln) (by kernel_rfl)) Tryd.func22 (by kernel_rfl) LL N1e ?_
  intro avs H r H' h
  unfold N2l at h
  split at h
  · refine Awp.cast ?_ ?_ ?_ (Nkt _ _ h) <;> kernel_rfl
  · simp [Ans.no,Ans.run] at h

def N9y : Ann := (.seq (.leaf [1,2]) (.seq (.leaf [1,2,4]) (.seq (.seq (.leaf [1,2,4,10]) (.cond (.seq (.leaf [2,3]) (.leaf [2,3])) (.leaf [1,2,4]))) (.seq (.draw [9] [0,1,2,3,4,5,6,7,8,9,10,11] [] [2,3]) (.leaf [2,3])))))
noncomputable def Nbz : Ctx := ⟨tlook tys,olook [(22,N2l)],ioF,0,true,[]⟩
theorem Nwr (a : List Int) (b : List (List Int)) : Link Nbz LL (bodyOf Tryd.f23) N9y ⟨mkE 24 0 [(0,.agg [dL a,.dat (.list (.list (.int .i64))) b])],[]⟩ (Naw a b) (fun (t : Bool × (List Int) × (List (List Int))) => (Exit.ret,⟨mkE 24 0 [(2,.ptr 0 0),(3,dB t.1)],[some (.box [.slc 1,.slc 2]),some (sI t.2.1),some (.nest (.int .i64) t.2.2 0 [])]⟩)) := .of fun K h => by
  simp only [Naw,wpW] at h
  exact .of (by kernel_rfl) h
theorem Nmt (a : List Int) (b : List (List Int)) {r : AV} {H' : Heap} (h : (Ans.mk _ (N7x a b) (fun (t : Bool × (List Int) × (List (List Int))) => (.tup [.agg [.slc 1,.slc 2],dB t.1],[some (.box [.slc 1,.slc 2]),some (sI t.2.1),some (.nest (.int .i64) t.2.2 0 [])])) [] none).run = some (r,H')) : Awp Nbz LL (bodyOf Tryd.f23) N9y ⟨mkE 24 0 [(0,.agg [dL a,.dat (.list (.list (.int .i64))) b])],[]⟩ (Ret (tlook tys) Tryd.f23.results.toList r H') :=
  ret_of' (Nwr a b) (by unfold N7x; kernel_rfl) (by
  intro t
  exact ret_mk [.agg [.slc 1,.slc 2],dB t.1] (by kernel_rfl) (by kernel_rfl) (by kernel_rfl) (by kernel_rfl)) h
def N9i : Fun := fun avs H =>
  match avs,H with
  | [.agg [.dat (.list (.int .i64)) a,.dat (.list (.list (.int .i64))) b]],[] => ⟨_,N7x a b,fun (t : Bool × (List Int) × (List (List Int))) => (.tup [.agg [.slc 1,.slc 2],dB t.1],[some (.box [.slc 1,.slc 2]),some (sI t.2.1),some (.nest (.int .i64) t.2.2 0 [])]),[],none⟩
  | _,_ => Ans.no
theorem Np5 : Sound Tryd.prog 23 N9i := by
  refine fn_sound' (C := Nbz) (c := bodyOf Tryd.f23) (cok_of tys_ok (allc N4t alln) (allc Tryd.call22 alln) (by kernel_rfl)) Tryd.func23 (by kernel_rfl) LL N9y ?_
  intro avs H r H' h
  unfold N9i at h
  split at h
  · refine Awp.cast ?_ ?_ ?_ (Nmt _ _ h) <;> kernel_rfl
  · simp [Ans.no,Ans.run] at h

def Ndz : Ann := (.seq (.leaf [0,1]) (.seq (.leaf [4]) (.leaf [4])))
noncomputable def N8v : Ctx := ⟨tlook tys,olook [(30,Nv)],ioF,0,false,[]⟩
theorem Np4 (a : List Int) (b : Int) : Link N8v LL (bodyOf Tryd.f60) Ndz ⟨mkE 17 0 [(0,dL a),(1,dI b)],[]⟩ (Nbd a b) (fun (t : Bool) => (Exit.ret,⟨mkE 17 0 [(4,dB t)],[]⟩)) := .of fun K h => by
  simp only [Nbd,wpW] at h
  exact .of (by kernel_rfl) h
theorem No4 (a : List Int) (b : Int) {r : AV} {H' : Heap} (h : (Ans.mk _ (N5r a b) (fun (t : Bool) => (dB t,[])) [] none).run = some (r,H')) : Awp N8v LL (bodyOf Tryd.f60) Ndz ⟨mkE 17 0 [(0,dL a),(1,dI b)],[]⟩ (Ret (tlook tys) Tryd.f60.results.toList r H') :=
  ret_of' (Np4 a b) (by unfold N5r; kernel_rfl) (by
  intro t
  exact ret_mk [dB t] (by kernel_rfl) (by kernel_rfl) (by kernel_rfl) (by kernel_rfl)) h
def N99 : Fun := fun avs H =>
  match avs,H with
  | [.dat (.list (.int .i64)) a,.dat (.int .i64) b],[] => ⟨_,N5r a b,fun (t : Bool) => (dB t,[]),[],none⟩
  | _,_ => Ans.no
theorem Nv8 : Sound Tryd.prog 60 N99 := by
  refine fn_sound' (C := N8v) (c := bodyOf Tryd.f60) (cok_of tys_ok (allc N1y alln) (allc Tryd.call30 alln) (by kernel_rfl)) Tryd.func60 (by kernel_rfl) LL Ndz ?_
  intro avs H r H' h
  unfold N99 at h
  split at h
  · refine Awp.cast ?_ ?_ ?_ (No4 _ _ h) <;> kernel_rfl
  · simp [Ans.no,Ans.run] at h

def Nx : Ann := (.seq (.leaf [0]) (.seq (.leaf [0,3]) (.seq (.seq (.leaf [0,3,8,9]) (.block (.loop (.seq (.leaf [0,3,8,9,10]) (.seq (.cond (.leaf [0,3,8,9]) (.leaf [3])) (.seq (.block (.seq (.leaf [0,3,4,8,9]) (.leaf [0,3,8,9]))) (.leaf [0,3,8,9]))))))) (.seq (.leaf [2]) (.leaf [2])))))
noncomputable def N35 : Ctx := ⟨tlook tys,olook [],ioF,0,false,[]⟩
theorem Nps (a : Int) : Link N35 LL (Code.seq (cq [0] (bodyOf Tryd.f71)) (cq [0,1] (bodyOf Tryd.f71))) (Ann.seq (aq [0] Nx) (aq [0,1] Nx)) ⟨mkE 20 0 [(0,dI a)],[]⟩ (Nbj a) (fun (t : (List Int)) => (Exit.normal,⟨mkE 20 0 [(0,dI a),(3,.slc 0)],[some (sI t)]⟩)) := .of fun K h => by
  simp only [Nbj,wpW] at h
  exact .of (by kernel_rfl) h
theorem Nww (a : Int) (b : List Int) : Link N35 LL (cq [0,0,1,1] (bodyOf Tryd.f71)) (aq [0,0,1,1] Nx) ⟨mkE 20 0 [(0,dI a),(3,.slc 0)],[some (sI b)]⟩ (Ndy b) (fun (t : Int) => (Exit.normal,⟨mkE 20 0 [(0,dI a),(3,.slc 0),(8,dI t),(9,dI 0)],[some (sI b)]⟩)) := .of fun K h => by
  simp only [Ndy,wpW] at h
  exact .of (by kernel_rfl) h
theorem Nii (a b c : Int) (d : List Int) : Link N35 LL (cq [0,0,1,0,1,1] (bodyOf Tryd.f71)) (aq [0,0,1,0,1,1] Nx) ⟨mkE 20 0 [(0,dI a),(3,.slc 0),(8,dI b),(9,dI c)],[some (sI d)]⟩ (Nbp a b c d) (Sum.elim (fun (t : Int × (List Int)) => (Exit.normal,⟨mkE 20 0 [(0,dI a),(3,.slc 0),(8,dI b),(9,dI t.1)],[some (sI t.2)]⟩)) (fun (t : (List Int)) => ((Exit.exit 0),⟨mkE 20 0 [(3,.slc 0)],[some (sI t)]⟩))) := .of fun K h => by
  simp only [Nbp,wpW] at h
  exact .of (by kernel_rfl) h
theorem Not (a : List Int) : Link N35 LL (cq [1,1,1] (bodyOf Tryd.f71)) (aq [1,1,1] Nx) ⟨mkE 20 0 [(3,.slc 0)],[some (sI a)]⟩ (Nb8 a) (fun (t : (List Int)) => (Exit.ret,⟨mkE 20 0 [(2,.slc 0)],[some (sI t)]⟩)) := .of fun K h => by
  simp only [Nb8,wpW] at h
  exact .of (by kernel_rfl) h
theorem Nl8 (b : Int) {r : AV} {H' : Heap} (h : (Ans.mk _ (N73 b) (fun (t : (List Int)) => (.slc 0,[some (sI t)])) [] none).run = some (r,H')) : Awp N35 LL (bodyOf Tryd.f71) Nx ⟨mkE 20 0 [(0,dI b)],[]⟩ (Ret (tlook tys) Tryd.f71.results.toList r H') :=
  ret_of' (Link.cast (by kernel_rfl) (by kernel_rfl) (link_group (c := (cq [0,1] (bodyOf Tryd.f71))) (a := (aq [0,1] Nx)) [(cq [0] (bodyOf Tryd.f71))] [(aq [0] Nx)] rfl (link_seq (Nps b) (fun (t : (List Int)) => (link_seq (link_seq (Nww b t) (fun (t38 : Int) => (link_block (fin2 := (fun (t17 : (List Int)) => (Exit.normal,⟨mkE 20 0 [(3,.slc 0)],[some (sI t17)]⟩))) (id := 0) (link_loop (mk := fun (s : Int × (List Int)) => ⟨mkE 20 0 [(0,dI b),(3,.slc 0),(8,dI t38),(9,dI s.1)],[some (sI s.2)]⟩) (fin := (fun (t17 : (List Int)) => ((Exit.exit 0),⟨mkE 20 0 [(3,.slc 0)],[some (sI t17)]⟩))) (by
  rintro t17 f K h
  · exact h) (fun s => link_map (Nii b t38 s.1 s.2) (Sum.elim (fun (t17 : Int × (List Int)) => Sum.inl (t17.1,t17.2)) (fun (t17 : (List Int)) => Sum.inr t17)) (by
  rintro (t17 | t17)
  · kernel_rfl
  · kernel_rfl)) (0,t)) (fun (t17 : (List Int)) => t17) (by
  rintro t17 K h
  · exact Eq.mp (by kernel_rfl) h)))) (fun (t38 : (List Int)) => (Not t38))))))) (by unfold N73; kernel_rfl) (by
  intro t
  exact ret_mk [.slc 0] (by kernel_rfl) (by kernel_rfl) (by kernel_rfl) (by kernel_rfl)) h
def Ncn : Fun := fun avs H =>
  match avs,H with
  | [.dat (.int .i64) a],[] => ⟨_,N73 a,fun (t : (List Int)) => (.slc 0,[some (sI t)]),[],none⟩
  | _,_ => Ans.no
theorem Nws : Sound Tryd.prog 71 Ncn := by
  refine fn_sound' (C := N35) (c := bodyOf Tryd.f71) (cok_of tys_ok (alln) (alln) (by kernel_rfl)) Tryd.func71 (by kernel_rfl) LL Nx ?_
  intro avs H r H' h
  unfold Ncn at h
  split at h
  · refine Awp.cast ?_ ?_ ?_ (Nl8 _ h) <;> kernel_rfl
  · simp [Ans.no,Ans.run] at h

def Nk : Ann := (.seq (.leaf [0,1]) (.seq (.seq (.leaf [0,1,19]) (.cond (.seq (.leaf [4]) (.leaf [4])) (.leaf [0,1]))) (.seq (.leaf [0,1,5]) (.seq (.seq (.leaf [1,5,20,21,22]) (.block (.loop (.seq (.leaf [1,5,20,21,22,23]) (.seq (.cond (.leaf [1,5,20,21,22]) (.leaf [])) (.seq (.block (.seq (.leaf [1,5,7,20,21,22]) (.seq (.seq (.leaf [1,5,7,20,21,22,37]) (.cond (.seq (.leaf [4]) (.leaf [4])) (.leaf [1,5,7,20,21,22]))) (.leaf [1,5,20,21,22])))) (.leaf [1,5,20,21,22]))))))) (.seq (.leaf [4]) (.leaf [4]))))))
noncomputable def N2t : Ctx := ⟨tlook tys,olook [],ioF,0,false,[]⟩
theorem Nly (a : List Int) (b : Int) : Link N2t LL (Code.seq (cq [0] (bodyOf Tryd.f77)) (Code.seq (cq [0,1] (bodyOf Tryd.f77)) (cq [0,1,1] (bodyOf Tryd.f77)))) (Ann.seq (aq [0] Nk) (Ann.seq (aq [0,1] Nk) (aq [0,1,1] Nk))) ⟨mkE 41 0 [(0,dL a),(1,dI b)],[]⟩ (Nce a b) (Sum.elim (fun (t : Unit) => (Exit.normal,⟨mkE 41 0 [(0,dL a),(1,dI b),(5,.ptr 0 0)],[some (.seq .bool (List.replicate 9 false))]⟩)) (fun (t : Bool) => (Exit.ret,⟨mkE 41 0 [(4,dB t)],[]⟩))) := .of fun K h => by
  simp only [Nce,wpW] at h
  exact .of (by kernel_rfl) h
theorem Nnv (a : List Int) (b : Int) : Link N2t LL (cq [0,0,1,1,1] (bodyOf Tryd.f77)) (aq [0,0,1,1,1] Nk) ⟨mkE 41 0 [(0,dL a),(1,dI b),(5,.ptr 0 0)],[some (.seq .bool (List.replicate 9 false))]⟩ (Nak a) (fun (t : Int) => (Exit.normal,⟨mkE 41 0 [(1,dI b),(5,.ptr 0 0),(20,dL a),(21,dI t),(22,dI 0)],[some (.seq .bool (List.replicate 9 false))]⟩)) := .of fun K h => by
  simp only [Nak,wpW] at h
  exact .of (by kernel_rfl) h
theorem Ns2 (a : Int) (b : List Int) (c d : Int) (g : List Bool) : Link N2t LL (cq [0,0,1,0,1,1,1] (bodyOf Tryd.f77)) (aq [0,0,1,0,1,1,1] Nk) ⟨mkE 41 0 [(1,dI a),(5,.ptr 0 0),(20,dL b),(21,dI c),(22,dI d)],[some (.seq .bool g)]⟩ (Nbe a b c d g) (Sum.elim (fun (t : Int × (List Bool)) => (Exit.normal,⟨mkE 41 0 [(1,dI a),(5,.ptr 0 0),(20,dL b),(21,dI c),(22,dI t.1)],[some (.seq .bool t.2)]⟩)) (Sum.elim (fun (t : Bool) => (Exit.ret,⟨mkE 41 0 [(4,dB t)],[]⟩)) (fun (t : Unit) => ((Exit.exit 0),⟨mkE 41 0 [],[]⟩)))) := .of fun K h => by
  simp only [Nbe,wpW] at h
  exact .of (by kernel_rfl) h
theorem Ns0 : Link N2t LL (cq [1,1,1,1] (bodyOf Tryd.f77)) (aq [1,1,1,1] Nk) ⟨mkE 41 0 [],[]⟩ (N8b) (fun (t : Bool) => (Exit.ret,⟨mkE 41 0 [(4,dB t)],[]⟩)) := .of fun K h => by
  simp only [N8b,wpW] at h
  exact .of (by kernel_rfl) h
theorem Npy (b : List Int) (d : Int) {r : AV} {H' : Heap} (h : (Ans.mk _ (N55 b d) (fun (t : Bool) => (dB t,[])) [] none).run = some (r,H')) : Awp N2t LL (bodyOf Tryd.f77) Nk ⟨mkE 41 0 [(0,dL b),(1,dI d)],[]⟩ (Ret (tlook tys) Tryd.f77.results.toList r H') :=
  ret_of' (Link.cast (by kernel_rfl) (by kernel_rfl) (link_group (c := (cq [0,1,1] (bodyOf Tryd.f77))) (a := (aq [0,1,1] Nk)) [(cq [0] (bodyOf Tryd.f77)),(cq [0,1] (bodyOf Tryd.f77))] [(aq [0] Nk),(aq [0,1] Nk)] rfl (link_seq2 (Nly b d) (fun (t : Unit) => (link_seq2 (link_seq (Nnv b d) (fun (t : Int) => (link_block (fin2 := (Sum.elim (fun (t18 : Unit) => (Exit.normal,⟨mkE 41 0 [],[]⟩)) (fun (t18 : Bool) => (Exit.ret,⟨mkE 41 0 [(4,dB t18)],[]⟩)))) (id := 0) (link_loop (mk := fun (s : Int × (List Bool)) => ⟨mkE 41 0 [(1,dI d),(5,.ptr 0 0),(20,dL b),(21,dI t),(22,dI s.1)],[some (.seq .bool s.2)]⟩) (fin := (Sum.elim (fun (t18 : Bool) => (Exit.ret,⟨mkE 41 0 [(4,dB t18)],[]⟩)) (fun (t18 : Unit) => ((Exit.exit 0),⟨mkE 41 0 [],[]⟩)))) (by
  rintro (t18 | t18) f K h
  · exact h
  · exact h) (fun s => link_map (Ns2 d b t s.1 s.2) (Sum.elim (fun (t18 : Int × (List Bool)) => Sum.inl (t18.1,t18.2)) (Sum.elim (fun (t18 : Bool) => Sum.inr (Sum.inl t18)) (fun (t18 : Unit) => Sum.inr (Sum.inr t18)))) (by
  rintro (t18 | t18 | t18)
  · kernel_rfl
  · kernel_rfl
  · kernel_rfl)) (0,(List.replicate 9 false))) (Sum.elim (fun (t18 : Bool) => (Sum.inr t18)) (fun (t18 : Unit) => (Sum.inl ()))) (by
  rintro (t18 | t18) K h
  · exact Eq.mp (by kernel_rfl) h
  · exact Eq.mp (by kernel_rfl) h)))) (fun (t : Unit) => (Ns0)) (fun (t : Bool) => t) (by
  rintro t
  · kernel_rfl) (by
  rintro t f K h
  · exact h))) (fun (t : Bool) => t) (by
  rintro t
  · kernel_rfl) (by
  rintro t f K h
  · exact h)))) (by unfold N55; kernel_rfl) (by
  intro t
  exact ret_mk [dB t] (by kernel_rfl) (by kernel_rfl) (by kernel_rfl) (by kernel_rfl)) h
def Ncs : Fun := fun avs H =>
  match avs,H with
  | [.dat (.list (.int .i64)) a,.dat (.int .i64) b],[] => ⟨_,N55 a b,fun (t : Bool) => (dB t,[]),[],none⟩
  | _,_ => Ans.no
theorem Nms : Sound Tryd.prog 77 Ncs := by
  refine fn_sound' (C := N2t) (c := bodyOf Tryd.f77) (cok_of tys_ok (alln) (alln) (by kernel_rfl)) Tryd.func77 (by kernel_rfl) LL Nk ?_
  intro avs H r H' h
  unfold Ncs at h
  split at h
  · refine Awp.cast ?_ ?_ ?_ (Npy _ _ h) <;> kernel_rfl
  · simp [Ans.no,Ans.run] at h

def N1l : Ann := (.seq (.leaf [0]) (.seq (.leaf [0,3]) (.seq (.seq (.leaf [3,10,11,12]) (.block (.loop (.seq (.leaf [3,10,11,12,13]) (.seq (.cond (.leaf [3,10,11,12]) (.leaf [3])) (.seq (.block (.seq (.leaf [3,4,5,10,11,12]) (.leaf [3,10,11,12]))) (.leaf [3,10,11,12]))))))) (.seq (.leaf [2]) (.leaf [2])))))
noncomputable def N2q : Ctx := ⟨tlook tys,olook [],ioF,0,false,[]⟩
theorem Ntv (a : List Int) : Link N2q LL (Code.seq (cq [0] (bodyOf Tryd.f78)) (cq [0,1] (bodyOf Tryd.f78))) (Ann.seq (aq [0] N1l) (aq [0,1] N1l)) ⟨mkE 24 0 [(0,dL a)],[]⟩ (Naf a) (fun (t : (List Int)) => (Exit.normal,⟨mkE 24 0 [(0,dL a),(3,.slc 0)],[some (sI t)]⟩)) := .of fun K h => by
  simp only [Naf,wpW] at h
  exact .of (by kernel_rfl) h
theorem Nrf (a b : List Int) : Link N2q LL (cq [0,0,1,1] (bodyOf Tryd.f78)) (aq [0,0,1,1] N1l) ⟨mkE 24 0 [(0,dL a),(3,.slc 0)],[some (sI b)]⟩ (Ndb a) (fun (t : Int) => (Exit.normal,⟨mkE 24 0 [(3,.slc 0),(10,dL a),(11,dI t),(12,dI 0)],[some (sI b)]⟩)) := .of fun K h => by
  simp only [Ndb,wpW] at h
  exact .of (by kernel_rfl) h
theorem Ntc (a : List Int) (b c : Int) (d : List Int) : Link N2q LL (cq [0,0,1,0,1,1] (bodyOf Tryd.f78)) (aq [0,0,1,0,1,1] N1l) ⟨mkE 24 0 [(3,.slc 0),(10,dL a),(11,dI b),(12,dI c)],[some (sI d)]⟩ (N2m a b c d) (Sum.elim (fun (t : Int × (List Int)) => (Exit.normal,⟨mkE 24 0 [(3,.slc 0),(10,dL a),(11,dI b),(12,dI t.1)],[some (sI t.2)]⟩)) (fun (t : (List Int)) => ((Exit.exit 0),⟨mkE 24 0 [(3,.slc 0)],[some (sI t)]⟩))) := .of fun K h => by
  simp only [N2m,wpW] at h
  exact .of (by kernel_rfl) h
theorem Nny (a : List Int) : Link N2q LL (cq [1,1,1] (bodyOf Tryd.f78)) (aq [1,1,1] N1l) ⟨mkE 24 0 [(3,.slc 0)],[some (sI a)]⟩ (Nbm a) (fun (t : (List Int)) => (Exit.ret,⟨mkE 24 0 [(2,.slc 0)],[some (sI t)]⟩)) := .of fun K h => by
  simp only [Nbm,wpW] at h
  exact .of (by kernel_rfl) h
theorem Nke (b : List Int) {r : AV} {H' : Heap} (h : (Ans.mk _ (N7s b) (fun (t : (List Int)) => (.slc 0,[some (sI t)])) [] none).run = some (r,H')) : Awp N2q LL (bodyOf Tryd.f78) N1l ⟨mkE 24 0 [(0,dL b)],[]⟩ (Ret (tlook tys) Tryd.f78.results.toList r H') :=
  ret_of' (Link.cast (by kernel_rfl) (by kernel_rfl) (link_group (c := (cq [0,1] (bodyOf Tryd.f78))) (a := (aq [0,1] N1l)) [(cq [0] (bodyOf Tryd.f78))] [(aq [0] N1l)] rfl (link_seq (Ntv b) (fun (t : (List Int)) => (link_seq (link_seq (Nrf b t) (fun (t39 : Int) => (link_block (fin2 := (fun (t19 : (List Int)) => (Exit.normal,⟨mkE 24 0 [(3,.slc 0)],[some (sI t19)]⟩))) (id := 0) (link_loop (mk := fun (s : Int × (List Int)) => ⟨mkE 24 0 [(3,.slc 0),(10,dL b),(11,dI t39),(12,dI s.1)],[some (sI s.2)]⟩) (fin := (fun (t19 : (List Int)) => ((Exit.exit 0),⟨mkE 24 0 [(3,.slc 0)],[some (sI t19)]⟩))) (by
  rintro t19 f K h
  · exact h) (fun s => link_map (Ntc b t39 s.1 s.2) (Sum.elim (fun (t19 : Int × (List Int)) => Sum.inl (t19.1,t19.2)) (fun (t19 : (List Int)) => Sum.inr t19)) (by
  rintro (t19 | t19)
  · kernel_rfl
  · kernel_rfl)) (0,t)) (fun (t19 : (List Int)) => t19) (by
  rintro t19 K h
  · exact Eq.mp (by kernel_rfl) h)))) (fun (t39 : (List Int)) => (Nny t39))))))) (by unfold N7s; kernel_rfl) (by
  intro t
  exact ret_mk [.slc 0] (by kernel_rfl) (by kernel_rfl) (by kernel_rfl) (by kernel_rfl)) h
def Nbq : Fun := fun avs H =>
  match avs,H with
  | [.dat (.list (.int .i64)) a],[] => ⟨_,N7s a,fun (t : (List Int)) => (.slc 0,[some (sI t)]),[],none⟩
  | _,_ => Ans.no
theorem Nil : Sound Tryd.prog 78 Nbq := by
  refine fn_sound' (C := N2q) (c := bodyOf Tryd.f78) (cok_of tys_ok (alln) (alln) (by kernel_rfl)) Tryd.func78 (by kernel_rfl) LL N1l ?_
  intro avs H r H' h
  unfold Nbq at h
  split at h
  · refine Awp.cast ?_ ?_ ?_ (Nke _ h) <;> kernel_rfl
  · simp [Ans.no,Ans.run] at h

def N9d : Ann := (.seq (.leaf [0,1]) (.seq (.leaf [3]) (.leaf [3])))
noncomputable def N9m : Ctx := ⟨tlook tys,olook [],ioF,2,false,[]⟩
theorem Nua (a : Int) (b : List Int) : Link N9m LL (bodyOf Tryd.f80) N9d ⟨mkE 8 0 [(0,dI a),(1,.ptr 0 0)],[some (.box [.slc 1]),some (sI b)]⟩ (N9x a b) (fun (t : Int) => (Exit.ret,⟨mkE 8 0 [(3,dI t)],[some (.box [.slc 1]),some (sI b)]⟩)) := .of fun K h => by
  simp only [N9x,wpW] at h
  exact .of (by kernel_rfl) h
theorem Npi (a : Int) (b : List Int) {r : AV} {H' : Heap} (h : (Ans.mk _ (N7z a b) (fun (t : Int) => (dI t,[some (.box [.slc 1]),some (sI b)])) [] none).run = some (r,H')) : Awp N9m LL (bodyOf Tryd.f80) N9d ⟨mkE 8 0 [(0,dI a),(1,.ptr 0 0)],[some (.box [.slc 1]),some (sI b)]⟩ (Ret (tlook tys) Tryd.f80.results.toList r H') :=
  ret_of' (Nua a b) (by unfold N7z; kernel_rfl) (by
  intro t
  exact ret_mk [dI t] (by kernel_rfl) (by kernel_rfl) (by kernel_rfl) (by kernel_rfl)) h
def N98 : Fun := fun avs H =>
  match avs,H with
  | [.dat (.int .i64) a,.ptr 0 0],[some (.box [.slc 1]),some (.seq (.int .i64) b)] => ⟨_,N7z a b,fun (t : Int) => (dI t,[some (.box [.slc 1]),some (sI b)]),[],none⟩
  | _,_ => Ans.no
theorem Nsj : Sound Tryd.prog 80 N98 := by
  refine fn_sound' (C := N9m) (c := bodyOf Tryd.f80) (cok_of tys_ok (alln) (alln) (by kernel_rfl)) Tryd.func80 (by kernel_rfl) LL N9d ?_
  intro avs H r H' h
  unfold N98 at h
  split at h
  · refine Awp.cast ?_ ?_ ?_ (Npi _ _ h) <;> kernel_rfl
  · simp [Ans.no,Ans.run] at h

def N10 : Ann := (.seq (.leaf [0,1,2]) (.seq (.leaf [0,1,2,7]) (.seq (.seq (.leaf [0,2,7,13,14,15]) (.block (.loop (.seq (.leaf [0,2,7,13,14,15,16]) (.seq (.cond (.leaf [0,2,7,13,14,15]) (.leaf [7])) (.seq (.block (.seq (.leaf [0,2,7,8,9,13,14,15]) (.leaf [0,2,7,13,14,15]))) (.leaf [0,2,7,13,14,15]))))))) (.seq (.leaf [6]) (.leaf [6])))))
noncomputable def N3m : Ctx := ⟨tlook tys,olook [(80,N98)],ioF,2,false,[]⟩
theorem Nvn (a b c : List Int) : Link N3m LL (Code.seq (cq [0] (bodyOf Tryd.f79)) (cq [0,1] (bodyOf Tryd.f79))) (Ann.seq (aq [0] N10) (aq [0,1] N10)) ⟨mkE 32 0 [(0,dL a),(1,dL b),(2,.fn 80 [] [.ptr 0 0])],[some (.box [.slc 1]),some (sI c)]⟩ (Nbw b) (fun (t : (List Int)) => (Exit.normal,⟨mkE 32 0 [(0,dL a),(1,dL b),(2,.fn 80 [] [.ptr 0 0]),(7,.slc 2)],[some (.box [.slc 1]),some (sI c),some (sI t)]⟩)) := .of fun K h => by
  simp only [Nbw,wpW] at h
  exact .of (by kernel_rfl) h
theorem Noq (a b c d : List Int) : Link N3m LL (cq [0,0,1,1] (bodyOf Tryd.f79)) (aq [0,0,1,1] N10) ⟨mkE 32 0 [(0,dL a),(1,dL b),(2,.fn 80 [] [.ptr 0 0]),(7,.slc 2)],[some (.box [.slc 1]),some (sI c),some (sI d)]⟩ (N9o b) (fun (t : Int) => (Exit.normal,⟨mkE 32 0 [(0,dL a),(2,.fn 80 [] [.ptr 0 0]),(7,.slc 2),(13,dL b),(14,dI t),(15,dI 0)],[some (.box [.slc 1]),some (sI c),some (sI d)]⟩)) := .of fun K h => by
  simp only [N9o,wpW] at h
  exact .of (by kernel_rfl) h
theorem Nk2 (a b : List Int) (c d : Int) (g i : List Int) : Link N3m LL (cq [0,0,1,0,1,1] (bodyOf Tryd.f79)) (aq [0,0,1,0,1,1] N10) ⟨mkE 32 0 [(0,dL a),(2,.fn 80 [] [.ptr 0 0]),(7,.slc 2),(13,dL b),(14,dI c),(15,dI d)],[some (.box [.slc 1]),some (sI g),some (sI i)]⟩ (Nct a b c d g i) (Sum.elim (fun (t : Int × (List Int)) => (Exit.normal,⟨mkE 32 0 [(0,dL a),(2,.fn 80 [] [.ptr 0 0]),(7,.slc 2),(13,dL b),(14,dI c),(15,dI t.1)],[some (.box [.slc 1]),some (sI g),some (sI t.2)]⟩)) (fun (t : (List Int)) => ((Exit.exit 0),⟨mkE 32 0 [(7,.slc 2)],[some (.box [.slc 1]),some (sI g),some (sI t)]⟩))) := .of fun K h => by
  simp only [Nct,wpW] at h
  exact .of (by kernel_rfl) h
theorem Npc (a b : List Int) : Link N3m LL (cq [1,1,1] (bodyOf Tryd.f79)) (aq [1,1,1] N10) ⟨mkE 32 0 [(7,.slc 2)],[some (.box [.slc 1]),some (sI a),some (sI b)]⟩ (Nar b) (fun (t : (List Int)) => (Exit.ret,⟨mkE 32 0 [(6,.slc 2)],[some (.box [.slc 1]),some (sI a),some (sI t)]⟩)) := .of fun K h => by
  simp only [Nar,wpW] at h
  exact .of (by kernel_rfl) h
theorem Nrd (b d g : List Int) {r : AV} {H' : Heap} (h : (Ans.mk _ (N7h b d g) (fun (t : (List Int)) => (.slc 2,[some (.box [.slc 1]),some (sI g),some (sI t)])) [] none).run = some (r,H')) : Awp N3m LL (bodyOf Tryd.f79) N10 ⟨mkE 32 0 [(0,dL b),(1,dL d),(2,.fn 80 [] [.ptr 0 0])],[some (.box [.slc 1]),some (sI g)]⟩ (Ret (tlook tys) Tryd.f79.results.toList r H') :=
  ret_of' (Link.cast (by kernel_rfl) (by kernel_rfl) (link_group (c := (cq [0,1] (bodyOf Tryd.f79))) (a := (aq [0,1] N10)) [(cq [0] (bodyOf Tryd.f79))] [(aq [0] N10)] rfl (link_seq (Nvn b d g) (fun (t : (List Int)) => (link_seq (link_seq (Noq b d g t) (fun (t40 : Int) => (link_block (fin2 := (fun (t20 : (List Int)) => (Exit.normal,⟨mkE 32 0 [(7,.slc 2)],[some (.box [.slc 1]),some (sI g),some (sI t20)]⟩))) (id := 0) (link_loop (mk := fun (s : Int × (List Int)) => ⟨mkE 32 0 [(0,dL b),(2,.fn 80 [] [.ptr 0 0]),(7,.slc 2),(13,dL d),(14,dI t40),(15,dI s.1)],[some (.box [.slc 1]),some (sI g),some (sI s.2)]⟩) (fin := (fun (t20 : (List Int)) => ((Exit.exit 0),⟨mkE 32 0 [(7,.slc 2)],[some (.box [.slc 1]),some (sI g),some (sI t20)]⟩))) (by
  rintro t20 f K h
  · exact h) (fun s => link_map (Nk2 b d t40 s.1 g s.2) (Sum.elim (fun (t20 : Int × (List Int)) => Sum.inl (t20.1,t20.2)) (fun (t20 : (List Int)) => Sum.inr t20)) (by
  rintro (t20 | t20)
  · kernel_rfl
  · kernel_rfl)) (0,t)) (fun (t20 : (List Int)) => t20) (by
  rintro t20 K h
  · exact Eq.mp (by kernel_rfl) h)))) (fun (t40 : (List Int)) => (Npc g t40))))))) (by unfold N7h; kernel_rfl) (by
  intro t
  exact ret_mk [.slc 2] (by kernel_rfl) (by kernel_rfl) (by kernel_rfl) (by kernel_rfl)) h
def N90 : Fun := fun avs H =>
  match avs,H with
  | [.dat (.list (.int .i64)) a,.dat (.list (.int .i64)) b,.fn 80 [] [.ptr 0 0]],[some (.box [.slc 1]),some (.seq (.int .i64) c)] => ⟨_,N7h a b c,fun (t : (List Int)) => (.slc 2,[some (.box [.slc 1]),some (sI c),some (sI t)]),[],none⟩
  | _,_ => Ans.no
theorem Nop : Sound Tryd.prog 79 N90 := by
  refine fn_sound' (C := N3m) (c := bodyOf Tryd.f79) (cok_of tys_ok (allc Nsj alln) (allc Tryd.call80 alln) (by kernel_rfl)) Tryd.func79 (by kernel_rfl) LL N10 ?_
  intro avs H r H' h
  unfold N90 at h
  split at h
  · refine Awp.cast ?_ ?_ ?_ (Nrd _ _ _ h) <;> kernel_rfl
  · simp [Ans.no,Ans.run] at h

def N9e : Ann := (.seq (.leaf [0,1]) (.seq (.seq (.leaf [0,1,16]) (.cond (.seq (.leaf [4,5]) (.leaf [4,5])) (.leaf [0,1]))) (.seq (.leaf [0,1,6]) (.seq (.leaf [4,5]) (.leaf [4,5])))))
noncomputable def Naa : Ctx := ⟨tlook tys,olook [(30,Nv),(77,Ncs),(78,Nbq),(79,N90)],ioF,0,false,[]⟩
theorem Nno (a b : List Int) : Link Naa LL (bodyOf Tryd.f70) N9e ⟨mkE 23 0 [(0,dL a),(1,dL b)],[]⟩ (Nd5 a b) (fun (t : Bool × (List Int)) => (Exit.ret,⟨mkE 23 0 [(4,.slc 0),(5,dB t.1)],[some (sI t.2)]⟩)) := .of fun K h => by
  simp only [Nd5,wpW] at h
  exact .of (by kernel_rfl) h
theorem Nj4 (a b : List Int) {r : AV} {H' : Heap} (h : (Ans.mk _ (N47 a b) (fun (t : Bool × (List Int)) => (.tup [.slc 0,dB t.1],[some (sI t.2)])) [] none).run = some (r,H')) : Awp Naa LL (bodyOf Tryd.f70) N9e ⟨mkE 23 0 [(0,dL a),(1,dL b)],[]⟩ (Ret (tlook tys) Tryd.f70.results.toList r H') :=
  ret_of' (Nno a b) (by unfold N47; kernel_rfl) (by
  intro t
  exact ret_mk [.slc 0,dB t.1] (by kernel_rfl) (by kernel_rfl) (by kernel_rfl) (by kernel_rfl)) h
def N68 : Fun := fun avs H =>
  match avs,H with
  | [.dat (.list (.int .i64)) a,.dat (.list (.int .i64)) b],[] => ⟨_,N47 a b,fun (t : Bool × (List Int)) => (.tup [.slc 0,dB t.1],[some (sI t.2)]),[],none⟩
  | _,_ => Ans.no
theorem Neb : Sound Tryd.prog 70 N68 := by
  refine fn_sound' (C := Naa) (c := bodyOf Tryd.f70) (cok_of tys_ok (allc N1y (allc Nms (allc Nil (allc Nop alln)))) (allc Tryd.call30 (allc Tryd.call77 (allc Tryd.call78 (allc Tryd.call79 alln)))) (by kernel_rfl)) Tryd.func70 (by kernel_rfl) LL N9e ?_
  intro avs H r H' h
  unfold N68 at h
  split at h
  · refine Awp.cast ?_ ?_ ?_ (Nj4 _ _ h) <;> kernel_rfl
  · simp [Ans.no,Ans.run] at h

def Nd1 : Ann := (.seq (.leaf [0]) (.seq (.seq (.leaf [0,7]) (.cond (.seq (.leaf [2]) (.leaf [2])) (.leaf [0]))) (.seq (.leaf [3]) (.seq (.leaf [2]) (.leaf [2])))))
noncomputable def Ndn : Ctx := ⟨tlook tys,olook [(30,Nv),(71,Ncn),(70,N68)],ioF,0,false,[]⟩
theorem Nm9 (a : List Int) : Link Ndn LL (bodyOf Tryd.f61) Nd1 ⟨mkE 17 0 [(0,dL a)],[]⟩ (Nal a) (fun (t : (List Int)) => (Exit.ret,⟨mkE 17 0 [(2,.slc 0)],[some (sI t)]⟩)) := .of fun K h => by
  simp only [Nal,wpW] at h
  exact .of (by kernel_rfl) h
theorem Nrv (a : List Int) {r : AV} {H' : Heap} (h : (Ans.mk _ (N6i a) (fun (t : (List Int)) => (.slc 0,[some (sI t)])) [] none).run = some (r,H')) : Awp Ndn LL (bodyOf Tryd.f61) Nd1 ⟨mkE 17 0 [(0,dL a)],[]⟩ (Ret (tlook tys) Tryd.f61.results.toList r H') :=
  ret_of' (Nm9 a) (by unfold N6i; kernel_rfl) (by
  intro t
  exact ret_mk [.slc 0] (by kernel_rfl) (by kernel_rfl) (by kernel_rfl) (by kernel_rfl)) h
def N9n : Fun := fun avs H =>
  match avs,H with
  | [.dat (.list (.int .i64)) a],[] => ⟨_,N6i a,fun (t : (List Int)) => (.slc 0,[some (sI t)]),[],none⟩
  | _,_ => Ans.no
theorem Nkc : Sound Tryd.prog 61 N9n := by
  refine fn_sound' (C := Ndn) (c := bodyOf Tryd.f61) (cok_of tys_ok (allc N1y (allc Nws (allc Neb alln))) (allc Tryd.call30 (allc Tryd.call71 (allc Tryd.call70 alln))) (by kernel_rfl)) Tryd.func61 (by kernel_rfl) LL Nd1 ?_
  intro avs H r H' h
  unfold N9n at h
  split at h
  · refine Awp.cast ?_ ?_ ?_ (Nrv _ h) <;> kernel_rfl
  · simp [Ans.no,Ans.run] at h

def Np : Ann := (.seq (.leaf [0]) (.seq (.seq (.leaf [0,6]) (.cond (.seq (.leaf [2]) (.leaf [2])) (.leaf [0]))) (.seq (.leaf [3]) (.seq (.block (.loop (.seq (.seq (.leaf [3,9]) (.cond (.leaf [3]) (.leaf [3]))) (.block (.leaf [3]))))) (.seq (.leaf [2]) (.leaf [2]))))))
noncomputable def N4a : Ctx := ⟨tlook tys,olook [(30,Nv),(64,N6t)],ioF,0,false,[]⟩
theorem Njg (a : List Int) : Link N4a LL (Code.seq (cq [0] (bodyOf Tryd.f55)) (Code.seq (cq [0,1] (bodyOf Tryd.f55)) (cq [0,1,1] (bodyOf Tryd.f55)))) (Ann.seq (aq [0] Np) (Ann.seq (aq [0,1] Np) (aq [0,1,1] Np))) ⟨mkE 12 0 [(0,dL a)],[]⟩ (Na3 a) (Sum.elim (fun (t : Unit) => (Exit.normal,⟨mkE 12 0 [(3,.ptr 0 0)],[some (.box [dL a,dI 1,dI 0])]⟩)) (fun (t : Int) => (Exit.ret,⟨mkE 12 0 [(2,dI t)],[]⟩))) := .of fun K h => by
  simp only [Na3,wpW] at h
  exact .of (by kernel_rfl) h
theorem Nq7 (a : List Int) (b c : Int) : Link N4a LL (cq [0,0,0,1,1,1] (bodyOf Tryd.f55)) (aq [0,0,0,1,1,1] Np) ⟨mkE 12 0 [(3,.ptr 0 0)],[some (.box [dL a,dI b,dI c])]⟩ (Nci a b c) (Sum.elim (fun (t : Int × Int) => (Exit.normal,⟨mkE 12 0 [(3,.ptr 0 0)],[some (.box [dL a,dI t.1,dI t.2])]⟩)) (fun (t : Int × Int) => ((Exit.exit 0),⟨mkE 12 0 [(3,.ptr 0 0)],[some (.box [dL a,dI t.1,dI t.2])]⟩))) := .of fun K h => by
  simp only [Nci,wpW] at h
  exact .of (by kernel_rfl) h
theorem Nwt (a : List Int) (b c : Int) : Link N4a LL (cq [1,1,1,1] (bodyOf Tryd.f55)) (aq [1,1,1,1] Np) ⟨mkE 12 0 [(3,.ptr 0 0)],[some (.box [dL a,dI b,dI c])]⟩ (Nc1 b) (fun (t : Int) => (Exit.ret,⟨mkE 12 0 [(2,dI t)],[]⟩)) := .of fun K h => by
  simp only [Nc1,wpW] at h
  exact .of (by kernel_rfl) h
theorem Nnj (b : List Int) {r : AV} {H' : Heap} (h : (Ans.mk _ (N56 b) (fun (t : Int) => (dI t,[])) [] none).run = some (r,H')) : Awp N4a LL (bodyOf Tryd.f55) Np ⟨mkE 12 0 [(0,dL b)],[]⟩ (Ret (tlook tys) Tryd.f55.results.toList r H') :=
  ret_of' (Link.cast (by kernel_rfl) (by kernel_rfl) (link_group (c := (cq [0,1,1] (bodyOf Tryd.f55))) (a := (aq [0,1,1] Np)) [(cq [0] (bodyOf Tryd.f55)),(cq [0,1] (bodyOf Tryd.f55))] [(aq [0] Np),(aq [0,1] Np)] rfl (link_seq2 (Njg b) (fun (t : Unit) => (link_seq (link_block (fin2 := (fun (t : Int × Int) => (Exit.normal,⟨mkE 12 0 [(3,.ptr 0 0)],[some (.box [dL b,dI t.1,dI t.2])]⟩))) (id := 0) (link_loop (mk := fun (s : Int × Int) => ⟨mkE 12 0 [(3,.ptr 0 0)],[some (.box [dL b,dI s.1,dI s.2])]⟩) (fin := (fun (t : Int × Int) => ((Exit.exit 0),⟨mkE 12 0 [(3,.ptr 0 0)],[some (.box [dL b,dI t.1,dI t.2])]⟩))) (by
  rintro t f K h
  · exact h) (fun s => link_map (Nq7 b s.1 s.2) (Sum.elim (fun (t : Int × Int) => Sum.inl (t.1,t.2)) (fun (t : Int × Int) => Sum.inr t)) (by
  rintro (t | t)
  · kernel_rfl
  · kernel_rfl)) (1,0)) (fun (t : Int × Int) => (t.1,t.2)) (by
  rintro t K h
  · exact Eq.mp (by kernel_rfl) h)) (fun (t : Int × Int) => (Nwt b t.1 t.2)))) (fun (t : Int) => t) (by
  rintro t
  · kernel_rfl) (by
  rintro t f K h
  · exact h)))) (by unfold N56; kernel_rfl) (by
  intro t
  exact ret_mk [dI t] (by kernel_rfl) (by kernel_rfl) (by kernel_rfl) (by kernel_rfl)) h
def Nb1 : Fun := fun avs H =>
  match avs,H with
  | [.dat (.list (.int .i64)) a],[] => ⟨_,N56 a,fun (t : Int) => (dI t,[]),[],none⟩
  | _,_ => Ans.no
theorem Nrl : Sound Tryd.prog 55 Nb1 := by
  refine fn_sound' (C := N4a) (c := bodyOf Tryd.f55) (cok_of tys_ok (allc N1y (allc Ngh alln)) (allc Tryd.call30 (allc Tryd.call64 alln)) (by kernel_rfl)) Tryd.func55 (by kernel_rfl) LL Np ?_
  intro avs H r H' h
  unfold Nb1 at h
  split at h
  · refine Awp.cast ?_ ?_ ?_ (Nnj _ h) <;> kernel_rfl
  · simp [Ans.no,Ans.run] at h

def Nc0 : Ann := (.seq (.leaf [0]) (.seq (.leaf [2]) (.leaf [2])))
noncomputable def Nbv : Ctx := ⟨tlook tys,olook [],ioF,0,false,[]⟩
theorem Nve (a : Int) : Link Nbv LL (bodyOf Tryd.f65) Nc0 ⟨mkE 6 0 [(0,dI a)],[]⟩ (N9j a) (fun (t : Int) => (Exit.ret,⟨mkE 6 0 [(2,dW t)],[]⟩)) := .of fun K h => by
  simp only [N9j,wpW] at h
  exact .of (by kernel_rfl) h
theorem Nrb (a : Int) {r : AV} {H' : Heap} (h : (Ans.mk _ (N3x a) (fun (t : Int) => (dW t,[])) [] none).run = some (r,H')) : Awp Nbv LL (bodyOf Tryd.f65) Nc0 ⟨mkE 6 0 [(0,dI a)],[]⟩ (Ret (tlook tys) Tryd.f65.results.toList r H') :=
  ret_of' (Nve a) (by unfold N3x; kernel_rfl) (by
  intro t
  exact ret_mk [dW t] (by kernel_rfl) (by kernel_rfl) (by kernel_rfl) (by kernel_rfl)) h
def N6m : Fun := fun avs H =>
  match avs,H with
  | [.dat (.int .i64) a],[] => ⟨_,N3x a,fun (t : Int) => (dW t,[]),[],none⟩
  | _,_ => Ans.no
theorem Ngu : Sound Tryd.prog 65 N6m := by
  refine fn_sound' (C := Nbv) (c := bodyOf Tryd.f65) (cok_of tys_ok (alln) (alln) (by kernel_rfl)) Tryd.func65 (by kernel_rfl) LL Nc0 ?_
  intro avs H r H' h
  unfold N6m at h
  split at h
  · refine Awp.cast ?_ ?_ ?_ (Nrb _ h) <;> kernel_rfl
  · simp [Ans.no,Ans.run] at h

def N18 : Ann := (.seq (.leaf [0,1]) (.seq (.leaf [0,1,5]) (.seq (.seq (.leaf [0,1,5,8,9]) (.block (.loop (.seq (.leaf [0,1,5,8,9,10]) (.seq (.cond (.leaf [0,1,5,8,9]) (.leaf [5])) (.seq (.block (.seq (.leaf [0,1,5,6,8,9]) (.seq (.leaf [0,1,5,6,8,9,17]) (.cond (.leaf [0,1,5,8,9]) (.leaf [0,1,5,8,9]))))) (.leaf [0,1,5,8,9]))))))) (.seq (.leaf [4]) (.leaf [4])))))
noncomputable def N34 : Ctx := ⟨tlook tys,olook [(65,N6m)],ioF,0,false,[]⟩
theorem Nj6 (a : List Int) (b : Int) : Link N34 LL (Code.seq (cq [0] (bodyOf Tryd.f66)) (cq [0,1] (bodyOf Tryd.f66))) (Ann.seq (aq [0] N18) (aq [0,1] N18)) ⟨mkE 25 0 [(0,dL a),(1,dI b)],[]⟩ (Nc2) (fun (t : Unit) => (Exit.normal,⟨mkE 25 0 [(0,dL a),(1,dI b),(5,dW 0)],[]⟩)) := .of fun K h => by
  simp only [Nc2,wpW] at h
  exact .of (by kernel_rfl) h
theorem Nk4 (a : List Int) (b : Int) : Link N34 LL (cq [0,0,1,1] (bodyOf Tryd.f66)) (aq [0,0,1,1] N18) ⟨mkE 25 0 [(0,dL a),(1,dI b),(5,dW 0)],[]⟩ (N8r a) (fun (t : Int) => (Exit.normal,⟨mkE 25 0 [(0,dL a),(1,dI b),(5,dW 0),(8,dI t),(9,dI 0)],[]⟩)) := .of fun K h => by
  simp only [N8r,wpW] at h
  exact .of (by kernel_rfl) h
theorem Nvf (a : List Int) (b c d g : Int) : Link N34 LL (cq [0,0,1,0,1,1] (bodyOf Tryd.f66)) (aq [0,0,1,0,1,1] N18) ⟨mkE 25 0 [(0,dL a),(1,dI b),(5,dW c),(8,dI d),(9,dI g)],[]⟩ (Nby a b c d g) (Sum.elim (fun (t : Int × Int) => (Exit.normal,⟨mkE 25 0 [(0,dL a),(1,dI b),(5,dW t.1),(8,dI d),(9,dI t.2)],[]⟩)) (fun (t : Int) => ((Exit.exit 0),⟨mkE 25 0 [(5,dW t)],[]⟩))) := .of fun K h => by
  simp only [Nby,wpW] at h
  exact .of (by kernel_rfl) h
theorem Nji (a : Int) : Link N34 LL (cq [1,1,1] (bodyOf Tryd.f66)) (aq [1,1,1] N18) ⟨mkE 25 0 [(5,dW a)],[]⟩ (Ncf a) (fun (t : Int) => (Exit.ret,⟨mkE 25 0 [(4,dW t)],[]⟩)) := .of fun K h => by
  simp only [Ncf,wpW] at h
  exact .of (by kernel_rfl) h
theorem Nu3 (b : List Int) (d : Int) {r : AV} {H' : Heap} (h : (Ans.mk _ (N69 b d) (fun (t : Int) => (dW t,[])) [] none).run = some (r,H')) : Awp N34 LL (bodyOf Tryd.f66) N18 ⟨mkE 25 0 [(0,dL b),(1,dI d)],[]⟩ (Ret (tlook tys) Tryd.f66.results.toList r H') :=
  ret_of' (Link.cast (by kernel_rfl) (by kernel_rfl) (link_group (c := (cq [0,1] (bodyOf Tryd.f66))) (a := (aq [0,1] N18)) [(cq [0] (bodyOf Tryd.f66))] [(aq [0] N18)] rfl (link_seq (Nj6 b d) (fun (t : Unit) => (link_seq (link_seq (Nk4 b d) (fun (t : Int) => (link_block (fin2 := (fun (t21 : Int) => (Exit.normal,⟨mkE 25 0 [(5,dW t21)],[]⟩))) (id := 0) (link_loop (mk := fun (s : Int × Int) => ⟨mkE 25 0 [(0,dL b),(1,dI d),(5,dW s.1),(8,dI t),(9,dI s.2)],[]⟩) (fin := (fun (t21 : Int) => ((Exit.exit 0),⟨mkE 25 0 [(5,dW t21)],[]⟩))) (by
  rintro t21 f K h
  · exact h) (fun s => link_map (Nvf b d s.1 t s.2) (Sum.elim (fun (t21 : Int × Int) => Sum.inl (t21.1,t21.2)) (fun (t21 : Int) => Sum.inr t21)) (by
  rintro (t21 | t21)
  · kernel_rfl
  · kernel_rfl)) (0,0)) (fun (t21 : Int) => t21) (by
  rintro t21 K h
  · exact Eq.mp (by kernel_rfl) h)))) (fun (t : Int) => (Nji t))))))) (by unfold N69; kernel_rfl) (by
  intro t
  exact ret_mk [dW t] (by kernel_rfl) (by kernel_rfl) (by kernel_rfl) (by kernel_rfl)) h
def Nb6 : Fun := fun avs H =>
  match avs,H with
  | [.dat (.list (.int .i64)) a,.dat (.int .i64) b],[] => ⟨_,N69 a b,fun (t : Int) => (dW t,[]),[],none⟩
  | _,_ => Ans.no
theorem Np7 : Sound Tryd.prog 66 Nb6 := by
  refine fn_sound' (C := N34) (c := bodyOf Tryd.f66) (cok_of tys_ok (allc Ngu alln) (allc Tryd.call65 alln) (by kernel_rfl)) Tryd.func66 (by kernel_rfl) LL N18 ?_
  intro avs H r H' h
  unfold Nb6 at h
  split at h
  · refine Awp.cast ?_ ?_ ?_ (Nu3 _ _ h) <;> kernel_rfl
  · simp [Ans.no,Ans.run] at h

def Nde : Ann := (.seq (.leaf [0]) (.seq (.leaf [2]) (.leaf [2])))
noncomputable def Na0 : Ctx := ⟨tlook tys,olook [(65,N6m)],ioF,0,false,[]⟩
theorem Nr9 (a : Int) : Link Na0 LL (bodyOf Tryd.f89) Nde ⟨mkE 6 0 [(0,dI a)],[]⟩ (Nbb a) (fun (t : Int) => (Exit.ret,⟨mkE 6 0 [(2,dW t)],[]⟩)) := .of fun K h => by
  simp only [Nbb,wpW] at h
  exact .of (by kernel_rfl) h
theorem Nr8 (a : Int) {r : AV} {H' : Heap} (h : (Ans.mk _ (N3z a) (fun (t : Int) => (dW t,[])) [] none).run = some (r,H')) : Awp Na0 LL (bodyOf Tryd.f89) Nde ⟨mkE 6 0 [(0,dI a)],[]⟩ (Ret (tlook tys) Tryd.f89.results.toList r H') :=
  ret_of' (Nr9 a) (by unfold N3z; kernel_rfl) (by
  intro t
  exact ret_mk [dW t] (by kernel_rfl) (by kernel_rfl) (by kernel_rfl) (by kernel_rfl)) h
def Ncq : Fun := fun avs H =>
  match avs,H with
  | [.dat (.int .i64) a],[] => ⟨_,N3z a,fun (t : Int) => (dW t,[]),[],none⟩
  | _,_ => Ans.no
theorem Noj : Sound Tryd.prog 89 Ncq := by
  refine fn_sound' (C := Na0) (c := bodyOf Tryd.f89) (cok_of tys_ok (allc Ngu alln) (allc Tryd.call65 alln) (by kernel_rfl)) Tryd.func89 (by kernel_rfl) LL Nde ?_
  intro avs H r H' h
  unfold Ncq at h
  split at h
  · refine Awp.cast ?_ ?_ ?_ (Nr8 _ h) <;> kernel_rfl
  · simp [Ans.no,Ans.run] at h

def Nax : Ann := (.seq (.leaf [0,1]) (.seq (.leaf [1,6]) (.seq (.leaf [4,5]) (.leaf [4,5]))))
noncomputable def N9v : Ctx := ⟨tlook tys,olook [(66,Nb6),(89,Ncq)],ioF,0,false,[]⟩
theorem Nm0 (a : List Int) (b : Int) : Link N9v LL (bodyOf Tryd.f85) Nax ⟨mkE 18 0 [(0,dL a),(1,dI b)],[]⟩ (N94 a b) (fun (t : Int × Int) => (Exit.ret,⟨mkE 18 0 [(4,dW t.1),(5,dW t.2)],[]⟩)) := .of fun K h => by
  simp only [N94,wpW] at h
  exact .of (by kernel_rfl) h
theorem Nuh (a : List Int) (b : Int) {r : AV} {H' : Heap} (h : (Ans.mk _ (N5d a b) (fun (t : Int × Int) => (.tup [dW t.1,dW t.2],[])) [] none).run = some (r,H')) : Awp N9v LL (bodyOf Tryd.f85) Nax ⟨mkE 18 0 [(0,dL a),(1,dI b)],[]⟩ (Ret (tlook tys) Tryd.f85.results.toList r H') :=
  ret_of' (Nm0 a b) (by unfold N5d; kernel_rfl) (by
  intro t
  exact ret_mk [dW t.1,dW t.2] (by kernel_rfl) (by kernel_rfl) (by kernel_rfl) (by kernel_rfl)) h
def Nd4 : Fun := fun avs H =>
  match avs,H with
  | [.dat (.list (.int .i64)) a,.dat (.int .i64) b],[] => ⟨_,N5d a b,fun (t : Int × Int) => (.tup [dW t.1,dW t.2],[]),[],none⟩
  | _,_ => Ans.no
theorem Nvh : Sound Tryd.prog 85 Nd4 := by
  refine fn_sound' (C := N9v) (c := bodyOf Tryd.f85) (cok_of tys_ok (allc Np7 (allc Noj alln)) (allc Tryd.call66 (allc Tryd.call89 alln)) (by kernel_rfl)) Tryd.func85 (by kernel_rfl) LL Nax ?_
  intro avs H r H' h
  unfold Nd4 at h
  split at h
  · refine Awp.cast ?_ ?_ ?_ (Nuh _ _ h) <;> kernel_rfl
  · simp [Ans.no,Ans.run] at h

def N8 : Ann := (.seq (.leaf [0]) (.seq (.leaf [0]) (.seq (.leaf [0]) (.seq (.leaf [0]) (.seq (.leaf [0]) (.seq (.leaf [0]) (.seq (.leaf [0]) (.seq (.leaf [2]) (.leaf [2])))))))))
noncomputable def Ns : Ctx := ⟨tlook tys,olook [],ioF,0,false,[]⟩
theorem Npd (a : Int) : Link Ns LL (Code.seq (cq [0] (bodyOf Tryd.f88)) (cq [0,1] (bodyOf Tryd.f88))) (Ann.seq (aq [0] N8) (aq [0,1] N8)) ⟨mkE 35 0 [(0,dW a)],[]⟩ (Na8 a) (fun (t : Int) => (Exit.normal,⟨mkE 35 0 [(0,dW t)],[]⟩)) := .of fun K h => by
  simp only [Na8,wpW] at h
  exact .of (by kernel_rfl) h
theorem Nl0 (a : Int) : Link Ns LL (cq [0,1,1] (bodyOf Tryd.f88)) (aq [0,1,1] N8) ⟨mkE 35 0 [(0,dW a)],[]⟩ (Nae a) (fun (t : Int) => (Exit.normal,⟨mkE 35 0 [(0,dW t)],[]⟩)) := .of fun K h => by
  simp only [Nae,wpW] at h
  exact .of (by kernel_rfl) h
theorem Nv3 (a : Int) : Link Ns LL (cq [0,1,1,1] (bodyOf Tryd.f88)) (aq [0,1,1,1] N8) ⟨mkE 35 0 [(0,dW a)],[]⟩ (Ndv a) (fun (t : Int) => (Exit.normal,⟨mkE 35 0 [(0,dW t)],[]⟩)) := .of fun K h => by
  simp only [Ndv,wpW] at h
  exact .of (by kernel_rfl) h
theorem Nle (a : Int) : Link Ns LL (cq [0,1,1,1,1] (bodyOf Tryd.f88)) (aq [0,1,1,1,1] N8) ⟨mkE 35 0 [(0,dW a)],[]⟩ (N8a a) (fun (t : Int) => (Exit.normal,⟨mkE 35 0 [(0,dW t)],[]⟩)) := .of fun K h => by
  simp only [N8a,wpW] at h
  exact .of (by kernel_rfl) h
theorem Nt8 (a : Int) : Link Ns LL (cq [0,1,1,1,1,1] (bodyOf Tryd.f88)) (aq [0,1,1,1,1,1] N8) ⟨mkE 35 0 [(0,dW a)],[]⟩ (Nb4 a) (fun (t : Int) => (Exit.normal,⟨mkE 35 0 [(0,dW t)],[]⟩)) := .of fun K h => by
  simp only [Nb4,wpW] at h
  exact .of (by kernel_rfl) h
theorem Nu6 (a : Int) : Link Ns LL (cq [0,1,1,1,1,1,1] (bodyOf Tryd.f88)) (aq [0,1,1,1,1,1,1] N8) ⟨mkE 35 0 [(0,dW a)],[]⟩ (Ndi a) (fun (t : Int) => (Exit.normal,⟨mkE 35 0 [(0,dW t)],[]⟩)) := .of fun K h => by
  simp only [Ndi,wpW] at h
  exact .of (by kernel_rfl) h
theorem Nui (a : Int) : Link Ns LL (cq [0,1,1,1,1,1,1,1] (bodyOf Tryd.f88)) (aq [0,1,1,1,1,1,1,1] N8) ⟨mkE 35 0 [(0,dW a)],[]⟩ (Nbl a) (fun (t : Int) => (Exit.normal,⟨mkE 35 0 [(2,dI t)],[]⟩)) := .of fun K h => by
  simp only [Nbl,wpW] at h
  exact .of (by kernel_rfl) h
theorem Ni1 (a : Int) : Link Ns LL (cq [1,1,1,1,1,1,1,1] (bodyOf Tryd.f88)) (aq [1,1,1,1,1,1,1,1] N8) ⟨mkE 35 0 [(2,dI a)],[]⟩ (Nca a) (fun (t : Int) => (Exit.ret,⟨mkE 35 0 [(2,dI t)],[]⟩)) := .of fun K h => by
  simp only [Nca,wpW] at h
  exact .of (by kernel_rfl) h
theorem Nub (b : Int) {r : AV} {H' : Heap} (h : (Ans.mk _ (N5c b) (fun (t : Int) => (dI t,[])) [] none).run = some (r,H')) : Awp Ns LL (bodyOf Tryd.f88) N8 ⟨mkE 35 0 [(0,dW b)],[]⟩ (Ret (tlook tys) Tryd.f88.results.toList r H') :=
  ret_of' (Link.cast (by kernel_rfl) (by kernel_rfl) (link_group (c := (cq [0,1] (bodyOf Tryd.f88))) (a := (aq [0,1] N8)) [(cq [0] (bodyOf Tryd.f88))] [(aq [0] N8)] rfl (link_seq (Npd b) (fun (t : Int) => (link_seq (Nl0 t) (fun (t22 : Int) => (link_seq (Nv3 t22) (fun (t4 : Int) => (link_seq (Nle t4) (fun (t : Int) => (link_seq (Nt8 t) (fun (t3 : Int) => (link_seq (Nu6 t3) (fun (t : Int) => (link_seq (Nui t) (fun (t2 : Int) => (Ni1 t2))))))))))))))))) (by unfold N5c; kernel_rfl) (by
  intro t
  exact ret_mk [dI t] (by kernel_rfl) (by kernel_rfl) (by kernel_rfl) (by kernel_rfl)) h
def Ncg : Fun := fun avs H =>
  match avs,H with
  | [.dat (.int .u64) a],[] => ⟨_,N5c a,fun (t : Int) => (dI t,[]),[],none⟩
  | _,_ => Ans.no
theorem Niu : Sound Tryd.prog 88 Ncg := by
  refine fn_sound' (C := Ns) (c := bodyOf Tryd.f88) (cok_of tys_ok (alln) (alln) (by kernel_rfl)) Tryd.func88 (by kernel_rfl) LL N8 ?_
  intro avs H r H' h
  unfold Ncg at h
  split at h
  · refine Awp.cast ?_ ?_ ?_ (Nub _ h) <;> kernel_rfl
  · simp [Ans.no,Ans.run] at h

def Nao : Ann := (.seq (.leaf [0]) (.seq (.cond (.seq (.leaf [2]) (.leaf [2])) (.leaf [0])) (.seq (.leaf [2]) (.leaf [2]))))
noncomputable def N9t : Ctx := ⟨tlook tys,olook [(88,Ncg)],ioF,0,false,[]⟩
theorem Nn3 (a : Int) : Link N9t LL (bodyOf Tryd.f82) Nao ⟨mkE 8 0 [(0,dW a)],[]⟩ (Ncb a) (fun (t : Int) => (Exit.ret,⟨mkE 8 0 [(2,dI t)],[]⟩)) := .of fun K h => by
  simp only [Ncb,wpW] at h
  exact .of (by kernel_rfl) h
theorem Nrp (a : Int) {r : AV} {H' : Heap} (h : (Ans.mk _ (N5l a) (fun (t : Int) => (dI t,[])) [] none).run = some (r,H')) : Awp N9t LL (bodyOf Tryd.f82) Nao ⟨mkE 8 0 [(0,dW a)],[]⟩ (Ret (tlook tys) Tryd.f82.results.toList r H') :=
  ret_of' (Nn3 a) (by unfold N5l; kernel_rfl) (by
  intro t
  exact ret_mk [dI t] (by kernel_rfl) (by kernel_rfl) (by kernel_rfl) (by kernel_rfl)) h
def Nc4 : Fun := fun avs H =>
  match avs,H with
  | [.dat (.int .u64) a],[] => ⟨_,N5l a,fun (t : Int) => (dI t,[]),[],none⟩
  | _,_ => Ans.no
theorem Ns3 : Sound Tryd.prog 82 Nc4 := by
  refine fn_sound' (C := N9t) (c := bodyOf Tryd.f82) (cok_of tys_ok (allc Niu alln) (allc Tryd.call88 alln) (by kernel_rfl)) Tryd.func82 (by kernel_rfl) LL Nao ?_
  intro avs H r H' h
  unfold Nc4 at h
  split at h
  · refine Awp.cast ?_ ?_ ?_ (Nrp _ h) <;> kernel_rfl
  · simp [Ans.no,Ans.run] at h

def Ndl : Ann := (.seq (.leaf [0]) (.seq (.leaf [2]) (.leaf [2])))
noncomputable def Na9 : Ctx := ⟨tlook tys,olook [(82,Nc4)],ioF,0,false,[]⟩
theorem Nlr (a : Int) : Link Na9 LL (bodyOf Tryd.f75) Ndl ⟨mkE 5 0 [(0,dW a)],[]⟩ (Nbu a) (fun (t : Int) => (Exit.ret,⟨mkE 5 0 [(2,dI t)],[]⟩)) := .of fun K h => by
  simp only [Nbu,wpW] at h
  exact .of (by kernel_rfl) h
theorem Nw6 (a : Int) {r : AV} {H' : Heap} (h : (Ans.mk _ (N51 a) (fun (t : Int) => (dI t,[])) [] none).run = some (r,H')) : Awp Na9 LL (bodyOf Tryd.f75) Ndl ⟨mkE 5 0 [(0,dW a)],[]⟩ (Ret (tlook tys) Tryd.f75.results.toList r H') :=
  ret_of' (Nlr a) (by unfold N51; kernel_rfl) (by
  intro t
  exact ret_mk [dI t] (by kernel_rfl) (by kernel_rfl) (by kernel_rfl) (by kernel_rfl)) h
def N9a : Fun := fun avs H =>
  match avs,H with
  | [.dat (.int .u64) a],[] => ⟨_,N51 a,fun (t : Int) => (dI t,[]),[],none⟩
  | _,_ => Ans.no
theorem Nmn : Sound Tryd.prog 75 N9a := by
  refine fn_sound' (C := Na9) (c := bodyOf Tryd.f75) (cok_of tys_ok (allc Ns3 alln) (allc Tryd.call82 alln) (by kernel_rfl)) Tryd.func75 (by kernel_rfl) LL Ndl ?_
  intro avs H r H' h
  unfold N9a at h
  split at h
  · refine Awp.cast ?_ ?_ ?_ (Nw6 _ h) <;> kernel_rfl
  · simp [Ans.no,Ans.run] at h

def N9g : Ann := (.seq (.leaf [0]) (.seq (.seq (.leaf [0,4]) (.cond (.seq (.leaf [2]) (.leaf [2])) (.leaf [0]))) (.seq (.leaf [2]) (.leaf [2]))))
noncomputable def Ncw : Ctx := ⟨tlook tys,olook [],ioF,0,false,[]⟩
theorem Nmu (a : Int) : Link Ncw LL (bodyOf Tryd.f84) N9g ⟨mkE 14 0 [(0,dW a)],[]⟩ (Nds a) (fun (t : Int) => (Exit.ret,⟨mkE 14 0 [(2,dI t)],[]⟩)) := .of fun K h => by
  simp only [Nds,wpW] at h
  exact .of (by kernel_rfl) h
theorem Nls (a : Int) {r : AV} {H' : Heap} (h : (Ans.mk _ (N5k a) (fun (t : Int) => (dI t,[])) [] none).run = some (r,H')) : Awp Ncw LL (bodyOf Tryd.f84) N9g ⟨mkE 14 0 [(0,dW a)],[]⟩ (Ret (tlook tys) Tryd.f84.results.toList r H') :=
  ret_of' (Nmu a) (by unfold N5k; kernel_rfl) (by
  intro t
  exact ret_mk [dI t] (by kernel_rfl) (by kernel_rfl) (by kernel_rfl) (by kernel_rfl)) h
def N9q : Fun := fun avs H =>
  match avs,H with
  | [.dat (.int .u64) a],[] => ⟨_,N5k a,fun (t : Int) => (dI t,[]),[],none⟩
  | _,_ => Ans.no
theorem Nmm : Sound Tryd.prog 84 N9q := by
  refine fn_sound' (C := Ncw) (c := bodyOf Tryd.f84) (cok_of tys_ok (alln) (alln) (by kernel_rfl)) Tryd.func84 (by kernel_rfl) LL N9g ?_
  intro avs H r H' h
  unfold N9q at h
  split at h
  · refine Awp.cast ?_ ?_ ?_ (Nls _ h) <;> kernel_rfl
  · simp [Ans.no,Ans.run] at h

def N8f : Ann := (.seq (.leaf [0]) (.seq (.cond (.seq (.leaf [2]) (.leaf [2])) (.leaf [0])) (.seq (.leaf [2]) (.leaf [2]))))
noncomputable def N8l : Ctx := ⟨tlook tys,olook [(84,N9q)],ioF,0,false,[]⟩
theorem Nl1 (a : Int) : Link N8l LL (bodyOf Tryd.f76) N8f ⟨mkE 8 0 [(0,dW a)],[]⟩ (N9k a) (fun (t : Int) => (Exit.ret,⟨mkE 8 0 [(2,dI t)],[]⟩)) := .of fun K h => by
  simp only [N9k,wpW] at h
  exact .of (by kernel_rfl) h
theorem Nx3 (a : Int) {r : AV} {H' : Heap} (h : (Ans.mk _ (N78 a) (fun (t : Int) => (dI t,[])) [] none).run = some (r,H')) : Awp N8l LL (bodyOf Tryd.f76) N8f ⟨mkE 8 0 [(0,dW a)],[]⟩ (Ret (tlook tys) Tryd.f76.results.toList r H') :=
  ret_of' (Nl1 a) (by unfold N78; kernel_rfl) (by
  intro t
  exact ret_mk [dI t] (by kernel_rfl) (by kernel_rfl) (by kernel_rfl) (by kernel_rfl)) h
def Ncy : Fun := fun avs H =>
  match avs,H with
  | [.dat (.int .u64) a],[] => ⟨_,N78 a,fun (t : Int) => (dI t,[]),[],none⟩
  | _,_ => Ans.no
theorem Nwm : Sound Tryd.prog 76 Ncy := by
  refine fn_sound' (C := N8l) (c := bodyOf Tryd.f76) (cok_of tys_ok (allc Nmm alln) (allc Tryd.call84 alln) (by kernel_rfl)) Tryd.func76 (by kernel_rfl) LL N8f ?_
  intro avs H r H' h
  unfold Ncy at h
  split at h
  · refine Awp.cast ?_ ?_ ?_ (Nx3 _ h) <;> kernel_rfl
  · simp [Ans.no,Ans.run] at h

def N1g : Ann := (.seq (.leaf [0]) (.seq (.leaf [0,3]) (.seq (.seq (.leaf [3,4]) (.block (.loop (.seq (.seq (.leaf [3,4,10]) (.cond (.leaf [3,4]) (.leaf [3]))) (.seq (.block (.leaf [3,4])) (.leaf [3,4])))))) (.seq (.leaf [2]) (.leaf [2])))))
noncomputable def N3s : Ctx := ⟨tlook tys,olook [(75,N9a),(76,Ncy)],ioF,0,false,[]⟩
theorem Nsp (a : Int) : Link N3s LL (Code.seq (cq [0] (bodyOf Tryd.f67)) (cq [0,1] (bodyOf Tryd.f67))) (Ann.seq (aq [0] N1g) (aq [0,1] N1g)) ⟨mkE 22 0 [(0,dW a)],[]⟩ (Nbh a) (fun (t : (List Int)) => (Exit.normal,⟨mkE 22 0 [(0,dW a),(3,.slc 0)],[some (sI t)]⟩)) := .of fun K h => by
  simp only [Nbh,wpW] at h
  exact .of (by kernel_rfl) h
theorem Npz (a : Int) (b : List Int) : Link N3s LL (cq [0,0,1,1] (bodyOf Tryd.f67)) (aq [0,0,1,1] N1g) ⟨mkE 22 0 [(0,dW a),(3,.slc 0)],[some (sI b)]⟩ (Ncm) (fun (t : Unit) => (Exit.normal,⟨mkE 22 0 [(3,.slc 0),(4,dW a)],[some (sI b)]⟩)) := .of fun K h => by
  simp only [Ncm,wpW] at h
  exact .of (by kernel_rfl) h
theorem Nxn (a : Int) (b : List Int) : Link N3s LL (cq [0,0,1,0,1,1] (bodyOf Tryd.f67)) (aq [0,0,1,0,1,1] N1g) ⟨mkE 22 0 [(3,.slc 0),(4,dW a)],[some (sI b)]⟩ (Ne1 a b) (Sum.elim (fun (t : Int × (List Int)) => (Exit.normal,⟨mkE 22 0 [(3,.slc 0),(4,dW t.1)],[some (sI t.2)]⟩)) (fun (t : (List Int)) => ((Exit.exit 0),⟨mkE 22 0 [(3,.slc 0)],[some (sI t)]⟩))) := .of fun K h => by
  simp only [Ne1,wpW] at h
  exact .of (by kernel_rfl) h
theorem Npv (a : List Int) : Link N3s LL (cq [1,1,1] (bodyOf Tryd.f67)) (aq [1,1,1] N1g) ⟨mkE 22 0 [(3,.slc 0)],[some (sI a)]⟩ (N9l a) (fun (t : (List Int)) => (Exit.ret,⟨mkE 22 0 [(2,.slc 0)],[some (sI t)]⟩)) := .of fun K h => by
  simp only [N9l,wpW] at h
  exact .of (by kernel_rfl) h
theorem Nm8 (b : Int) {r : AV} {H' : Heap} (h : (Ans.mk _ (N6v b) (fun (t : (List Int)) => (.slc 0,[some (sI t)])) [] none).run = some (r,H')) : Awp N3s LL (bodyOf Tryd.f67) N1g ⟨mkE 22 0 [(0,dW b)],[]⟩ (Ret (tlook tys) Tryd.f67.results.toList r H') :=
  ret_of' (Link.cast (by kernel_rfl) (by kernel_rfl) (link_group (c := (cq [0,1] (bodyOf Tryd.f67))) (a := (aq [0,1] N1g)) [(cq [0] (bodyOf Tryd.f67))] [(aq [0] N1g)] rfl (link_seq (Nsp b) (fun (t : (List Int)) => (link_seq (link_seq (Npz b t) (fun (t41 : Unit) => (link_block (fin2 := (fun (t41 : (List Int)) => (Exit.normal,⟨mkE 22 0 [(3,.slc 0)],[some (sI t41)]⟩))) (id := 0) (link_loop (mk := fun (s : Int × (List Int)) => ⟨mkE 22 0 [(3,.slc 0),(4,dW s.1)],[some (sI s.2)]⟩) (fin := (fun (t41 : (List Int)) => ((Exit.exit 0),⟨mkE 22 0 [(3,.slc 0)],[some (sI t41)]⟩))) (by
  rintro t41 f K h
  · exact h) (fun s => link_map (Nxn s.1 s.2) (Sum.elim (fun (t41 : Int × (List Int)) => Sum.inl (t41.1,t41.2)) (fun (t41 : (List Int)) => Sum.inr t41)) (by
  rintro (t41 | t41)
  · kernel_rfl
  · kernel_rfl)) (b,t)) (fun (t41 : (List Int)) => t41) (by
  rintro t41 K h
  · exact Eq.mp (by kernel_rfl) h)))) (fun (t41 : (List Int)) => (Npv t41))))))) (by unfold N6v; kernel_rfl) (by
  intro t
  exact ret_mk [.slc 0] (by kernel_rfl) (by kernel_rfl) (by kernel_rfl) (by kernel_rfl)) h
def Ndt : Fun := fun avs H =>
  match avs,H with
  | [.dat (.int .u64) a],[] => ⟨_,N6v a,fun (t : (List Int)) => (.slc 0,[some (sI t)]),[],none⟩
  | _,_ => Ans.no
theorem Nnz : Sound Tryd.prog 67 Ndt := by
  refine fn_sound' (C := N3s) (c := bodyOf Tryd.f67) (cok_of tys_ok (allc Nmn (allc Nwm alln)) (allc Tryd.call75 (allc Tryd.call76 alln)) (by kernel_rfl)) Tryd.func67 (by kernel_rfl) LL N1g ?_
  intro avs H r H' h
  unfold Ndt at h
  split at h
  · refine Awp.cast ?_ ?_ ?_ (Nm8 _ h) <;> kernel_rfl
  · simp [Ans.no,Ans.run] at h

end Go.Rv
