/-
  The checked code answers as the plain functions do; written by program. Conditions: none.
-/
import Derived.Test.YtihgceegapfngadDoorGFnDeskRun
import Derived.Test.YtihgceegapfngadDoorFB
import Derived.Test.YtihgceegapfngadDoorProg
set_option linter.unusedVariables false
set_option linter.unusedSimpArgs false
set_option linter.defProp false
set_option maxRecDepth 100000
namespace Go.Rv
open Go.Proofs
theorem ty3 : TIOk Tryd.prog 3 ⟨.int .i64,1,8,some (.int .i64),[.int .i64 0],false⟩ := ⟨⟨infoOf (Tryd.prog.info? 3),by kernel_rfl,by kernel_rfl,by kernel_rfl,.int .i64 0,by kernel_rfl,by kernel_rfl⟩,(by kernel_rfl : Tryd.prog.underlying 3 = some (.int .i64)),no_eq⟩
theorem ty4 : TIOk Tryd.prog 4 ⟨.bool,1,1,some .bool,[.bool false],false⟩ := ⟨⟨infoOf (Tryd.prog.info? 4),by kernel_rfl,by kernel_rfl,by kernel_rfl,.bool false,by kernel_rfl,by kernel_rfl⟩,(by kernel_rfl : Tryd.prog.underlying 4 = some .bool),no_eq⟩
theorem ty5 : TIOk Tryd.prog 5 ⟨.int .u8,1,1,some (.int .u8),[.int .u8 0],false⟩ := ⟨⟨infoOf (Tryd.prog.info? 5),by kernel_rfl,by kernel_rfl,by kernel_rfl,.int .u8 0,by kernel_rfl,by kernel_rfl⟩,(by kernel_rfl : Tryd.prog.underlying 5 = some (.int .u8)),no_eq⟩
theorem ty22 : TIOk Tryd.prog 22 ⟨.slice 5,1,24,some (.list (.int .u8)),[.slice none 0 0],false⟩ := ⟨⟨infoOf (Tryd.prog.info? 22),by kernel_rfl,by kernel_rfl,by kernel_rfl,.slice none 0 0,by kernel_rfl,by kernel_rfl⟩,(by kernel_rfl : Tryd.prog.underlying 22 = some (.slice 5)),no_eq⟩
theorem ty23 : TIOk Tryd.prog 23 ⟨.slice 3,1,24,some (.list (.int .i64)),[.slice none 0 0],false⟩ := ⟨⟨infoOf (Tryd.prog.info? 23),by kernel_rfl,by kernel_rfl,by kernel_rfl,.slice none 0 0,by kernel_rfl,by kernel_rfl⟩,(by kernel_rfl : Tryd.prog.underlying 23 = some (.slice 3)),no_eq⟩
theorem ty24 : TIOk Tryd.prog 24 ⟨.slice 23,1,24,some (.list (.list (.int .i64))),[.slice none 0 0],false⟩ := ⟨⟨infoOf (Tryd.prog.info? 24),by kernel_rfl,by kernel_rfl,by kernel_rfl,.slice none 0 0,by kernel_rfl,by kernel_rfl⟩,(by kernel_rfl : Tryd.prog.underlying 24 = some (.slice 23)),no_eq⟩
theorem ty26 : TIOk Tryd.prog 26 ⟨.strct [(0,23),(1,24)],2,48,some (.pair (.list (.int .i64)) (.pair (.list (.list (.int .i64))) .unit)),[.slice none 0 0,.slice none 0 0],false⟩ := ⟨⟨infoOf (Tryd.prog.info? 26),by kernel_rfl,by kernel_rfl,by kernel_rfl,.agg #[.slice none 0 0,.slice none 0 0],by kernel_rfl,by kernel_rfl⟩,⟨fieldsOf (Tryd.prog.underlying 26),by kernel_rfl,by kernel_rfl⟩,no_eq⟩
theorem ty28 : TIOk Tryd.prog 28 ⟨.strct [(0,3),(1,3),(2,3)],3,24,some (.pair (.int .i64) (.pair (.int .i64) (.pair (.int .i64) .unit))),[.int .i64 0,.int .i64 0,.int .i64 0],true⟩ := ⟨⟨infoOf (Tryd.prog.info? 28),by kernel_rfl,by kernel_rfl,by kernel_rfl,.agg #[.int .i64 0,.int .i64 0,.int .i64 0],by kernel_rfl,by kernel_rfl⟩,⟨fieldsOf (Tryd.prog.underlying 28),by kernel_rfl,by kernel_rfl⟩,fun _ => by kernel_rfl⟩
theorem ty39 : TIOk Tryd.prog 39 ⟨.slice 28,1,24,some (.list (.pair (.int .i64) (.pair (.int .i64) (.pair (.int .i64) .unit)))),[.slice none 0 0],false⟩ := ⟨⟨infoOf (Tryd.prog.info? 39),by kernel_rfl,by kernel_rfl,by kernel_rfl,.slice none 0 0,by kernel_rfl,by kernel_rfl⟩,(by kernel_rfl : Tryd.prog.underlying 39 = some (.slice 28)),no_eq⟩
theorem ty57 : TIOk Tryd.prog 57 ⟨.strct [(0,3),(1,3)],2,16,some (.pair (.int .i64) (.pair (.int .i64) .unit)),[.int .i64 0,.int .i64 0],false⟩ := ⟨⟨infoOf (Tryd.prog.info? 57),by kernel_rfl,by kernel_rfl,by kernel_rfl,.agg #[.int .i64 0,.int .i64 0],by kernel_rfl,by kernel_rfl⟩,⟨fieldsOf (Tryd.prog.underlying 57),by kernel_rfl,by kernel_rfl⟩,no_eq⟩
theorem ty58 : TIOk Tryd.prog 58 ⟨.slice 57,1,24,some (.list (.pair (.int .i64) (.pair (.int .i64) .unit))),[.slice none 0 0],false⟩ := ⟨⟨infoOf (Tryd.prog.info? 58),by kernel_rfl,by kernel_rfl,by kernel_rfl,.slice none 0 0,by kernel_rfl,by kernel_rfl⟩,(by kernel_rfl : Tryd.prog.underlying 58 = some (.slice 57)),no_eq⟩
theorem ty62 : TIOk Tryd.prog 62 ⟨.slice 65,1,24,some (.list (.int .u64)),[.slice none 0 0],false⟩ := ⟨⟨infoOf (Tryd.prog.info? 62),by kernel_rfl,by kernel_rfl,by kernel_rfl,.slice none 0 0,by kernel_rfl,by kernel_rfl⟩,(by kernel_rfl : Tryd.prog.underlying 62 = some (.slice 65)),no_eq⟩
theorem ty65 : TIOk Tryd.prog 65 ⟨.int .u64,1,8,some (.int .u64),[.int .u64 0],false⟩ := ⟨⟨infoOf (Tryd.prog.info? 65),by kernel_rfl,by kernel_rfl,by kernel_rfl,.int .u64 0,by kernel_rfl,by kernel_rfl⟩,(by kernel_rfl : Tryd.prog.underlying 65 = some (.int .u64)),no_eq⟩
theorem ty69 : TIOk Tryd.prog 69 ⟨.strct [(0,22),(1,3)],2,32,some (.pair (.list (.int .u8)) (.pair (.int .i64) .unit)),[.slice none 0 0,.int .i64 0],false⟩ := ⟨⟨infoOf (Tryd.prog.info? 69),by kernel_rfl,by kernel_rfl,by kernel_rfl,.agg #[.slice none 0 0,.int .i64 0],by kernel_rfl,by kernel_rfl⟩,⟨fieldsOf (Tryd.prog.underlying 69),by kernel_rfl,by kernel_rfl⟩,no_eq⟩
theorem ty85 : TIOk Tryd.prog 85 ⟨.strct [(0,23),(1,3),(2,3)],3,40,some (.pair (.list (.int .i64)) (.pair (.int .i64) (.pair (.int .i64) .unit))),[.slice none 0 0,.int .i64 0,.int .i64 0],false⟩ := ⟨⟨infoOf (Tryd.prog.info? 85),by kernel_rfl,by kernel_rfl,by kernel_rfl,.agg #[.slice none 0 0,.int .i64 0,.int .i64 0],by kernel_rfl,by kernel_rfl⟩,⟨fieldsOf (Tryd.prog.underlying 85),by kernel_rfl,by kernel_rfl⟩,no_eq⟩
theorem ty100 : TIOk Tryd.prog 100 ⟨.int .u64,1,8,some (.int .u64),[.int .u64 0],false⟩ := ⟨⟨infoOf (Tryd.prog.info? 100),by kernel_rfl,by kernel_rfl,by kernel_rfl,.int .u64 0,by kernel_rfl,by kernel_rfl⟩,(by kernel_rfl : Tryd.prog.underlying 100 = some (.int .u64)),no_eq⟩
theorem ty101 : TIOk Tryd.prog 101 ⟨.arr 9 4,9,9,none,[.bool false,.bool false,.bool false,.bool false,.bool false,.bool false,.bool false,.bool false,.bool false],false⟩ := ⟨⟨infoOf (Tryd.prog.info? 101),by kernel_rfl,by kernel_rfl,by kernel_rfl,.agg #[.bool false,.bool false,.bool false,.bool false,.bool false,.bool false,.bool false,.bool false,.bool false],by kernel_rfl,by kernel_rfl⟩,(by kernel_rfl : Tryd.prog.underlying 101 = some (.array 9 4)),no_eq⟩
theorem ty106 : TIOk Tryd.prog 106 ⟨.arr 64 5,64,64,none,[.int .u8 0,.int .u8 0,.int .u8 0,.int .u8 0,.int .u8 0,.int .u8 0,.int .u8 0,.int .u8 0,.int .u8 0,.int .u8 0,.int .u8 0,.int .u8 0,.int .u8 0,.int .u8 0,.int .u8 0,.int .u8 0,.int .u8 0,.int .u8 0,.int .u8 0,.int .u8 0,.int .u8 0,.int .u8 0,.int .u8 0,.int .u8 0,.int .u8 0,.int .u8 0,.int .u8 0,.int .u8 0,.int .u8 0,.int .u8 0,.int .u8 0,.int .u8 0,.int .u8 0,.int .u8 0,.int .u8 0,.int .u8 0,.int .u8 0,.int .u8 0,.int .u8 0,.int .u8 0,.int .u8 0,.int .u8 0,.int .u8 0,.int .u8 0,.int .u8 0,.int .u8 0,.int .u8 0,.int .u8 0,.int .u8 0,.int .u8 0,.int .u8 0,.int .u8 0,.int .u8 0,.int .u8 0,.int .u8 0,.int .u8 0,.int .u8 0,.int .u8 0,.int .u8 0,.int .u8 0,.int .u8 0,.int .u8 0,.int .u8 0,.int .u8 0],false⟩ := ⟨⟨infoOf (Tryd.prog.info? 106),by kernel_rfl,by kernel_rfl,by kernel_rfl,.agg #[.int .u8 0,.int .u8 0,.int .u8 0,.int .u8 0,.int .u8 0,.int .u8 0,.int .u8 0,.int .u8 0,.int .u8 0,.int .u8 0,.int .u8 0,.int .u8 0,.int .u8 0,.int .u8 0,.int .u8 0,.int .u8 0,.int .u8 0,.int .u8 0,.int .u8 0,.int .u8 0,.int .u8 0,.int .u8 0,.int .u8 0,.int .u8 0,.int .u8 0,.int .u8 0,.int .u8 0,.int .u8 0,.int .u8 0,.int .u8 0,.int .u8 0,.int .u8 0,.int .u8 0,.int .u8 0,.int .u8 0,.int .u8 0,.int .u8 0,.int .u8 0,.int .u8 0,.int .u8 0,.int .u8 0,.int .u8 0,.int .u8 0,.int .u8 0,.int .u8 0,.int .u8 0,.int .u8 0,.int .u8 0,.int .u8 0,.int .u8 0,.int .u8 0,.int .u8 0,.int .u8 0,.int .u8 0,.int .u8 0,.int .u8 0,.int .u8 0,.int .u8 0,.int .u8 0,.int .u8 0,.int .u8 0,.int .u8 0,.int .u8 0,.int .u8 0],by kernel_rfl,by kernel_rfl⟩,(by kernel_rfl : Tryd.prog.underlying 106 = some (.array 64 5)),no_eq⟩
def tys : List (TypeId × TI) := [(3,⟨.int .i64,1,8,some (.int .i64),[.int .i64 0],false⟩),(4,⟨.bool,1,1,some .bool,[.bool false],false⟩),(5,⟨.int .u8,1,1,some (.int .u8),[.int .u8 0],false⟩),(22,⟨.slice 5,1,24,some (.list (.int .u8)),[.slice none 0 0],false⟩),(23,⟨.slice 3,1,24,some (.list (.int .i64)),[.slice none 0 0],false⟩),(24,⟨.slice 23,1,24,some (.list (.list (.int .i64))),[.slice none 0 0],false⟩),(26,⟨.strct [(0,23),(1,24)],2,48,some (.pair (.list (.int .i64)) (.pair (.list (.list (.int .i64))) .unit)),[.slice none 0 0,.slice none 0 0],false⟩),(28,⟨.strct [(0,3),(1,3),(2,3)],3,24,some (.pair (.int .i64) (.pair (.int .i64) (.pair (.int .i64) .unit))),[.int .i64 0,.int .i64 0,.int .i64 0],true⟩),(39,⟨.slice 28,1,24,some (.list (.pair (.int .i64) (.pair (.int .i64) (.pair (.int .i64) .unit)))),[.slice none 0 0],false⟩),(57,⟨.strct [(0,3),(1,3)],2,16,some (.pair (.int .i64) (.pair (.int .i64) .unit)),[.int .i64 0,.int .i64 0],false⟩),(58,⟨.slice 57,1,24,some (.list (.pair (.int .i64) (.pair (.int .i64) .unit))),[.slice none 0 0],false⟩),(62,⟨.slice 65,1,24,some (.list (.int .u64)),[.slice none 0 0],false⟩),(65,⟨.int .u64,1,8,some (.int .u64),[.int .u64 0],false⟩),(69,⟨.strct [(0,22),(1,3)],2,32,some (.pair (.list (.int .u8)) (.pair (.int .i64) .unit)),[.slice none 0 0,.int .i64 0],false⟩),(85,⟨.strct [(0,23),(1,3),(2,3)],3,40,some (.pair (.list (.int .i64)) (.pair (.int .i64) (.pair (.int .i64) .unit))),[.slice none 0 0,.int .i64 0,.int .i64 0],false⟩),(100,⟨.int .u64,1,8,some (.int .u64),[.int .u64 0],false⟩),(101,⟨.arr 9 4,9,9,none,[.bool false,.bool false,.bool false,.bool false,.bool false,.bool false,.bool false,.bool false,.bool false],false⟩),(106,⟨.arr 64 5,64,64,none,[.int .u8 0,.int .u8 0,.int .u8 0,.int .u8 0,.int .u8 0,.int .u8 0,.int .u8 0,.int .u8 0,.int .u8 0,.int .u8 0,.int .u8 0,.int .u8 0,.int .u8 0,.int .u8 0,.int .u8 0,.int .u8 0,.int .u8 0,.int .u8 0,.int .u8 0,.int .u8 0,.int .u8 0,.int .u8 0,.int .u8 0,.int .u8 0,.int .u8 0,.int .u8 0,.int .u8 0,.int .u8 0,.int .u8 0,.int .u8 0,.int .u8 0,.int .u8 0,.int .u8 0,.int .u8 0,.int .u8 0,.int .u8 0,.int .u8 0,.int .u8 0,.int .u8 0,.int .u8 0,.int .u8 0,.int .u8 0,.int .u8 0,.int .u8 0,.int .u8 0,.int .u8 0,.int .u8 0,.int .u8 0,.int .u8 0,.int .u8 0,.int .u8 0,.int .u8 0,.int .u8 0,.int .u8 0,.int .u8 0,.int .u8 0,.int .u8 0,.int .u8 0,.int .u8 0,.int .u8 0,.int .u8 0,.int .u8 0,.int .u8 0,.int .u8 0],false⟩)]
theorem tys_ok : TOk Tryd.prog (tlook tys) := tok_of (allc ty3 (allc ty4 (allc ty5 (allc ty22 (allc ty23 (allc ty24 (allc ty26 (allc ty28 (allc ty39 (allc ty57 (allc ty58 (allc ty62 (allc ty65 (allc ty69 (allc ty85 (allc ty100 (allc ty101 (allc ty106 alln))))))))))))))))))
def ioF (f : FuncId) (i : Nat) : Bool := [(54,0),(69,1),(81,0),(86,0)].any fun (p : Nat × Nat) => Nat.beq p.1 f && Nat.beq p.2 i

def Nb7 : Ann := (.seq (.leaf [0]) (.seq (.seq (.leaf [0,5]) (.cond (.leaf [0]) (.leaf [0]))) (.seq (.leaf [2]) (.leaf [2]))))
noncomputable def Nbu : Ctx := ⟨tlook tys,olook [],ioF,0,false,[]⟩
theorem Nte (a : List Int) : Link Nbu LL (bodyOf Tryd.f18) Nb7 ⟨mkE 11 0 [(0,dV a)],[]⟩ (N8r a) (fun (t : (List Int)) => (Exit.ret,⟨mkE 11 0 [(2,.ptr 0 0)],[some (.box [dV t,dI 0])]⟩)) := .of fun K h => by
  simp only [N8r,wpW] at h
  exact .of (by kernel_rfl) h
theorem Np6 (a : List Int) {r : AV} {H' : Heap} (h : (Ans.mk _ (N30 a) (fun (t : (List Int)) => (.ptr 0 0,[some (.box [dV t,dI 0])])) [] none).run = some (r,H')) : Awp Nbu LL (bodyOf Tryd.f18) Nb7 ⟨mkE 11 0 [(0,dV a)],[]⟩ (Ret (tlook tys) Tryd.f18.results.toList r H') :=
  ret_of' (Nte a) (by unfold N30; kernel_rfl) (by
  intro t
  exact ret_mk [.ptr 0 0] (by kernel_rfl) (by kernel_rfl) (by kernel_rfl) (by kernel_rfl)) h
def Nbd : Fun := fun avs H =>
  match avs,H with
  | [.dat (.list (.int .u8)) a],[] => ⟨_,N30 a,fun (t : (List Int)) => (.ptr 0 0,[some (.box [dV t,dI 0])]),[],none⟩
  | _,_ => Ans.no
theorem Nmw : Sound Tryd.prog 18 Nbd := by
  refine fn_sound' (C := Nbu) (c := bodyOf Tryd.f18) (cok_of tys_ok (alln) (alln) (by kernel_rfl)) Tryd.func18 (by kernel_rfl) LL Nb7 ?_
  intro avs H r H' h
  unfold Nbd at h
  split at h
  · refine Awp.cast ?_ ?_ ?_ (Np6 _ h) <;> kernel_rfl
  · simp [Ans.no,Ans.run] at h

def N9v : Ann := (.seq (.leaf [0,1]) (.seq (.leaf [0,1]) (.seq (.seq (.leaf [0,1,24]) (.cond (.seq (.leaf [4]) (.leaf [4])) (.leaf [0,1]))) (.seq (.leaf [0,1,5]) (.seq (.seq (.leaf [0,1,5,36]) (.cond (.seq (.leaf [4]) (.leaf [4])) (.leaf [0,1,5]))) (.seq (.draw [] [0,1,2,3,4,5,6,7,8,9,10,11,12,13,14,15,16,17,18,19,20,21,22,23,24,25,26,27,28,29,30,31,32,33,34,35,36,37,38,39,40,41,42,43,44,45] [] [1,6]) (.seq (.leaf [1,6]) (.seq (.leaf [4]) (.leaf [4])))))))))
noncomputable def N9s : Ctx := ⟨tlook tys,olook [],ioF,1,false,[]⟩
theorem Nqs (a : Int) (b : List Int) (c : Int) : Link N9s LL (bodyOf Tryd.f40) N9v ⟨mkE 99 0 [(0,.ptr 0 0),(1,dI a)],[some (.box [dV b,dI c])]⟩ (N8e a b c) (fun (t : Int × Int) => (Exit.ret,⟨mkE 99 0 [(4,dI t.1)],[some (.box [dV b,dI t.2])]⟩)) := .of fun K h => by
  simp only [N8e,wpW] at h
  exact .of (by kernel_rfl) h
theorem Nw9 (a : Int) (b : List Int) (c : Int) {r : AV} {H' : Heap} (h : (Ans.mk _ (N0 a b c) (fun (t : Int × Int) => (dI t.1,[some (.box [dV b,dI t.2])])) [] none).run = some (r,H')) : Awp N9s LL (bodyOf Tryd.f40) N9v ⟨mkE 99 0 [(0,.ptr 0 0),(1,dI a)],[some (.box [dV b,dI c])]⟩ (Ret (tlook tys) Tryd.f40.results.toList r H') :=
  ret_of' (Nqs a b c) (by unfold N0; kernel_rfl) (by
  intro t
  exact ret_mk [dI t.1] (by kernel_rfl) (by kernel_rfl) (by kernel_rfl) (by kernel_rfl)) h
def Nj : Fun := fun avs H =>
  match avs,H with
  | [.ptr 0 0,.dat (.int .i64) a],[some (.box [.dat (.list (.int .u8)) b,.dat (.int .i64) c])] => ⟨_,N0 a b c,fun (t : Int × Int) => (dI t.1,[some (.box [dV b,dI t.2])]),[],none⟩
  | _,_ => Ans.no
theorem N18 : Sound Tryd.prog 40 Nj := by
  refine fn_sound' (C := N9s) (c := bodyOf Tryd.f40) (cok_of tys_ok (alln) (alln) (by kernel_rfl)) Tryd.func40 (by kernel_rfl) LL N9v ?_
  intro avs H r H' h
  unfold Nj at h
  split at h
  · refine Awp.cast ?_ ?_ ?_ (Nw9 _ _ _ h) <;> kernel_rfl
  · simp [Ans.no,Ans.run] at h

def Nm : Ann := (.seq (.leaf [0,1]) (.seq (.leaf [0,1,5]) (.seq (.leaf [0,1,5,6]) (.seq (.seq (.leaf [0,1,5,6,7]) (.block (.loop (.seq (.seq (.leaf [0,1,5,6,7,15]) (.cond (.leaf [0,1,5,6,7]) (.leaf [5]))) (.seq (.block (.seq (.leaf [0,1,5,6,7,8]) (.seq (.seq (.leaf [0,1,5,6,7,8,26]) (.cond (.leaf [0,1,5,6,7,8]) (.leaf [0,1,5,6,7,8]))) (.seq (.leaf [0,1,5,6,7,8,9]) (.seq (.leaf [0,1,5,6,7,8,9]) (.leaf [0,1,5,6,7])))))) (.leaf [0,1,5,6,7])))))) (.seq (.leaf [4]) (.leaf [4]))))))
noncomputable def N3c : Ctx := ⟨tlook tys,olook [(40,Nj)],ioF,1,false,[]⟩
theorem Nl3 (a : Int) (b : List Int) (c : Int) : Link N3c LL (Code.seq (cq [0] (bodyOf Tryd.f58)) (Code.seq (cq [0,1] (bodyOf Tryd.f58)) (cq [0,1,1] (bodyOf Tryd.f58)))) (Ann.seq (aq [0] Nm) (Ann.seq (aq [0,1] Nm) (aq [0,1,1] Nm))) ⟨mkE 45 0 [(0,.ptr 0 0),(1,dI a)],[some (.box [dV b,dI c])]⟩ (N5u b c) (fun (t : Int × Int) => (Exit.normal,⟨mkE 45 0 [(0,.ptr 0 0),(1,dI a),(5,.slc 1),(6,dI t.1)],[some (.box [dV b,dI t.2]),some (sI ([] : List Int))]⟩)) := .of fun K h => by
  simp only [N5u,wpW] at h
  exact .of (by kernel_rfl) h
theorem Nsq (a b : Int) (c : List Int) (d : Int) : Link N3c LL (cq [0,0,1,1,1] (bodyOf Tryd.f58)) (aq [0,0,1,1,1] Nm) ⟨mkE 45 0 [(0,.ptr 0 0),(1,dI a),(5,.slc 1),(6,dI b)],[some (.box [dV c,dI d]),some (sI ([] : List Int))]⟩ (N6i) (fun (t : Unit) => (Exit.normal,⟨mkE 45 0 [(0,.ptr 0 0),(1,dI a),(5,.slc 1),(6,dI b),(7,dI 1)],[some (.box [dV c,dI d]),some (sI ([] : List Int))]⟩)) := .of fun K h => by
  simp only [N6i,wpW] at h
  exact .of (by kernel_rfl) h
theorem Nvc (a b c : Int) (d : List Int) (g : Int) (i : List Int) : Link N3c LL (cq [0,0,1,0,1,1,1] (bodyOf Tryd.f58)) (aq [0,0,1,0,1,1,1] Nm) ⟨mkE 45 0 [(0,.ptr 0 0),(1,dI a),(5,.slc 1),(6,dI b),(7,dI c)],[some (.box [dV d,dI g]),some (sI i)]⟩ (N53 a b c d g i) (Sum.elim (fun (t : Int × Int × (List Int)) => (Exit.normal,⟨mkE 45 0 [(0,.ptr 0 0),(1,dI a),(5,.slc 1),(6,dI b),(7,dI t.1)],[some (.box [dV d,dI t.2.1]),some (sI t.2.2)]⟩)) (fun (t : Int × (List Int)) => ((Exit.exit 0),⟨mkE 45 0 [(5,.slc 1)],[some (.box [dV d,dI t.1]),some (sI t.2)]⟩))) := .of fun K h => by
  simp only [N53,wpW] at h
  exact .of (by kernel_rfl) h
theorem Nxd (a : List Int) (b : Int) (c : List Int) : Link N3c LL (cq [1,1,1,1] (bodyOf Tryd.f58)) (aq [1,1,1,1] Nm) ⟨mkE 45 0 [(5,.slc 1)],[some (.box [dV a,dI b]),some (sI c)]⟩ (Nb2 b c) (fun (t : Int × (List Int)) => (Exit.ret,⟨mkE 45 0 [(4,.slc 1)],[some (.box [dV a,dI t.1]),some (sI t.2)]⟩)) := .of fun K h => by
  simp only [Nb2,wpW] at h
  exact .of (by kernel_rfl) h
theorem Nvs (b : Int) (d : List Int) (g : Int) {r : AV} {H' : Heap} (h : (Ans.mk _ (N2p b d g) (fun (t : Int × (List Int)) => (.slc 1,[some (.box [dV d,dI t.1]),some (sI t.2)])) [] none).run = some (r,H')) : Awp N3c LL (bodyOf Tryd.f58) Nm ⟨mkE 45 0 [(0,.ptr 0 0),(1,dI b)],[some (.box [dV d,dI g])]⟩ (Ret (tlook tys) Tryd.f58.results.toList r H') :=
  ret_of' (Link.cast (by kernel_rfl) (by kernel_rfl) (link_group (c := (cq [0,1,1] (bodyOf Tryd.f58))) (a := (aq [0,1,1] Nm)) [(cq [0] (bodyOf Tryd.f58)),(cq [0,1] (bodyOf Tryd.f58))] [(aq [0] Nm),(aq [0,1] Nm)] rfl (link_seq (Nl3 b d g) (fun (t : Int × Int) => (link_seq (link_seq (Nsq b t.1 d t.2) (fun (t25 : Unit) => (link_block (fin2 := (fun (t25 : Int × (List Int)) => (Exit.normal,⟨mkE 45 0 [(5,.slc 1)],[some (.box [dV d,dI t25.1]),some (sI t25.2)]⟩))) (id := 0) (link_loop (mk := fun (s : Int × Int × (List Int)) => ⟨mkE 45 0 [(0,.ptr 0 0),(1,dI b),(5,.slc 1),(6,dI t.1),(7,dI s.1)],[some (.box [dV d,dI s.2.1]),some (sI s.2.2)]⟩) (fin := (fun (t25 : Int × (List Int)) => ((Exit.exit 0),⟨mkE 45 0 [(5,.slc 1)],[some (.box [dV d,dI t25.1]),some (sI t25.2)]⟩))) (by
  rintro t25 f K h
  · exact h) (fun s => link_map (Nvc b t.1 s.1 d s.2.1 s.2.2) (Sum.elim (fun (t25 : Int × Int × (List Int)) => Sum.inl (t25.1,t25.2.1,t25.2.2)) (fun (t25 : Int × (List Int)) => Sum.inr t25)) (by
  rintro (t25 | t25)
  · kernel_rfl
  · kernel_rfl)) (1,t.2,([] : List Int))) (fun (t25 : Int × (List Int)) => (t25.1,t25.2)) (by
  rintro t25 K h
  · exact Eq.mp (by kernel_rfl) h)))) (fun (t25 : Int × (List Int)) => (Nxd d t25.1 t25.2))))))) (by unfold N2p; kernel_rfl) (by
  intro t
  exact ret_mk [.slc 1] (by kernel_rfl) (by kernel_rfl) (by kernel_rfl) (by kernel_rfl)) h
def N84 : Fun := fun avs H =>
  match avs,H with
  | [.ptr 0 0,.dat (.int .i64) a],[some (.box [.dat (.list (.int .u8)) b,.dat (.int .i64) c])] => ⟨_,N2p a b c,fun (t : Int × (List Int)) => (.slc 1,[some (.box [dV b,dI t.1]),some (sI t.2)]),[],none⟩
  | _,_ => Ans.no
theorem Nh1 : Sound Tryd.prog 58 N84 := by
  refine fn_sound' (C := N3c) (c := bodyOf Tryd.f58) (cok_of tys_ok (allc N18 alln) (allc Tryd.call40 alln) (by kernel_rfl)) Tryd.func58 (by kernel_rfl) LL Nm ?_
  intro avs H r H' h
  unfold N84 at h
  split at h
  · refine Awp.cast ?_ ?_ ?_ (Nvs _ _ _ h) <;> kernel_rfl
  · simp [Ans.no,Ans.run] at h

def Nbo : Ann := (.seq (.leaf [0,1]) (.seq (.leaf [4]) (.leaf [4])))
noncomputable def Nbk : Ctx := ⟨tlook tys,olook [(40,Nj)],ioF,1,false,[]⟩
theorem Nmu (a : Int) (b : List Int) (c : Int) : Link Nbk LL (bodyOf Tryd.f36) Nbo ⟨mkE 15 0 [(0,.ptr 0 0),(1,dI a)],[some (.box [dV b,dI c])]⟩ (N8f a b c) (fun (t : Bool × Int) => (Exit.ret,⟨mkE 15 0 [(4,dB t.1)],[some (.box [dV b,dI t.2])]⟩)) := .of fun K h => by
  simp only [N8f,wpW] at h
  exact .of (by kernel_rfl) h
theorem Nkt (a : Int) (b : List Int) (c : Int) {r : AV} {H' : Heap} (h : (Ans.mk _ (Ni a b c) (fun (t : Bool × Int) => (dB t.1,[some (.box [dV b,dI t.2])])) [] none).run = some (r,H')) : Awp Nbk LL (bodyOf Tryd.f36) Nbo ⟨mkE 15 0 [(0,.ptr 0 0),(1,dI a)],[some (.box [dV b,dI c])]⟩ (Ret (tlook tys) Tryd.f36.results.toList r H') :=
  ret_of' (Nmu a b c) (by unfold Ni; kernel_rfl) (by
  intro t
  exact ret_mk [dB t.1] (by kernel_rfl) (by kernel_rfl) (by kernel_rfl) (by kernel_rfl)) h
def N3r : Fun := fun avs H =>
  match avs,H with
  | [.ptr 0 0,.dat (.int .i64) a],[some (.box [.dat (.list (.int .u8)) b,.dat (.int .i64) c])] => ⟨_,Ni a b c,fun (t : Bool × Int) => (dB t.1,[some (.box [dV b,dI t.2])]),[],none⟩
  | _,_ => Ans.no
theorem N7v : Sound Tryd.prog 36 N3r := by
  refine fn_sound' (C := Nbk) (c := bodyOf Tryd.f36) (cok_of tys_ok (allc N18 alln) (allc Tryd.call40 alln) (by kernel_rfl)) Tryd.func36 (by kernel_rfl) LL Nbo ?_
  intro avs H r H' h
  unfold N3r at h
  split at h
  · refine Awp.cast ?_ ?_ ?_ (Nkt _ _ _ h) <;> kernel_rfl
  · simp [Ans.no,Ans.run] at h

def N4 : Ann := (.seq (.leaf [0,1]) (.seq (.leaf [0,1,5]) (.seq (.leaf [0,1,5,6]) (.seq (.leaf [0,1,5,6,7]) (.seq (.leaf [0,1,5,6,7,8]) (.seq (.seq (.leaf [0,1,5,6,7,8,9]) (.block (.loop (.seq (.seq (.leaf [0,1,5,6,7,8,9,23]) (.cond (.leaf [0,1,5,6,7,8,9]) (.leaf [0,1,5,7]))) (.seq (.block (.seq (.leaf [0,1,5,6,7,8,9,10]) (.seq (.seq (.leaf [0,1,5,6,7,8,9,10,35]) (.cond (.leaf [0,1,5,6,7,8,9,10]) (.leaf [0,1,5,6,7,8,9,10]))) (.draw [] [0,1,2,3,4,5,6,7,8,9,10,11] [] [0,1,5,6,7,8,9])))) (.leaf [0,1,5,6,7,8,9])))))) (.seq (.seq (.leaf [0,5,7,51]) (.cond (.seq (.leaf [0,5,7,53]) (.block (.seq (.leaf [0,5,7,53,63]) (.cond (.seq (.leaf [4]) (.leaf [4])) (.seq (.leaf [0,5,7,53,66]) (.cond (.seq (.leaf [4]) (.leaf [4])) (.seq (.leaf [0,5,7,69]) (.cond (.seq (.leaf [7]) (.seq (.leaf [4]) (.leaf [4]))) (.leaf [7]))))))))) (.leaf [7]))) (.seq (.leaf [4]) (.leaf [4])))))))))
noncomputable def N3k : Ctx := ⟨tlook tys,olook [(40,Nj),(58,N84),(36,N3r)],ioF,1,false,[]⟩
theorem Nl5 (a : Int) (b : List Int) (c : Int) : Link N3k LL (Code.seq (cq [0] (bodyOf Tryd.f56)) (Code.seq (cq [0,1] (bodyOf Tryd.f56)) (Code.seq (cq [0,1,1] (bodyOf Tryd.f56)) (Code.seq (cq [0,1,1,1] (bodyOf Tryd.f56)) (cq [0,1,1,1,1] (bodyOf Tryd.f56)))))) (Ann.seq (aq [0] N4) (Ann.seq (aq [0,1] N4) (Ann.seq (aq [0,1,1] N4) (Ann.seq (aq [0,1,1,1] N4) (aq [0,1,1,1,1] N4))))) ⟨mkE 80 0 [(0,.ptr 0 0),(1,dI a)],[some (.box [dV b,dI c])]⟩ (N76 b c) (fun (t : Int × Int × Int × (List Int) × (List Int)) => (Exit.normal,⟨mkE 80 0 [(0,.ptr 0 0),(1,dI a),(5,dI t.1),(6,.slc 1),(7,.slc 2),(8,dI t.2.1)],[some (.box [dV b,dI t.2.2.1]),some (sI t.2.2.2.1),some (sI t.2.2.2.2)]⟩)) := .of fun K h => by
  simp only [N76,wpW] at h
  exact .of (by kernel_rfl) h
theorem Nqr (a b c : Int) (d : List Int) (g : Int) (i j : List Int) : Link N3k LL (cq [0,0,1,1,1,1,1] (bodyOf Tryd.f56)) (aq [0,0,1,1,1,1,1] N4) ⟨mkE 80 0 [(0,.ptr 0 0),(1,dI a),(5,dI b),(6,.slc 1),(7,.slc 2),(8,dI c)],[some (.box [dV d,dI g]),some (sI i),some (sI j)]⟩ (N97) (fun (t : Unit) => (Exit.normal,⟨mkE 80 0 [(0,.ptr 0 0),(1,dI a),(5,dI b),(6,.slc 1),(7,.slc 2),(8,dI c),(9,dI 1)],[some (.box [dV d,dI g]),some (sI i),some (sI j)]⟩)) := .of fun K h => by
  simp only [N97,wpW] at h
  exact .of (by kernel_rfl) h
theorem Nqn (a b c d : Int) (g : List Int) (i : Int) (j k : List Int) : Link N3k LL (cq [0,0,1,0,1,1,1,1,1] (bodyOf Tryd.f56)) (aq [0,0,1,0,1,1,1,1,1] N4) ⟨mkE 80 0 [(0,.ptr 0 0),(1,dI a),(5,dI b),(6,.slc 1),(7,.slc 2),(8,dI c),(9,dI d)],[some (.box [dV g,dI i]),some (sI j),some (sI k)]⟩ (N50 b c d g i j k) (Sum.elim (fun (t : Int × Int × (List Int)) => (Exit.normal,⟨mkE 80 0 [(0,.ptr 0 0),(1,dI a),(5,dI b),(6,.slc 1),(7,.slc 2),(8,dI c),(9,dI t.1)],[some (.box [dV g,dI t.2.1]),some (sI j),some (sI t.2.2)]⟩)) (fun (t : Int × (List Int)) => ((Exit.exit 0),⟨mkE 80 0 [(0,.ptr 0 0),(1,dI a),(5,dI b),(7,.slc 1)],[some (.box [dV g,dI t.1]),some (sI t.2)]⟩))) := .of fun K h => by
  simp only [N50,wpW] at h
  exact .of (by kernel_rfl) h
theorem Nw4 (a b : Int) (c : List Int) (d : Int) (g : List Int) : Link N3k LL (cq [1,1,1,1,1,1] (bodyOf Tryd.f56)) (aq [1,1,1,1,1,1] N4) ⟨mkE 80 0 [(0,.ptr 0 0),(1,dI a),(5,dI b),(7,.slc 1)],[some (.box [dV c,dI d]),some (sI g)]⟩ (N8q a b c d g) (fun (t : Int × (List Int)) => (Exit.ret,⟨mkE 80 0 [(4,.slc 1)],[some (.box [dV c,dI t.1]),some (sI t.2)]⟩)) := .of fun K h => by
  simp only [N8q,wpW] at h
  exact .of (by kernel_rfl) h
theorem Nql (b : Int) (d : List Int) (g : Int) {r : AV} {H' : Heap} (h : (Ans.mk _ (N22 b d g) (fun (t : Int × (List Int)) => (.slc 1,[some (.box [dV d,dI t.1]),some (sI t.2)])) [] none).run = some (r,H')) : Awp N3k LL (bodyOf Tryd.f56) N4 ⟨mkE 80 0 [(0,.ptr 0 0),(1,dI b)],[some (.box [dV d,dI g])]⟩ (Ret (tlook tys) Tryd.f56.results.toList r H') :=
  ret_of' (Link.cast (by kernel_rfl) (by kernel_rfl) (link_group (c := (cq [0,1,1,1,1] (bodyOf Tryd.f56))) (a := (aq [0,1,1,1,1] N4)) [(cq [0] (bodyOf Tryd.f56)),(cq [0,1] (bodyOf Tryd.f56)),(cq [0,1,1] (bodyOf Tryd.f56)),(cq [0,1,1,1] (bodyOf Tryd.f56))] [(aq [0] N4),(aq [0,1] N4),(aq [0,1,1] N4),(aq [0,1,1,1] N4)] rfl (link_seq (Nl5 b d g) (fun (t : Int × Int × Int × (List Int) × (List Int)) => (link_seq (link_seq (Nqr b t.1 t.2.1 d t.2.2.1 t.2.2.2.1 t.2.2.2.2) (fun (t26 : Unit) => (link_block (fin2 := (fun (t26 : Int × (List Int)) => (Exit.normal,⟨mkE 80 0 [(0,.ptr 0 0),(1,dI b),(5,dI t.1),(7,.slc 1)],[some (.box [dV d,dI t26.1]),some (sI t26.2)]⟩))) (id := 0) (link_loop (mk := fun (s : Int × Int × (List Int)) => ⟨mkE 80 0 [(0,.ptr 0 0),(1,dI b),(5,dI t.1),(6,.slc 1),(7,.slc 2),(8,dI t.2.1),(9,dI s.1)],[some (.box [dV d,dI s.2.1]),some (sI t.2.2.2.1),some (sI s.2.2)]⟩) (fin := (fun (t26 : Int × (List Int)) => ((Exit.exit 0),⟨mkE 80 0 [(0,.ptr 0 0),(1,dI b),(5,dI t.1),(7,.slc 1)],[some (.box [dV d,dI t26.1]),some (sI t26.2)]⟩))) (by
  rintro t26 f K h
  · exact h) (fun s => link_map (Nqn b t.1 t.2.1 s.1 d s.2.1 t.2.2.2.1 s.2.2) (Sum.elim (fun (t26 : Int × Int × (List Int)) => Sum.inl (t26.1,t26.2.1,t26.2.2)) (fun (t26 : Int × (List Int)) => Sum.inr t26)) (by
  rintro (t26 | t26)
  · kernel_rfl
  · kernel_rfl)) (1,t.2.2.1,t.2.2.2.2)) (fun (t26 : Int × (List Int)) => (t26.1,t26.2)) (by
  rintro t26 K h
  · exact Eq.mp (by kernel_rfl) h)))) (fun (t26 : Int × (List Int)) => (Nw4 b t.1 d t26.1 t26.2))))))) (by unfold N22; kernel_rfl) (by
  intro t
  exact ret_mk [.slc 1] (by kernel_rfl) (by kernel_rfl) (by kernel_rfl) (by kernel_rfl)) h
def N8u : Fun := fun avs H =>
  match avs,H with
  | [.ptr 0 0,.dat (.int .i64) a],[some (.box [.dat (.list (.int .u8)) b,.dat (.int .i64) c])] => ⟨_,N22 a b c,fun (t : Int × (List Int)) => (.slc 1,[some (.box [dV b,dI t.1]),some (sI t.2)]),[],none⟩
  | _,_ => Ans.no
theorem Ng1 : Sound Tryd.prog 56 N8u := by
  refine fn_sound' (C := N3k) (c := bodyOf Tryd.f56) (cok_of tys_ok (allc N18 (allc Nh1 (allc N7v alln))) (allc Tryd.call40 (allc Tryd.call58 (allc Tryd.call36 alln))) (by kernel_rfl)) Tryd.func56 (by kernel_rfl) LL N4 ?_
  intro avs H r H' h
  unfold N8u at h
  split at h
  · refine Awp.cast ?_ ?_ ?_ (Nql _ _ _ h) <;> kernel_rfl
  · simp [Ans.no,Ans.run] at h

def Ndg : Ann := (.seq (.leaf [0,1,2]) (.seq (.leaf [6]) (.leaf [6])))
noncomputable def Nba : Ctx := ⟨tlook tys,olook [],ioF,0,false,[]⟩
theorem Nwa (a b c : Int) : Link Nba LL (bodyOf Tryd.f46) Ndg ⟨mkE 15 0 [(0,dI a),(1,dI b),(2,dI c)],[]⟩ (N75 a b c) (fun (t : Bool) => (Exit.ret,⟨mkE 15 0 [(6,dB t)],[]⟩)) := .of fun K h => by
  simp only [N75,wpW] at h
  exact .of (by kernel_rfl) h
theorem Nqo (a b c : Int) {r : AV} {H' : Heap} (h : (Ans.mk _ (Nr a b c) (fun (t : Bool) => (dB t,[])) [] none).run = some (r,H')) : Awp Nba LL (bodyOf Tryd.f46) Ndg ⟨mkE 15 0 [(0,dI a),(1,dI b),(2,dI c)],[]⟩ (Ret (tlook tys) Tryd.f46.results.toList r H') :=
  ret_of' (Nwa a b c) (by unfold Nr; kernel_rfl) (by
  intro t
  exact ret_mk [dB t] (by kernel_rfl) (by kernel_rfl) (by kernel_rfl) (by kernel_rfl)) h
def N4z : Fun := fun avs H =>
  match avs,H with
  | [.dat (.int .i64) a,.dat (.int .i64) b,.dat (.int .i64) c],[] => ⟨_,Nr a b c,fun (t : Bool) => (dB t,[]),[],none⟩
  | _,_ => Ans.no
theorem Ndd : Sound Tryd.prog 46 N4z := by
  refine fn_sound' (C := Nba) (c := bodyOf Tryd.f46) (cok_of tys_ok (alln) (alln) (by kernel_rfl)) Tryd.func46 (by kernel_rfl) LL Ndg ?_
  intro avs H r H' h
  unfold N4z at h
  split at h
  · refine Awp.cast ?_ ?_ ?_ (Nqo _ _ _ h) <;> kernel_rfl
  · simp [Ans.no,Ans.run] at h

def N1 : Ann := (.seq (.leaf [0]) (.seq (.leaf [0,3]) (.seq (.seq (.leaf [0,3,12]) (.cond (.seq (.leaf [2]) (.leaf [2])) (.leaf [0,3]))) (.seq (.leaf [0,3,4]) (.seq (.seq (.leaf [0,3,4,5]) (.block (.loop (.seq (.seq (.leaf [0,3,4,5,15]) (.cond (.leaf [0,3,4,5]) (.leaf [4]))) (.seq (.block (.seq (.seq (.leaf [0,3,4,5,33]) (.cond (.seq (.leaf [2]) (.leaf [2])) (.leaf [0,3,4,5]))) (.seq (.seq (.leaf [0,3,4,5,38]) (.cond (.leaf [0,3,4,5]) (.leaf [0,3,4,5]))) (.seq (.leaf [0,3,4,5,6]) (.seq (.seq (.leaf [0,3,4,5,6,7]) (.block (.loop (.seq (.seq (.leaf [0,3,4,5,6,7,49]) (.cond (.leaf [0,3,4,5,6,7]) (.leaf [0,3,4,5,6]))) (.seq (.block (.seq (.leaf [0,3,4,5,6,7]) (.seq (.leaf [0,3,4,5,6,7,60]) (.cond (.seq (.leaf [2]) (.leaf [2])) (.leaf [0,3,4,5,6,7]))))) (.leaf [0,3,4,5,6,7])))))) (.seq (.leaf [0,3,4,5,62]) (.cond (.seq (.leaf [2]) (.leaf [2])) (.leaf [0,3,4,5])))))))) (.leaf [0,3,4,5])))))) (.seq (.leaf [2]) (.leaf [2])))))))
noncomputable def Nn : Ctx := ⟨tlook tys,olook [(46,N4z)],ioF,0,false,[]⟩
theorem Np9 (a : List Int) : Link Nn LL (Code.seq (cq [0] (bodyOf Tryd.f27)) (Code.seq (cq [0,1] (bodyOf Tryd.f27)) (Code.seq (cq [0,1,1] (bodyOf Tryd.f27)) (cq [0,1,1,1] (bodyOf Tryd.f27))))) (Ann.seq (aq [0] N1) (Ann.seq (aq [0,1] N1) (Ann.seq (aq [0,1,1] N1) (aq [0,1,1,1] N1)))) ⟨mkE 65 0 [(0,dL a)],[]⟩ (N60 a) (Sum.elim (fun (t : Int) => (Exit.normal,⟨mkE 65 0 [(0,dL a),(3,dI t),(4,dI 0)],[]⟩)) (fun (t : Bool) => (Exit.ret,⟨mkE 65 0 [(2,dB t)],[]⟩))) := .of fun K h => by
  simp only [N60,wpW] at h
  exact .of (by kernel_rfl) h
theorem Ns4 (a : List Int) (b : Int) : Link Nn LL (cq [0,0,1,1,1,1] (bodyOf Tryd.f27)) (aq [0,0,1,1,1,1] N1) ⟨mkE 65 0 [(0,dL a),(3,dI b),(4,dI 0)],[]⟩ (N9e) (fun (t : Unit) => (Exit.normal,⟨mkE 65 0 [(0,dL a),(3,dI b),(4,dI 0),(5,dI 0)],[]⟩)) := .of fun K h => by
  simp only [N9e,wpW] at h
  exact .of (by kernel_rfl) h
theorem Nwo (a : List Int) (b c d : Int) : Link Nn LL (cq [0,0,0,1,0,1,1,1,1] (bodyOf Tryd.f27)) (aq [0,0,0,1,0,1,1,1,1] N1) ⟨mkE 65 0 [(0,dL a),(3,dI b),(4,dI c),(5,dI d)],[]⟩ (N4x b c d) (Sum.elim (fun (t : Unit) => (Exit.normal,⟨mkE 65 0 [(0,dL a),(3,dI b),(4,dI c),(5,dI d)],[]⟩)) (fun (t : Int) => ((Exit.exit 0),⟨mkE 65 0 [(4,dI t)],[]⟩))) := .of fun K h => by
  simp only [N4x,wpW] at h
  exact .of (by kernel_rfl) h
theorem Nv9 (a : List Int) (b c d : Int) : Link Nn LL (Code.seq (cq [0,0,0,1,0,0,1,0,1,1,1,1] (bodyOf Tryd.f27)) (Code.seq (cq [0,1,0,0,1,0,0,1,0,1,1,1,1] (bodyOf Tryd.f27)) (cq [0,1,1,0,0,1,0,0,1,0,1,1,1,1] (bodyOf Tryd.f27)))) (Ann.seq (aq [0,0,0,1,0,0,1,0,1,1,1,1] N1) (Ann.seq (aq [0,1,0,0,1,0,0,1,0,1,1,1,1] N1) (aq [0,1,1,0,0,1,0,0,1,0,1,1,1,1] N1))) ⟨mkE 65 0 [(0,dL a),(3,dI b),(4,dI c),(5,dI d)],[]⟩ (N5x a b c d) (Sum.elim (fun (t : Int × Int) => (Exit.normal,⟨mkE 65 0 [(0,dL a),(3,dI b),(4,dI t.1),(5,dI d),(6,dI t.2)],[]⟩)) (fun (t : Bool) => (Exit.ret,⟨mkE 65 0 [(2,dB t)],[]⟩))) := .of fun K h => by
  simp only [N5x,wpW] at h
  exact .of (by kernel_rfl) h
theorem Nu9 (a : List Int) (b c d g : Int) : Link Nn LL (cq [0,0,1,1,1,0,0,1,0,0,1,0,1,1,1,1] (bodyOf Tryd.f27)) (aq [0,0,1,1,1,0,0,1,0,0,1,0,1,1,1,1] N1) ⟨mkE 65 0 [(0,dL a),(3,dI b),(4,dI c),(5,dI d),(6,dI g)],[]⟩ (N6n) (fun (t : Unit) => (Exit.normal,⟨mkE 65 0 [(0,dL a),(3,dI b),(4,dI c),(5,dI d),(6,dI g),(7,dI 0)],[]⟩)) := .of fun K h => by
  simp only [N6n,wpW] at h
  exact .of (by kernel_rfl) h
theorem Nuy (a : List Int) (b c d g i : Int) : Link Nn LL (cq [0,0,1,0,1,1,1,0,0,1,0,0,1,0,1,1,1,1] (bodyOf Tryd.f27)) (aq [0,0,1,0,1,1,1,0,0,1,0,0,1,0,1,1,1,1] N1) ⟨mkE 65 0 [(0,dL a),(3,dI b),(4,dI c),(5,dI d),(6,dI g),(7,dI i)],[]⟩ (N52 a b g i) (Sum.elim (fun (t : Int × Int) => (Exit.normal,⟨mkE 65 0 [(0,dL a),(3,dI b),(4,dI c),(5,dI d),(6,dI t.1),(7,dI t.2)],[]⟩)) (Sum.elim (fun (t : Bool) => (Exit.ret,⟨mkE 65 0 [(2,dB t)],[]⟩)) (fun (t : Int) => ((Exit.exit 2),⟨mkE 65 0 [(0,dL a),(3,dI b),(4,dI c),(5,dI d),(6,dI t)],[]⟩)))) := .of fun K h => by
  simp only [N52,wpW] at h
  exact .of (by kernel_rfl) h
theorem Nmc (a : List Int) (b c d g : Int) : Link Nn LL (cq [1,1,1,1,0,0,1,0,0,1,0,1,1,1,1] (bodyOf Tryd.f27)) (aq [1,1,1,1,0,0,1,0,0,1,0,1,1,1,1] N1) ⟨mkE 65 0 [(0,dL a),(3,dI b),(4,dI c),(5,dI d),(6,dI g)],[]⟩ (N7w g) (Sum.elim (fun (t : Unit) => (Exit.normal,⟨mkE 65 0 [(0,dL a),(3,dI b),(4,dI c),(5,dI d)],[]⟩)) (fun (t : Bool) => (Exit.ret,⟨mkE 65 0 [(2,dB t)],[]⟩))) := .of fun K h => by
  simp only [N7w,wpW] at h
  exact .of (by kernel_rfl) h
theorem Nl1 (a : List Int) (b c d : Int) : Link Nn LL (cq [1,1,0,0,1,0,1,1,1,1] (bodyOf Tryd.f27)) (aq [1,1,0,0,1,0,1,1,1,1] N1) ⟨mkE 65 0 [(0,dL a),(3,dI b),(4,dI c),(5,dI d)],[]⟩ (N89 d) (fun (t : Int) => (Exit.normal,⟨mkE 65 0 [(0,dL a),(3,dI b),(4,dI c),(5,dI t)],[]⟩)) := .of fun K h => by
  simp only [N89,wpW] at h
  exact .of (by kernel_rfl) h
theorem Nr8 (a : Int) : Link Nn LL (cq [1,1,1,1,1] (bodyOf Tryd.f27)) (aq [1,1,1,1,1] N1) ⟨mkE 65 0 [(4,dI a)],[]⟩ (N7n a) (fun (t : Bool) => (Exit.ret,⟨mkE 65 0 [(2,dB t)],[]⟩)) := .of fun K h => by
  simp only [N7n,wpW] at h
  exact .of (by kernel_rfl) h
theorem Nob (b : List Int) {r : AV} {H' : Heap} (h : (Ans.mk _ (N6 b) (fun (t : Bool) => (dB t,[])) [] none).run = some (r,H')) : Awp Nn LL (bodyOf Tryd.f27) N1 ⟨mkE 65 0 [(0,dL b)],[]⟩ (Ret (tlook tys) Tryd.f27.results.toList r H') :=
  ret_of' (Link.cast (by kernel_rfl) (by kernel_rfl) (link_group (c := (cq [0,1,1,1] (bodyOf Tryd.f27))) (a := (aq [0,1,1,1] N1)) [(cq [0] (bodyOf Tryd.f27)),(cq [0,1] (bodyOf Tryd.f27)),(cq [0,1,1] (bodyOf Tryd.f27))] [(aq [0] N1),(aq [0,1] N1),(aq [0,1,1] N1)] rfl (link_seq2 (Np9 b) (fun (t : Int) => (link_seq2 (link_seq (Ns4 b t) (fun (t28 : Unit) => (link_block (fin2 := (Sum.elim (fun (t28 : Int) => (Exit.normal,⟨mkE 65 0 [(4,dI t28)],[]⟩)) (fun (t28 : Bool) => (Exit.ret,⟨mkE 65 0 [(2,dB t28)],[]⟩)))) (id := 0) (link_loop (mk := fun (s : Int × Int) => ⟨mkE 65 0 [(0,dL b),(3,dI t),(4,dI s.1),(5,dI s.2)],[]⟩) (fin := (Sum.elim (fun (t28 : Bool) => (Exit.ret,⟨mkE 65 0 [(2,dB t28)],[]⟩)) (fun (t28 : Int) => ((Exit.exit 0),⟨mkE 65 0 [(4,dI t28)],[]⟩)))) (by
  rintro (t28 | t28) f K h
  · exact h
  · exact h) (fun s => link_map (link_seq2 (Nwo b t s.1 s.2) (fun (t43 : Unit) => (link_map (fin2 := (Sum.elim (fun (t43 : Int × Int) => (Exit.normal,⟨mkE 65 0 [(0,dL b),(3,dI t),(4,dI t43.1),(5,dI t43.2)],[]⟩)) (Sum.elim (fun (t43 : Bool) => (Exit.ret,⟨mkE 65 0 [(2,dB t43)],[]⟩)) (fun (t43 : Int) => ((Exit.exit 0),⟨mkE 65 0 [(4,dI t43)],[]⟩))))) (link_seq2 (link_block (fin2 := (Sum.elim (fun (t43 : Int) => (Exit.normal,⟨mkE 65 0 [(0,dL b),(3,dI t),(4,dI t43),(5,dI s.2)],[]⟩)) (fun (t43 : Bool) => (Exit.ret,⟨mkE 65 0 [(2,dB t43)],[]⟩)))) (id := 1) (link_group (c := (cq [0,1,1,0,0,1,0,0,1,0,1,1,1,1] (bodyOf Tryd.f27))) (a := (aq [0,1,1,0,0,1,0,0,1,0,1,1,1,1] N1)) [(cq [0,0,0,1,0,0,1,0,1,1,1,1] (bodyOf Tryd.f27)),(cq [0,1,0,0,1,0,0,1,0,1,1,1,1] (bodyOf Tryd.f27))] [(aq [0,0,0,1,0,0,1,0,1,1,1,1] N1),(aq [0,1,0,0,1,0,0,1,0,1,1,1,1] N1)] rfl (link_seq2 (Nv9 b t s.1 s.2) (fun (t43 : Int × Int) => (link_map (fin2 := (Sum.elim (fun (t43 : Int) => (Exit.normal,⟨mkE 65 0 [(0,dL b),(3,dI t),(4,dI t43),(5,dI s.2)],[]⟩)) (fun (t43 : Bool) => (Exit.ret,⟨mkE 65 0 [(2,dB t43)],[]⟩)))) (link_seq2 (link_seq (Nu9 b t t43.1 s.2 t43.2) (fun (t27 : Unit) => (link_block (fin2 := (Sum.elim (fun (t27 : Int) => (Exit.normal,⟨mkE 65 0 [(0,dL b),(3,dI t),(4,dI t43.1),(5,dI s.2),(6,dI t27)],[]⟩)) (fun (t27 : Bool) => (Exit.ret,⟨mkE 65 0 [(2,dB t27)],[]⟩)))) (id := 2) (link_loop (mk := fun (s42 : Int × Int) => ⟨mkE 65 0 [(0,dL b),(3,dI t),(4,dI t43.1),(5,dI s.2),(6,dI s42.1),(7,dI s42.2)],[]⟩) (fin := (Sum.elim (fun (t27 : Bool) => (Exit.ret,⟨mkE 65 0 [(2,dB t27)],[]⟩)) (fun (t27 : Int) => ((Exit.exit 2),⟨mkE 65 0 [(0,dL b),(3,dI t),(4,dI t43.1),(5,dI s.2),(6,dI t27)],[]⟩)))) (by
  rintro (t27 | t27) f K h
  · exact h
  · exact h) (fun s42 => link_map (Nuy b t t43.1 s.2 s42.1 s42.2) (Sum.elim (fun (t27 : Int × Int) => Sum.inl (t27.1,t27.2)) (Sum.elim (fun (t27 : Bool) => Sum.inr (Sum.inl t27)) (fun (t27 : Int) => Sum.inr (Sum.inr t27)))) (by
  rintro (t27 | t27 | t27)
  · kernel_rfl
  · kernel_rfl
  · kernel_rfl)) (t43.2,0)) (Sum.elim (fun (t27 : Bool) => (Sum.inr t27)) (fun (t27 : Int) => (Sum.inl t27))) (by
  rintro (t27 | t27) K h
  · exact Eq.mp (by kernel_rfl) h
  · exact Eq.mp (by kernel_rfl) h)))) (fun (t27 : Int) => (Nmc b t t43.1 s.2 t27)) (fun (t27 : Bool) => (Sum.inr t27)) (by
  rintro t27
  · kernel_rfl) (by
  rintro t27 f K h
  · exact h)) (Sum.elim (fun (u : Unit) => (Sum.inl t43.1)) (fun (u : Bool) => (Sum.inr u))) (by
  rintro (t43 | t43)
  · kernel_rfl
  · kernel_rfl))) (fun (t43 : Bool) => (Sum.inr t43)) (by
  rintro t43
  · kernel_rfl) (by
  rintro t43 f K h
  · exact h))) (Sum.elim (fun (t43 : Int) => (Sum.inl t43)) (fun (t43 : Bool) => (Sum.inr t43))) (by
  rintro (t43 | t43) K h
  · exact Eq.mp (by kernel_rfl) h
  · exact Eq.mp (by kernel_rfl) h)) (fun (t43 : Int) => (link_map (fin2 := (Sum.elim (fun (t43 : Int × Int) => (Exit.normal,⟨mkE 65 0 [(0,dL b),(3,dI t),(4,dI t43.1),(5,dI t43.2)],[]⟩)) (fun (t43 : Bool) => (Exit.ret,⟨mkE 65 0 [(2,dB t43)],[]⟩)))) (Nl1 b t t43 s.2) (fun (u : Int) => (Sum.inl (t43,u))) (by
  rintro t43
  · kernel_rfl))) (fun (t43 : Bool) => (Sum.inr t43)) (by
  rintro t43
  · kernel_rfl) (by
  rintro t43 f K h
  · exact h)) (Sum.elim (fun (t43 : Int × Int) => (Sum.inl (t43.1,t43.2))) (fun (t43 : Bool) => (Sum.inr (Sum.inl t43)))) (by
  rintro (t43 | t43)
  · kernel_rfl
  · kernel_rfl))) (fun (t43 : Int) => (Sum.inr (Sum.inr t43))) (by
  rintro t43
  · kernel_rfl) (by
  rintro t43 f K h
  · exact h)) (Sum.elim (fun (t28 : Int × Int) => Sum.inl (t28.1,t28.2)) (Sum.elim (fun (t28 : Bool) => Sum.inr (Sum.inl t28)) (fun (t28 : Int) => Sum.inr (Sum.inr t28)))) (by
  rintro (t28 | t28 | t28)
  · kernel_rfl
  · kernel_rfl
  · kernel_rfl)) (0,0)) (Sum.elim (fun (t28 : Bool) => (Sum.inr t28)) (fun (t28 : Int) => (Sum.inl t28))) (by
  rintro (t28 | t28) K h
  · exact Eq.mp (by kernel_rfl) h
  · exact Eq.mp (by kernel_rfl) h)))) (fun (t28 : Int) => (Nr8 t28)) (fun (t28 : Bool) => t28) (by
  rintro t28
  · kernel_rfl) (by
  rintro t28 f K h
  · exact h))) (fun (t : Bool) => t) (by
  rintro t
  · kernel_rfl) (by
  rintro t f K h
  · exact h)))) (by unfold N6; kernel_rfl) (by
  intro t
  exact ret_mk [dB t] (by kernel_rfl) (by kernel_rfl) (by kernel_rfl) (by kernel_rfl)) h
def Nv : Fun := fun avs H =>
  match avs,H with
  | [.dat (.list (.int .i64)) a],[] => ⟨_,N6 a,fun (t : Bool) => (dB t,[]),[],none⟩
  | _,_ => Ans.no
theorem N1r : Sound Tryd.prog 27 Nv := by
  refine fn_sound' (C := Nn) (c := bodyOf Tryd.f27) (cok_of tys_ok (allc Ndd alln) (allc Tryd.call46 alln) (by kernel_rfl)) Tryd.func27 (by kernel_rfl) LL N1 ?_
  intro avs H r H' h
  unfold Nv at h
  split at h
  · refine Awp.cast ?_ ?_ ?_ (Nob _ h) <;> kernel_rfl
  · simp [Ans.no,Ans.run] at h

def Nh : Ann := (.seq (.leaf [0,1]) (.seq (.seq (.leaf [0,1,5]) (.block (.loop (.seq (.seq (.leaf [0,1,5,10]) (.cond (.leaf [0,1,5]) (.leaf [0,1]))) (.seq (.block (.seq (.seq (.leaf [0,1,5,19]) (.cond (.seq (.leaf [4]) (.leaf [4])) (.leaf [0,1,5]))) (.seq (.leaf [0,1,5,6]) (.block (.loop (.seq (.seq (.leaf [0,1,5,6,22]) (.cond (.leaf [0,1,5,6]) (.leaf [0,1,5]))) (.seq (.block (.seq (.draw [] [0,1,2,3,4,5,6,7,8] [] [0,1,5,6,33]) (.cond (.seq (.leaf [4]) (.leaf [4])) (.leaf [0,1,5,6])))) (.leaf [0,1,5,6])))))))) (.leaf [0,1,5])))))) (.seq (.leaf [4]) (.leaf [4]))))
noncomputable def N1c : Ctx := ⟨tlook tys,olook [(46,N4z)],ioF,0,false,[]⟩
theorem Nv6 (a : List Int) (b : Int) : Link N1c LL (cq [0] (bodyOf Tryd.f68)) (aq [0] Nh) ⟨mkE 42 0 [(0,dL a),(1,dI b)],[]⟩ (N79) (fun (t : Unit) => (Exit.normal,⟨mkE 42 0 [(0,dL a),(1,dI b)],[]⟩)) := .of fun K h => by
  simp only [N79,wpW] at h
  exact .of (by kernel_rfl) h
theorem Nrf (a : List Int) (b : Int) : Link N1c LL (cq [0,0,1] (bodyOf Tryd.f68)) (aq [0,0,1] Nh) ⟨mkE 42 0 [(0,dL a),(1,dI b)],[]⟩ (N7m) (fun (t : Unit) => (Exit.normal,⟨mkE 42 0 [(0,dL a),(1,dI b),(5,dI 0)],[]⟩)) := .of fun K h => by
  simp only [N7m,wpW] at h
  exact .of (by kernel_rfl) h
theorem Nw3 (a : List Int) (b c : Int) : Link N1c LL (cq [0,0,0,1,0,1] (bodyOf Tryd.f68)) (aq [0,0,0,1,0,1] Nh) ⟨mkE 42 0 [(0,dL a),(1,dI b),(5,dI c)],[]⟩ (N71 a c) (Sum.elim (fun (t : Unit) => (Exit.normal,⟨mkE 42 0 [(0,dL a),(1,dI b),(5,dI c)],[]⟩)) (fun (t : Unit) => ((Exit.exit 0),⟨mkE 42 0 [(0,dL a),(1,dI b)],[]⟩))) := .of fun K h => by
  simp only [N71,wpW] at h
  exact .of (by kernel_rfl) h
theorem Nuc (a : List Int) (b c : Int) : Link N1c LL (Code.seq (cq [0,0,0,1,0,0,1,0,1] (bodyOf Tryd.f68)) (cq [0,1,0,0,1,0,0,1,0,1] (bodyOf Tryd.f68))) (Ann.seq (aq [0,0,0,1,0,0,1,0,1] Nh) (aq [0,1,0,0,1,0,0,1,0,1] Nh)) ⟨mkE 42 0 [(0,dL a),(1,dI b),(5,dI c)],[]⟩ (N6u a b c) (Sum.elim (fun (t : Unit) => (Exit.normal,⟨mkE 42 0 [(0,dL a),(1,dI b),(5,dI c),(6,dI 0)],[]⟩)) (fun (t : Bool) => (Exit.ret,⟨mkE 42 0 [(4,dB t)],[]⟩))) := .of fun K h => by
  simp only [N6u,wpW] at h
  exact .of (by kernel_rfl) h
theorem Njk (a : List Int) (b c d : Int) : Link N1c LL (cq [0,0,1,1,0,0,1,0,0,1,0,1] (bodyOf Tryd.f68)) (aq [0,0,1,1,0,0,1,0,0,1,0,1] Nh) ⟨mkE 42 0 [(0,dL a),(1,dI b),(5,dI c),(6,dI d)],[]⟩ (N58 a c d) (Sum.elim (fun (t : Int) => (Exit.normal,⟨mkE 42 0 [(0,dL a),(1,dI b),(5,dI c),(6,dI t)],[]⟩)) (Sum.elim (fun (t : Bool) => (Exit.ret,⟨mkE 42 0 [(4,dB t)],[]⟩)) (fun (t : Unit) => ((Exit.exit 2),⟨mkE 42 0 [(0,dL a),(1,dI b),(5,dI c)],[]⟩)))) := .of fun K h => by
  simp only [N58,wpW] at h
  exact .of (by kernel_rfl) h
theorem Noh (a : List Int) (b c : Int) : Link N1c LL (cq [1,1,0,0,1,0,1] (bodyOf Tryd.f68)) (aq [1,1,0,0,1,0,1] Nh) ⟨mkE 42 0 [(0,dL a),(1,dI b),(5,dI c)],[]⟩ (N6s c) (fun (t : Int) => (Exit.normal,⟨mkE 42 0 [(0,dL a),(1,dI b),(5,dI t)],[]⟩)) := .of fun K h => by
  simp only [N6s,wpW] at h
  exact .of (by kernel_rfl) h
theorem Ntp (a : List Int) (b : Int) : Link N1c LL (cq [1,1] (bodyOf Tryd.f68)) (aq [1,1] Nh) ⟨mkE 42 0 [(0,dL a),(1,dI b)],[]⟩ (N5r a b) (fun (t : Bool) => (Exit.ret,⟨mkE 42 0 [(4,dB t)],[]⟩)) := .of fun K h => by
  simp only [N5r,wpW] at h
  exact .of (by kernel_rfl) h
theorem Nkj (b : List Int) (d : Int) {r : AV} {H' : Heap} (h : (Ans.mk _ (N3l b d) (fun (t : Bool) => (dB t,[])) [] none).run = some (r,H')) : Awp N1c LL (bodyOf Tryd.f68) Nh ⟨mkE 42 0 [(0,dL b),(1,dI d)],[]⟩ (Ret (tlook tys) Tryd.f68.results.toList r H') :=
  ret_of' (Link.cast (by kernel_rfl) (by kernel_rfl) (link_seq (Nv6 b d) (fun (t : Unit) => (link_seq2 (link_seq (Nrf b d) (fun (t : Unit) => (link_block (fin2 := (Sum.elim (fun (t : Unit) => (Exit.normal,⟨mkE 42 0 [(0,dL b),(1,dI d)],[]⟩)) (fun (t : Bool) => (Exit.ret,⟨mkE 42 0 [(4,dB t)],[]⟩)))) (id := 0) (link_loop (mk := fun (s : Int) => ⟨mkE 42 0 [(0,dL b),(1,dI d),(5,dI s)],[]⟩) (fin := (Sum.elim (fun (t : Bool) => (Exit.ret,⟨mkE 42 0 [(4,dB t)],[]⟩)) (fun (t : Unit) => ((Exit.exit 0),⟨mkE 42 0 [(0,dL b),(1,dI d)],[]⟩)))) (by
  rintro (t | t) f K h
  · exact h
  · exact h) (fun s => link_map (link_seq2 (Nw3 b d s) (fun (t : Unit) => (link_map (fin2 := (Sum.elim (fun (t : Int) => (Exit.normal,⟨mkE 42 0 [(0,dL b),(1,dI d),(5,dI t)],[]⟩)) (Sum.elim (fun (t : Bool) => (Exit.ret,⟨mkE 42 0 [(4,dB t)],[]⟩)) (fun (t : Unit) => ((Exit.exit 0),⟨mkE 42 0 [(0,dL b),(1,dI d)],[]⟩))))) (link_seq2 (link_block (fin2 := (Sum.elim (fun (t : Unit) => (Exit.normal,⟨mkE 42 0 [(0,dL b),(1,dI d),(5,dI s)],[]⟩)) (fun (t : Bool) => (Exit.ret,⟨mkE 42 0 [(4,dB t)],[]⟩)))) (id := 1) (link_group (c := (cq [0,1,0,0,1,0,0,1,0,1] (bodyOf Tryd.f68))) (a := (aq [0,1,0,0,1,0,0,1,0,1] Nh)) [(cq [0,0,0,1,0,0,1,0,1] (bodyOf Tryd.f68))] [(aq [0,0,0,1,0,0,1,0,1] Nh)] rfl (link_seq2 (Nuc b d s) (fun (t : Unit) => (link_block (fin2 := (Sum.elim (fun (t : Unit) => (Exit.normal,⟨mkE 42 0 [(0,dL b),(1,dI d),(5,dI s)],[]⟩)) (fun (t : Bool) => (Exit.ret,⟨mkE 42 0 [(4,dB t)],[]⟩)))) (id := 2) (link_loop (mk := fun (s29 : Int) => ⟨mkE 42 0 [(0,dL b),(1,dI d),(5,dI s),(6,dI s29)],[]⟩) (fin := (Sum.elim (fun (t : Bool) => (Exit.ret,⟨mkE 42 0 [(4,dB t)],[]⟩)) (fun (t : Unit) => ((Exit.exit 2),⟨mkE 42 0 [(0,dL b),(1,dI d),(5,dI s)],[]⟩)))) (by
  rintro (t | t) f K h
  · exact h
  · exact h) (fun s29 => link_map (Njk b d s s29) (Sum.elim (fun (t : Int) => Sum.inl t) (Sum.elim (fun (t : Bool) => Sum.inr (Sum.inl t)) (fun (t : Unit) => Sum.inr (Sum.inr t)))) (by
  rintro (t | t | t)
  · kernel_rfl
  · kernel_rfl
  · kernel_rfl)) 0) (Sum.elim (fun (t : Bool) => (Sum.inr t)) (fun (t : Unit) => (Sum.inl ()))) (by
  rintro (t | t) K h
  · exact Eq.mp (by kernel_rfl) h
  · exact Eq.mp (by kernel_rfl) h))) (fun (t : Bool) => (Sum.inr t)) (by
  rintro t
  · kernel_rfl) (by
  rintro t f K h
  · exact h))) (Sum.elim (fun (t : Unit) => (Sum.inl ())) (fun (t : Bool) => (Sum.inr t))) (by
  rintro (t | t) K h
  · exact Eq.mp (by kernel_rfl) h
  · exact Eq.mp (by kernel_rfl) h)) (fun (t : Unit) => (link_map (fin2 := (Sum.elim (fun (t : Int) => (Exit.normal,⟨mkE 42 0 [(0,dL b),(1,dI d),(5,dI t)],[]⟩)) (fun (t : Bool) => (Exit.ret,⟨mkE 42 0 [(4,dB t)],[]⟩)))) (Noh b d s) (fun (t : Int) => (Sum.inl t)) (by
  rintro t
  · kernel_rfl))) (fun (t : Bool) => (Sum.inr t)) (by
  rintro t
  · kernel_rfl) (by
  rintro t f K h
  · exact h)) (Sum.elim (fun (t : Int) => (Sum.inl t)) (fun (t : Bool) => (Sum.inr (Sum.inl t)))) (by
  rintro (t | t)
  · kernel_rfl
  · kernel_rfl))) (fun (t : Unit) => (Sum.inr (Sum.inr t))) (by
  rintro t
  · kernel_rfl) (by
  rintro t f K h
  · exact h)) (Sum.elim (fun (t : Int) => Sum.inl t) (Sum.elim (fun (t : Bool) => Sum.inr (Sum.inl t)) (fun (t : Unit) => Sum.inr (Sum.inr t)))) (by
  rintro (t | t | t)
  · kernel_rfl
  · kernel_rfl
  · kernel_rfl)) 0) (Sum.elim (fun (t : Bool) => (Sum.inr t)) (fun (t : Unit) => (Sum.inl ()))) (by
  rintro (t | t) K h
  · exact Eq.mp (by kernel_rfl) h
  · exact Eq.mp (by kernel_rfl) h)))) (fun (t : Unit) => (Ntp b d)) (fun (t : Bool) => t) (by
  rintro t
  · kernel_rfl) (by
  rintro t f K h
  · exact h))))) (by unfold N3l; kernel_rfl) (by
  intro t
  exact ret_mk [dB t] (by kernel_rfl) (by kernel_rfl) (by kernel_rfl) (by kernel_rfl)) h
def Nbs : Fun := fun avs H =>
  match avs,H with
  | [.dat (.list (.int .i64)) a,.dat (.int .i64) b],[] => ⟨_,N3l a b,fun (t : Bool) => (dB t,[]),[],none⟩
  | _,_ => Ans.no
theorem Nvh : Sound Tryd.prog 68 Nbs := by
  refine fn_sound' (C := N1c) (c := bodyOf Tryd.f68) (cok_of tys_ok (allc Ndd alln) (allc Tryd.call46 alln) (by kernel_rfl)) Tryd.func68 (by kernel_rfl) LL Nh ?_
  intro avs H r H' h
  unfold Nbs at h
  split at h
  · refine Awp.cast ?_ ?_ ?_ (Nkj _ _ h) <;> kernel_rfl
  · simp [Ans.no,Ans.run] at h

def N8 : Ann := (.seq (.leaf [0,1]) (.seq (.seq (.leaf [0,1,19]) (.cond (.seq (.leaf [4,5]) (.leaf [4,5])) (.leaf [0,1]))) (.seq (.leaf [0,1,6]) (.seq (.seq (.leaf [0,1,6,7]) (.block (.loop (.seq (.seq (.leaf [0,1,6,7,28]) (.cond (.leaf [0,1,6,7]) (.leaf [0,1,6]))) (.seq (.block (.leaf [0,1,6,7])) (.leaf [0,1,6,7])))))) (.seq (.leaf [0,1,6,8]) (.seq (.seq (.leaf [0,1,6,8,9]) (.block (.loop (.seq (.seq (.leaf [0,1,6,8,9,43]) (.cond (.leaf [0,1,6,8,9]) (.leaf [8]))) (.seq (.block (.leaf [0,1,6,8,9])) (.leaf [0,1,6,8,9])))))) (.seq (.leaf [4,5]) (.leaf [4,5]))))))))
noncomputable def N14 : Ctx := ⟨tlook tys,olook [(27,Nv),(68,Nbs)],ioF,0,false,[]⟩
theorem Nxh (a b : List Int) : Link N14 LL (Code.seq (cq [0] (bodyOf Tryd.f57)) (Code.seq (cq [0,1] (bodyOf Tryd.f57)) (cq [0,1,1] (bodyOf Tryd.f57)))) (Ann.seq (aq [0] N8) (Ann.seq (aq [0,1] N8) (aq [0,1,1] N8))) ⟨mkE 61 0 [(0,dL a),(1,dL b)],[]⟩ (N67 a b) (Sum.elim (fun (t : (List Int)) => (Exit.normal,⟨mkE 61 0 [(0,dL a),(1,dL b),(6,.slc 0)],[some (sI t)]⟩)) (fun (t : Bool × (List Int)) => (Exit.ret,⟨mkE 61 0 [(4,.slc 0),(5,dB t.1)],[some (sI t.2)]⟩))) := .of fun K h => by
  simp only [N67,wpW] at h
  exact .of (by kernel_rfl) h
theorem Nu3 (a b c : List Int) : Link N14 LL (cq [0,0,1,1,1] (bodyOf Tryd.f57)) (aq [0,0,1,1,1] N8) ⟨mkE 61 0 [(0,dL a),(1,dL b),(6,.slc 0)],[some (sI c)]⟩ (N8k) (fun (t : Unit) => (Exit.normal,⟨mkE 61 0 [(0,dL a),(1,dL b),(6,.slc 0),(7,dI 0)],[some (sI c)]⟩)) := .of fun K h => by
  simp only [N8k,wpW] at h
  exact .of (by kernel_rfl) h
theorem Nmd (a b : List Int) (c : Int) (d : List Int) : Link N14 LL (cq [0,0,1,0,1,1,1] (bodyOf Tryd.f57)) (aq [0,0,1,0,1,1,1] N8) ⟨mkE 61 0 [(0,dL a),(1,dL b),(6,.slc 0),(7,dI c)],[some (sI d)]⟩ (N45 b c d) (Sum.elim (fun (t : Int × (List Int)) => (Exit.normal,⟨mkE 61 0 [(0,dL a),(1,dL b),(6,.slc 0),(7,dI t.1)],[some (sI t.2)]⟩)) (fun (t : (List Int)) => ((Exit.exit 0),⟨mkE 61 0 [(0,dL a),(1,dL b),(6,.slc 0)],[some (sI t)]⟩))) := .of fun K h => by
  simp only [N45,wpW] at h
  exact .of (by kernel_rfl) h
theorem Nmk (a b c : List Int) : Link N14 LL (cq [0,1,1,1,1] (bodyOf Tryd.f57)) (aq [0,1,1,1,1] N8) ⟨mkE 61 0 [(0,dL a),(1,dL b),(6,.slc 0)],[some (sI c)]⟩ (N6f) (fun (t : Unit) => (Exit.normal,⟨mkE 61 0 [(0,dL a),(1,dL b),(6,.slc 0),(8,.slc 1)],[some (sI c),some (sI ([] : List Int))]⟩)) := .of fun K h => by
  simp only [N6f,wpW] at h
  exact .of (by kernel_rfl) h
theorem Nx9 (a b c : List Int) : Link N14 LL (cq [0,0,1,1,1,1,1] (bodyOf Tryd.f57)) (aq [0,0,1,1,1,1,1] N8) ⟨mkE 61 0 [(0,dL a),(1,dL b),(6,.slc 0),(8,.slc 1)],[some (sI c),some (sI ([] : List Int))]⟩ (N9c) (fun (t : Unit) => (Exit.normal,⟨mkE 61 0 [(0,dL a),(1,dL b),(6,.slc 0),(8,.slc 1),(9,dI 0)],[some (sI c),some (sI ([] : List Int))]⟩)) := .of fun K h => by
  simp only [N9c,wpW] at h
  exact .of (by kernel_rfl) h
theorem No0 (a b : List Int) (c : Int) (d g : List Int) : Link N14 LL (cq [0,0,1,0,1,1,1,1,1] (bodyOf Tryd.f57)) (aq [0,0,1,0,1,1,1,1,1] N8) ⟨mkE 61 0 [(0,dL a),(1,dL b),(6,.slc 0),(8,.slc 1),(9,dI c)],[some (sI d),some (sI g)]⟩ (N4m a b c d g) (Sum.elim (fun (t : Int × (List Int)) => (Exit.normal,⟨mkE 61 0 [(0,dL a),(1,dL b),(6,.slc 0),(8,.slc 1),(9,dI t.1)],[some (sI d),some (sI t.2)]⟩)) (fun (t : (List Int)) => ((Exit.exit 2),⟨mkE 61 0 [(8,.slc 0)],[some (sI t)]⟩))) := .of fun K h => by
  simp only [N4m,wpW] at h
  exact .of (by kernel_rfl) h
theorem Nri (a : List Int) : Link N14 LL (cq [1,1,1,1,1,1] (bodyOf Tryd.f57)) (aq [1,1,1,1,1,1] N8) ⟨mkE 61 0 [(8,.slc 0)],[some (sI a)]⟩ (N8t a) (fun (t : Bool × (List Int)) => (Exit.ret,⟨mkE 61 0 [(4,.slc 0),(5,dB t.1)],[some (sI t.2)]⟩)) := .of fun K h => by
  simp only [N8t,wpW] at h
  exact .of (by kernel_rfl) h
theorem Nno (b d : List Int) {r : AV} {H' : Heap} (h : (Ans.mk _ (N2i b d) (fun (t : Bool × (List Int)) => (.tup [.slc 0,dB t.1],[some (sI t.2)])) [] none).run = some (r,H')) : Awp N14 LL (bodyOf Tryd.f57) N8 ⟨mkE 61 0 [(0,dL b),(1,dL d)],[]⟩ (Ret (tlook tys) Tryd.f57.results.toList r H') :=
  ret_of' (Link.cast (by kernel_rfl) (by kernel_rfl) (link_group (c := (cq [0,1,1] (bodyOf Tryd.f57))) (a := (aq [0,1,1] N8)) [(cq [0] (bodyOf Tryd.f57)),(cq [0,1] (bodyOf Tryd.f57))] [(aq [0] N8),(aq [0,1] N8)] rfl (link_seq2 (Nxh b d) (fun (t : (List Int)) => (link_seq (link_seq (Nu3 b d t) (fun (t30 : Unit) => (link_block (fin2 := (fun (t30 : (List Int)) => (Exit.normal,⟨mkE 61 0 [(0,dL b),(1,dL d),(6,.slc 0)],[some (sI t30)]⟩))) (id := 0) (link_loop (mk := fun (s : Int × (List Int)) => ⟨mkE 61 0 [(0,dL b),(1,dL d),(6,.slc 0),(7,dI s.1)],[some (sI s.2)]⟩) (fin := (fun (t30 : (List Int)) => ((Exit.exit 0),⟨mkE 61 0 [(0,dL b),(1,dL d),(6,.slc 0)],[some (sI t30)]⟩))) (by
  rintro t30 f K h
  · exact h) (fun s => link_map (Nmd b d s.1 s.2) (Sum.elim (fun (t30 : Int × (List Int)) => Sum.inl (t30.1,t30.2)) (fun (t30 : (List Int)) => Sum.inr t30)) (by
  rintro (t30 | t30)
  · kernel_rfl
  · kernel_rfl)) (0,t)) (fun (t30 : (List Int)) => t30) (by
  rintro t30 K h
  · exact Eq.mp (by kernel_rfl) h)))) (fun (t30 : (List Int)) => (link_seq (Nmk b d t30) (fun (t : Unit) => (link_seq (link_seq (Nx9 b d t30) (fun (t : Unit) => (link_block (fin2 := (fun (t : (List Int)) => (Exit.normal,⟨mkE 61 0 [(8,.slc 0)],[some (sI t)]⟩))) (id := 2) (link_loop (mk := fun (s : Int × (List Int)) => ⟨mkE 61 0 [(0,dL b),(1,dL d),(6,.slc 0),(8,.slc 1),(9,dI s.1)],[some (sI t30),some (sI s.2)]⟩) (fin := (fun (t : (List Int)) => ((Exit.exit 2),⟨mkE 61 0 [(8,.slc 0)],[some (sI t)]⟩))) (by
  rintro t f K h
  · exact h) (fun s => link_map (No0 b d s.1 t30 s.2) (Sum.elim (fun (t : Int × (List Int)) => Sum.inl (t.1,t.2)) (fun (t : (List Int)) => Sum.inr t)) (by
  rintro (t | t)
  · kernel_rfl
  · kernel_rfl)) (0,([] : List Int))) (fun (t : (List Int)) => t) (by
  rintro t K h
  · exact Eq.mp (by kernel_rfl) h)))) (fun (t : (List Int)) => (Nri t)))))))) (fun (t : Bool × (List Int)) => t) (by
  rintro t
  · kernel_rfl) (by
  rintro t f K h
  · exact h)))) (by unfold N2i; kernel_rfl) (by
  intro t
  exact ret_mk [.slc 0,dB t.1] (by kernel_rfl) (by kernel_rfl) (by kernel_rfl) (by kernel_rfl)) h
def N9a : Fun := fun avs H =>
  match avs,H with
  | [.dat (.list (.int .i64)) a,.dat (.list (.int .i64)) b],[] => ⟨_,N2i a b,fun (t : Bool × (List Int)) => (.tup [.slc 0,dB t.1],[some (sI t.2)]),[],none⟩
  | _,_ => Ans.no
theorem Ngj : Sound Tryd.prog 57 N9a := by
  refine fn_sound' (C := N14) (c := bodyOf Tryd.f57) (cok_of tys_ok (allc N1r (allc Nvh alln)) (allc Tryd.call27 (allc Tryd.call68 alln)) (by kernel_rfl)) Tryd.func57 (by kernel_rfl) LL N8 ?_
  intro avs H r H' h
  unfold N9a at h
  split at h
  · refine Awp.cast ?_ ?_ ?_ (Nno _ _ h) <;> kernel_rfl
  · simp [Ans.no,Ans.run] at h

def N9 : Ann := (.seq (.seq (.leaf [0,1,2,3,4,16]) (.cond (.leaf []) (.leaf [0,1,2,3,4]))) (.seq (.leaf [0,1,2,3,4,10]) (.seq (.leaf [0,1,2,3,10]) (.seq (.leaf [0,1,3,10,11]) (.seq (.block (.loop (.seq (.seq (.leaf [0,1,3,10,11,33]) (.cond (.leaf [0,1,3,10,11]) (.leaf [0,1,3,10]))) (.block (.seq (.leaf [0,1,3,10,11,12]) (.seq (.leaf [0,1,3,10,12]) (.leaf [0,1,3,10,11]))))))) (.seq (.leaf [0,1,3,10,11]) (.block (.loop (.seq (.seq (.leaf [0,1,3,10,11,53]) (.cond (.leaf [0,1,3,10,11]) (.leaf []))) (.block (.seq (.leaf [0,1,3,10,11,13]) (.seq (.leaf [0,1,3,10,13]) (.leaf [0,1,3,10,11])))))))))))))
def N13 (n : Nat) : Fun := fun avs H =>
  match avs,H with
  | [.ptr 0 0,.slc 1,.dat (.int .i64) a,.dat (.int .i64) b,.dat (.int .i64) c],[some (.box [.dat (.list (.int .u8)) d,.dat (.int .i64) g]),some (.seq (.int .i64) i)] => ⟨_,N17 n a b c d g i,fun (t : Int × (List Int)) => (.tup [],[some (.box [dV d,dI t.1]),some (sI t.2)]),[],none⟩
  | _,_ => Ans.no
noncomputable def N3v (n : Nat) : Ctx := ⟨tlook tys,olook [(40,Nj),(69,N13 n)],ioF,2,false,[]⟩
theorem Nrd (n : Nat) (a b c : Int) (d : List Int) (g : Int) (i : List Int) : Link (N3v n) LL (Code.seq (cq [0] (bodyOf Tryd.f69)) (Code.seq (cq [0,1] (bodyOf Tryd.f69)) (Code.seq (cq [0,1,1] (bodyOf Tryd.f69)) (cq [0,1,1,1] (bodyOf Tryd.f69))))) (Ann.seq (aq [0] N9) (Ann.seq (aq [0,1] N9) (Ann.seq (aq [0,1,1] N9) (aq [0,1,1,1] N9)))) ⟨mkE 70 0 [(0,.ptr 0 0),(1,.slc 1),(2,dI a),(3,dI b),(4,dI c)],[some (.box [dV d,dI g]),some (sI i)]⟩ (N8l (N17 n) a b c d g i) (Sum.elim (fun (t : Int × Int × (List Int)) => (Exit.normal,⟨mkE 70 0 [(0,.ptr 0 0),(1,.slc 1),(3,dI b),(10,dI t.1),(11,dI a)],[some (.box [dV d,dI t.2.1]),some (sI t.2.2)]⟩)) (fun (t : Int × (List Int)) => (Exit.ret,⟨mkE 70 0 [],[some (.box [dV d,dI t.1]),some (sI t.2)]⟩))) := .of fun K h => by
  simp only [N8l,wpW] at h
  exact .of (by kernel_rfl) h
theorem Nly (n : Nat) (a b c : Int) (d : List Int) (g : Int) (i : List Int) : Link (N3v n) LL (cq [0,0,0,1,1,1,1] (bodyOf Tryd.f69)) (aq [0,0,0,1,1,1,1] N9) ⟨mkE 70 0 [(0,.ptr 0 0),(1,.slc 1),(3,dI a),(10,dI b),(11,dI c)],[some (.box [dV d,dI g]),some (sI i)]⟩ (N5d (N17 n) b c d g i) (Sum.elim (fun (t : Int × Int × (List Int)) => (Exit.normal,⟨mkE 70 0 [(0,.ptr 0 0),(1,.slc 1),(3,dI a),(10,dI b),(11,dI t.1)],[some (.box [dV d,dI t.2.1]),some (sI t.2.2)]⟩)) (fun (t : Int × (List Int)) => ((Exit.exit 0),⟨mkE 70 0 [(0,.ptr 0 0),(1,.slc 1),(3,dI a),(10,dI b)],[some (.box [dV d,dI t.1]),some (sI t.2)]⟩))) := .of fun K h => by
  simp only [N5d,wpW] at h
  exact .of (by kernel_rfl) h
theorem Nu7 (n : Nat) (a b : Int) (c : List Int) (d : Int) (g : List Int) : Link (N3v n) LL (cq [0,1,1,1,1,1] (bodyOf Tryd.f69)) (aq [0,1,1,1,1,1] N9) ⟨mkE 70 0 [(0,.ptr 0 0),(1,.slc 1),(3,dI a),(10,dI b)],[some (.box [dV c,dI d]),some (sI g)]⟩ (N9b (N17 n) b) (fun (t : Int) => (Exit.normal,⟨mkE 70 0 [(0,.ptr 0 0),(1,.slc 1),(3,dI a),(10,dI b),(11,dI t)],[some (.box [dV c,dI d]),some (sI g)]⟩)) := .of fun K h => by
  simp only [N9b,wpW] at h
  exact .of (by kernel_rfl) h
theorem Nx7 (n : Nat) (a b c : Int) (d : List Int) (g : Int) (i : List Int) : Link (N3v n) LL (cq [0,0,1,1,1,1,1,1] (bodyOf Tryd.f69)) (aq [0,0,1,1,1,1,1,1] N9) ⟨mkE 70 0 [(0,.ptr 0 0),(1,.slc 1),(3,dI a),(10,dI b),(11,dI c)],[some (.box [dV d,dI g]),some (sI i)]⟩ (N5e (N17 n) a b c d g i) (Sum.elim (fun (t : Int × Int × (List Int)) => (Exit.normal,⟨mkE 70 0 [(0,.ptr 0 0),(1,.slc 1),(3,dI a),(10,dI b),(11,dI t.1)],[some (.box [dV d,dI t.2.1]),some (sI t.2.2)]⟩)) (fun (t : Int × (List Int)) => ((Exit.exit 2),⟨mkE 70 0 [],[some (.box [dV d,dI t.1]),some (sI t.2)]⟩))) := .of fun K h => by
  simp only [N5e,wpW] at h
  exact .of (by kernel_rfl) h
theorem Npn (n : Nat) (b d g : Int) (i : List Int) (j : Int) (k : List Int) {r : AV} {H' : Heap} (h : (Ans.mk _ (N17 (n + 1) b d g i j k) (fun (t : Int × (List Int)) => (.tup [],[some (.box [dV i,dI t.1]),some (sI t.2)])) [] none).run = some (r,H')) : Awp (N3v n) LL (bodyOf Tryd.f69) N9 ⟨mkE 70 0 [(0,.ptr 0 0),(1,.slc 1),(2,dI b),(3,dI d),(4,dI g)],[some (.box [dV i,dI j]),some (sI k)]⟩ (Ret (tlook tys) Tryd.f69.results.toList r H') :=
  ret_of (Link.cast (by kernel_rfl) (by kernel_rfl) (link_group (c := (cq [0,1,1,1] (bodyOf Tryd.f69))) (a := (aq [0,1,1,1] N9)) [(cq [0] (bodyOf Tryd.f69)),(cq [0,1] (bodyOf Tryd.f69)),(cq [0,1,1] (bodyOf Tryd.f69))] [(aq [0] N9),(aq [0,1] N9),(aq [0,1,1] N9)] rfl (link_seq2 (Nrd n b d g i j k) (fun (t : Int × Int × (List Int)) => (link_map (fin2 := (Sum.elim (fun (t : Int × (List Int)) => (Exit.normal,⟨mkE 70 0 [],[some (.box [dV i,dI t.1]),some (sI t.2)]⟩)) (fun (t : Int × (List Int)) => (Exit.ret,⟨mkE 70 0 [],[some (.box [dV i,dI t.1]),some (sI t.2)]⟩)))) (link_seq (link_block (fin2 := (fun (t44 : Int × (List Int)) => (Exit.normal,⟨mkE 70 0 [(0,.ptr 0 0),(1,.slc 1),(3,dI d),(10,dI t.1)],[some (.box [dV i,dI t44.1]),some (sI t44.2)]⟩))) (id := 0) (link_loop (mk := fun (s : Int × Int × (List Int)) => ⟨mkE 70 0 [(0,.ptr 0 0),(1,.slc 1),(3,dI d),(10,dI t.1),(11,dI s.1)],[some (.box [dV i,dI s.2.1]),some (sI s.2.2)]⟩) (fin := (fun (t44 : Int × (List Int)) => ((Exit.exit 0),⟨mkE 70 0 [(0,.ptr 0 0),(1,.slc 1),(3,dI d),(10,dI t.1)],[some (.box [dV i,dI t44.1]),some (sI t44.2)]⟩))) (by
  rintro t44 f K h
  · exact h) (fun s => link_map (Nly n d t.1 s.1 i s.2.1 s.2.2) (Sum.elim (fun (t44 : Int × Int × (List Int)) => Sum.inl (t44.1,t44.2.1,t44.2.2)) (fun (t44 : Int × (List Int)) => Sum.inr t44)) (by
  rintro (t44 | t44)
  · kernel_rfl
  · kernel_rfl)) (b,t.2.1,t.2.2)) (fun (t44 : Int × (List Int)) => (t44.1,t44.2)) (by
  rintro t44 K h
  · exact Eq.mp (by kernel_rfl) h)) (fun (t44 : Int × (List Int)) => (link_seq (Nu7 n d t.1 i t44.1 t44.2) (fun (t1 : Int) => (link_block (fin2 := (fun (t31 : Int × (List Int)) => (Exit.normal,⟨mkE 70 0 [],[some (.box [dV i,dI t31.1]),some (sI t31.2)]⟩))) (id := 2) (link_loop (mk := fun (s : Int × Int × (List Int)) => ⟨mkE 70 0 [(0,.ptr 0 0),(1,.slc 1),(3,dI d),(10,dI t.1),(11,dI s.1)],[some (.box [dV i,dI s.2.1]),some (sI s.2.2)]⟩) (fin := (fun (t31 : Int × (List Int)) => ((Exit.exit 2),⟨mkE 70 0 [],[some (.box [dV i,dI t31.1]),some (sI t31.2)]⟩))) (by
  rintro t31 f K h
  · exact h) (fun s => link_map (Nx7 n d t.1 s.1 i s.2.1 s.2.2) (Sum.elim (fun (t31 : Int × Int × (List Int)) => Sum.inl (t31.1,t31.2.1,t31.2.2)) (fun (t31 : Int × (List Int)) => Sum.inr t31)) (by
  rintro (t31 | t31)
  · kernel_rfl
  · kernel_rfl)) (t1,t44.1,t44.2)) (fun (t31 : Int × (List Int)) => (t31.1,t31.2)) (by
  rintro t31 K h
  · exact Eq.mp (by kernel_rfl) h)))))) (fun (u : Int × (List Int)) => (Sum.inl (u.1,u.2))) (by
  rintro t
  · kernel_rfl))) (fun (t : Int × (List Int)) => (Sum.inr t)) (by
  rintro t
  · kernel_rfl) (by
  rintro t f K h
  · exact h)))) (Sum.elim (fun (t : Int × (List Int)) => (t.1,t.2)) (fun (t : Int × (List Int)) => t)) (by (show _ = _); kernel_rfl) (by
  rintro (t | t)
  · exact ret_mk [] (by kernel_rfl) (by kernel_rfl) (by kernel_rfl) (by kernel_rfl)
  · exact ret_mk [] (by kernel_rfl) (by kernel_rfl) (by kernel_rfl) (by kernel_rfl)) h
theorem Nmo (n : Nat) (h69 : Sound Tryd.prog 69 (N13 n)) : Sound Tryd.prog 69 (N13 (n + 1)) := by
  refine fn_sound' (C := N3v n) (c := bodyOf Tryd.f69) (cok_of tys_ok (allc N18 (allc h69 alln)) (allc Tryd.call40 (allc Tryd.call69 alln)) (by kernel_rfl)) Tryd.func69 (by kernel_rfl) LL N9 ?_
  intro avs H r H' h
  unfold N13 at h
  split at h
  · refine Awp.cast ?_ ?_ ?_ (Npn n _ _ _ _ _ _ h) <;> kernel_rfl
  · simp [Ans.no,Ans.run] at h
theorem Nwj : Sound Tryd.prog 69 (N13 0) := by
  intro avs H r H' h
  unfold N13 at h
  split at h
  · simp [N17,N2n,Ans.run] at h
  · simp [Ans.no,Ans.run] at h
theorem Ngk : ∀ n,Sound Tryd.prog 69 (N13 n)
  | 0 => Nwj
  | n + 1 => by
    have h69 := Ngk n
    exact Nmo n h69
def N85 : Fun := fun avs H =>
  match avs,H with
  | [.ptr 0 0,.slc 1,.dat (.int .i64) a,.dat (.int .i64) b,.dat (.int .i64) c],[some (.box [.dat (.list (.int .u8)) d,.dat (.int .i64) g]),some (.seq (.int .i64) i)] => ⟨_,N5j a b c d g i,fun (t : Int × (List Int)) => (.tup [],[some (.box [dV d,dI t.1]),some (sI t.2)]),[],none⟩
  | _,_ => Ans.no
theorem Nso : Sound Tryd.prog 69 N85 := by
  have e : N85 = N13 RR := by
    funext avs H
    unfold N85 N13
    split <;> first | rfl | (simp only [N5j])
  rw [e]
  exact (Ngk RR)

def Ndr : Ann := (.seq (.leaf [0,1]) (.seq (.seq (.leaf [0,1,9]) (.cond (.seq (.leaf [4]) (.leaf [4])) (.leaf [0]))) (.seq (.leaf [0,5]) (.seq (.leaf [0,5,6]) (.seq (.leaf [6]) (.seq (.leaf [4]) (.leaf [4])))))))
noncomputable def Nc4 : Ctx := ⟨tlook tys,olook [(40,Nj),(56,N8u),(69,N85)],ioF,1,false,[]⟩
theorem Nm5 (a : Int) (b : List Int) (c : Int) : Link Nc4 LL (bodyOf Tryd.f59) Ndr ⟨mkE 23 0 [(0,.ptr 0 0),(1,dI a)],[some (.box [dV b,dI c])]⟩ (N4o a b c) (fun (t : Int × (List Int)) => (Exit.ret,⟨mkE 23 0 [(4,.slc 1)],[some (.box [dV b,dI t.1]),some (sI t.2)]⟩)) := .of fun K h => by
  simp only [N4o,wpW] at h
  exact .of (by kernel_rfl) h
theorem Nm2 (a : Int) (b : List Int) (c : Int) {r : AV} {H' : Heap} (h : (Ans.mk _ (N16 a b c) (fun (t : Int × (List Int)) => (.slc 1,[some (.box [dV b,dI t.1]),some (sI t.2)])) [] none).run = some (r,H')) : Awp Nc4 LL (bodyOf Tryd.f59) Ndr ⟨mkE 23 0 [(0,.ptr 0 0),(1,dI a)],[some (.box [dV b,dI c])]⟩ (Ret (tlook tys) Tryd.f59.results.toList r H') :=
  ret_of' (Nm5 a b c) (by unfold N16; kernel_rfl) (by
  intro t
  exact ret_mk [.slc 1] (by kernel_rfl) (by kernel_rfl) (by kernel_rfl) (by kernel_rfl)) h
def Nd8 : Fun := fun avs H =>
  match avs,H with
  | [.ptr 0 0,.dat (.int .i64) a],[some (.box [.dat (.list (.int .u8)) b,.dat (.int .i64) c])] => ⟨_,N16 a b c,fun (t : Int × (List Int)) => (.slc 1,[some (.box [dV b,dI t.1]),some (sI t.2)]),[],none⟩
  | _,_ => Ans.no
theorem Nx8 : Sound Tryd.prog 59 Nd8 := by
  refine fn_sound' (C := Nc4) (c := bodyOf Tryd.f59) (cok_of tys_ok (allc N18 (allc Ng1 (allc Nso alln))) (allc Tryd.call40 (allc Tryd.call56 (allc Tryd.call69 alln))) (by kernel_rfl)) Tryd.func59 (by kernel_rfl) LL Ndr ?_
  intro avs H r H' h
  unfold Nd8 at h
  split at h
  · refine Awp.cast ?_ ?_ ?_ (Nm2 _ _ _ h) <;> kernel_rfl
  · simp [Ans.no,Ans.run] at h

def Ne4 : Ann := (.seq (.leaf [0,1]) (.seq (.leaf [0,1,5]) (.seq (.seq (.leaf [0,1,5,17]) (.cond (.seq (.leaf [6]) (.seq (.leaf [4]) (.leaf [4]))) (.leaf [0,1,5]))) (.seq (.seq (.leaf [0,1,5,30]) (.cond (.seq (.leaf [4]) (.leaf [4])) (.leaf [5]))) (.seq (.leaf [4]) (.leaf [4]))))))
noncomputable def Ndx : Ctx := ⟨tlook tys,olook [(56,N8u),(40,Nj),(27,Nv),(58,N84),(57,N9a),(59,Nd8)],ioF,1,false,[]⟩
theorem Nmz (a : Int) (b : List Int) (c : Int) : Link Ndx LL (bodyOf Tryd.f39) Ne4 ⟨mkE 35 0 [(0,.ptr 0 0),(1,dI a)],[some (.box [dV b,dI c])]⟩ (N4y a b c) (fun (t : Int × (List Int)) => (Exit.ret,⟨mkE 35 0 [(4,.slc 1)],[some (.box [dV b,dI t.1]),some (sI t.2)]⟩)) := .of fun K h => by
  simp only [N4y,wpW] at h
  exact .of (by kernel_rfl) h
theorem Nq7 (a : Int) (b : List Int) (c : Int) {r : AV} {H' : Heap} (h : (Ans.mk _ (N2m a b c) (fun (t : Int × (List Int)) => (.slc 1,[some (.box [dV b,dI t.1]),some (sI t.2)])) [] none).run = some (r,H')) : Awp Ndx LL (bodyOf Tryd.f39) Ne4 ⟨mkE 35 0 [(0,.ptr 0 0),(1,dI a)],[some (.box [dV b,dI c])]⟩ (Ret (tlook tys) Tryd.f39.results.toList r H') :=
  ret_of' (Nmz a b c) (by unfold N2m; kernel_rfl) (by
  intro t
  exact ret_mk [.slc 1] (by kernel_rfl) (by kernel_rfl) (by kernel_rfl) (by kernel_rfl)) h
def N9x : Fun := fun avs H =>
  match avs,H with
  | [.ptr 0 0,.dat (.int .i64) a],[some (.box [.dat (.list (.int .u8)) b,.dat (.int .i64) c])] => ⟨_,N2m a b c,fun (t : Int × (List Int)) => (.slc 1,[some (.box [dV b,dI t.1]),some (sI t.2)]),[],none⟩
  | _,_ => Ans.no
theorem Nop : Sound Tryd.prog 39 N9x := by
  refine fn_sound' (C := Ndx) (c := bodyOf Tryd.f39) (cok_of tys_ok (allc Ng1 (allc N18 (allc N1r (allc Nh1 (allc Ngj (allc Nx8 alln)))))) (allc Tryd.call56 (allc Tryd.call40 (allc Tryd.call27 (allc Tryd.call58 (allc Tryd.call57 (allc Tryd.call59 alln)))))) (by kernel_rfl)) Tryd.func39 (by kernel_rfl) LL Ne4 ?_
  intro avs H r H' h
  unfold N9x at h
  split at h
  · refine Awp.cast ?_ ?_ ?_ (Nq7 _ _ _ h) <;> kernel_rfl
  · simp [Ans.no,Ans.run] at h

def Nak : Ann := (.seq (.leaf [0,2]) (.seq (.seq (.leaf [0,2,6]) (.cond (.seq (.leaf [2,3]) (.leafF [⟨0,2,false,some 0,some (.int .i64)⟩] [2,3])) (.leaf [0,2]))) (.seq (.leaf [2,3]) (.leaf [2,3]))))
noncomputable def Ncg : Ctx := ⟨tlook tys,olook [(27,Nv)],ioF,0,false,[]⟩
theorem Nqi (a : List Int) : Link Ncg LL (bodyOf Tryd.f38) Nak ⟨mkE 12 0 [(0,dL a)],[]⟩ (N51 a) (fun (t : Bool × (List Int)) => (Exit.ret,⟨mkE 12 0 [(2,.ptr 0 0),(3,dB t.1)],[some (.box [.slc 1,.nils]),some (sI t.2)]⟩)) := .of fun K h => by
  simp only [N51,wpW] at h
  exact .of (by kernel_rfl) h
theorem Nq5 (a : List Int) {r : AV} {H' : Heap} (h : (Ans.mk _ (N2e a) (fun (t : Bool × (List Int)) => (.tup [.agg [.slc 1,.nils],dB t.1],[some (.box [.slc 1,.nils]),some (sI t.2)])) [] none).run = some (r,H')) : Awp Ncg LL (bodyOf Tryd.f38) Nak ⟨mkE 12 0 [(0,dL a)],[]⟩ (Ret (tlook tys) Tryd.f38.results.toList r H') :=
  ret_of' (Nqi a) (by unfold N2e; kernel_rfl) (by
  intro t
  exact ret_mk [.agg [.slc 1,.nils],dB t.1] (by kernel_rfl) (by kernel_rfl) (by kernel_rfl) (by kernel_rfl)) h
def Nbp : Fun := fun avs H =>
  match avs,H with
  | [.dat (.list (.int .i64)) a],[] => ⟨_,N2e a,fun (t : Bool × (List Int)) => (.tup [.agg [.slc 1,.nils],dB t.1],[some (.box [.slc 1,.nils]),some (sI t.2)]),[],none⟩
  | _,_ => Ans.no
theorem Npu : Sound Tryd.prog 38 Nbp := by
  refine fn_sound' (C := Ncg) (c := bodyOf Tryd.f38) (cok_of tys_ok (allc N1r alln) (allc Tryd.call27 alln) (by kernel_rfl)) Tryd.func38 (by kernel_rfl) LL Nak ?_
  intro avs H r H' h
  unfold Nbp at h
  split at h
  · refine Awp.cast ?_ ?_ ?_ (Nq5 _ h) <;> kernel_rfl
  · simp [Ans.no,Ans.run] at h

def Nan : Ann := (.seq (.leaf [0,1,4]) (.seq (.draw [0,3,4] [0,1,5,2,3,4,6,7,8,9,10,11,12] [] [0,1,4,5]) (.seq (.seq (.leaf [0,1,4,5,18]) (.block (.seq (.leaf [0,1,4,5,18,19]) (.cond (.seq (.leaf [0,1,4,5]) (.leaf [0,4,5])) (.seq (.leaf [0,1,4,5,34]) (.cond (.leaf [0,4,5]) (.leaf [0,4,5]))))))) (.seq (.seq (.leaf [0,4,5,47]) (.cond (.leaf [4,5]) (.leaf [4,5]))) (.seq (.leaf [4]) (.leaf [4]))))))
noncomputable def Nc1 : Ctx := ⟨tlook tys,olook [(40,Nj),(36,N3r)],ioF,1,false,[]⟩
theorem Nqk (a b : List Int) (c : Int) : Link Nc1 LL (bodyOf Tryd.f20) Nan ⟨mkE 55 0 [(0,.ptr 0 0),(1,dL a)],[some (.box [dV b,dI c])]⟩ (N5n a b c) (fun (t : Int × Int × Int × Int) => (Exit.ret,⟨mkE 55 0 [(4,.ptr 1 0)],[some (.box [dV b,dI t.1]),some (.box [dI t.2.1,dI t.2.2.1,dI t.2.2.2])]⟩)) := .of fun K h => by
  simp only [N5n,wpW] at h
  exact .of (by kernel_rfl) h
theorem Nme (a b : List Int) (c : Int) {r : AV} {H' : Heap} (h : (Ans.mk _ (N1j a b c) (fun (t : Int × Int × Int × Int) => (.agg [dI t.2.1,dI t.2.2.1,dI t.2.2.2],[some (.box [dV b,dI t.1]),some (.box [dI t.2.1,dI t.2.2.1,dI t.2.2.2])])) [] none).run = some (r,H')) : Awp Nc1 LL (bodyOf Tryd.f20) Nan ⟨mkE 55 0 [(0,.ptr 0 0),(1,dL a)],[some (.box [dV b,dI c])]⟩ (Ret (tlook tys) Tryd.f20.results.toList r H') :=
  ret_of' (Nqk a b c) (by unfold N1j; kernel_rfl) (by
  intro t
  exact ret_mk [.agg [dI t.2.1,dI t.2.2.1,dI t.2.2.2]] (by kernel_rfl) (by kernel_rfl) (by kernel_rfl) (by kernel_rfl)) h
def N8h : Fun := fun avs H =>
  match avs,H with
  | [.ptr 0 0,.dat (.list (.int .i64)) a],[some (.box [.dat (.list (.int .u8)) b,.dat (.int .i64) c])] => ⟨_,N1j a b c,fun (t : Int × Int × Int × Int) => (.agg [dI t.2.1,dI t.2.2.1,dI t.2.2.2],[some (.box [dV b,dI t.1]),some (.box [dI t.2.1,dI t.2.2.1,dI t.2.2.2])]),[],none⟩
  | _,_ => Ans.no
theorem Nhk : Sound Tryd.prog 20 N8h := by
  refine fn_sound' (C := Nc1) (c := bodyOf Tryd.f20) (cok_of tys_ok (allc N18 (allc N7v alln)) (allc Tryd.call40 (allc Tryd.call36 alln)) (by kernel_rfl)) Tryd.func20 (by kernel_rfl) LL Nan ?_
  intro avs H r H' h
  unfold N8h at h
  split at h
  · refine Awp.cast ?_ ?_ ?_ (Nme _ _ _ h) <;> kernel_rfl
  · simp [Ans.no,Ans.run] at h

def N3s : Ann := (.seq (.leaf [1]) (.seq (.seq (.leaf [1,3]) (.block (.loop (.seq (.seq (.leaf [1,3,8]) (.cond (.leaf [1,3]) (.leaf [1]))) (.seq (.block (.seq (.leaf [1,3,17]) (.cond (.seq (.leaf [2]) (.leaf [2])) (.leaf [1,3])))) (.leaf [1,3])))))) (.seq (.leaf [2]) (.leaf [2]))))
noncomputable def N41 : Ctx := ⟨tlook tys,olook [(27,Nv)],ioF,0,false,[]⟩
theorem Nl4 (a : List Int) (b : List (List Int)) : Link N41 LL (cq [0] (bodyOf Tryd.f16)) (aq [0] N3s) ⟨mkE 27 0 [(0,.agg [dL a,.dat (.list (.list (.int .i64))) b])],[]⟩ (N94) (fun (t : Unit) => (Exit.normal,⟨mkE 27 0 [(1,.ptr 0 0)],[some (.box [dL a,.dat (.list (.list (.int .i64))) b])]⟩)) := .of fun K h => by
  simp only [N94,wpW] at h
  exact .of (by kernel_rfl) h
theorem Nvk (a : List Int) (b : List (List Int)) : Link N41 LL (cq [0,0,1] (bodyOf Tryd.f16)) (aq [0,0,1] N3s) ⟨mkE 27 0 [(1,.ptr 0 0)],[some (.box [dL a,.dat (.list (.list (.int .i64))) b])]⟩ (N6b) (fun (t : Unit) => (Exit.normal,⟨mkE 27 0 [(1,.ptr 0 0),(3,dI 0)],[some (.box [dL a,.dat (.list (.list (.int .i64))) b])]⟩)) := .of fun K h => by
  simp only [N6b,wpW] at h
  exact .of (by kernel_rfl) h
theorem Nqc (a : Int) (b : List Int) (c : List (List Int)) : Link N41 LL (cq [0,0,1,0,1] (bodyOf Tryd.f16)) (aq [0,0,1,0,1] N3s) ⟨mkE 27 0 [(1,.ptr 0 0),(3,dI a)],[some (.box [dL b,.dat (.list (.list (.int .i64))) c])]⟩ (N29 a c) (Sum.elim (fun (t : Int) => (Exit.normal,⟨mkE 27 0 [(1,.ptr 0 0),(3,dI t)],[some (.box [dL b,.dat (.list (.list (.int .i64))) c])]⟩)) (Sum.elim (fun (t : Bool) => (Exit.ret,⟨mkE 27 0 [(2,dB t)],[]⟩)) (fun (t : Unit) => ((Exit.exit 0),⟨mkE 27 0 [(1,.ptr 0 0)],[some (.box [dL b,.dat (.list (.list (.int .i64))) c])]⟩)))) := .of fun K h => by
  simp only [N29,wpW] at h
  exact .of (by kernel_rfl) h
theorem Nn3 (a : List Int) (b : List (List Int)) : Link N41 LL (cq [1,1] (bodyOf Tryd.f16)) (aq [1,1] N3s) ⟨mkE 27 0 [(1,.ptr 0 0)],[some (.box [dL a,.dat (.list (.list (.int .i64))) b])]⟩ (N8y a b) (fun (t : Bool) => (Exit.ret,⟨mkE 27 0 [(2,dB t)],[]⟩)) := .of fun K h => by
  simp only [N8y,wpW] at h
  exact .of (by kernel_rfl) h
theorem Nwv (a : List Int) (b : List (List Int)) {r : AV} {H' : Heap} (h : (Ans.mk _ (Nx a b) (fun (t : Bool) => (dB t,[])) [] none).run = some (r,H')) : Awp N41 LL (bodyOf Tryd.f16) N3s ⟨mkE 27 0 [(0,.agg [dL a,.dat (.list (.list (.int .i64))) b])],[]⟩ (Ret (tlook tys) Tryd.f16.results.toList r H') :=
  ret_of' (Link.cast (by kernel_rfl) (by kernel_rfl) (link_seq (Nl4 a b) (fun (t : Unit) => (link_seq2 (link_seq (Nvk a b) (fun (t : Unit) => (link_block (fin2 := (Sum.elim (fun (t : Unit) => (Exit.normal,⟨mkE 27 0 [(1,.ptr 0 0)],[some (.box [dL a,.dat (.list (.list (.int .i64))) b])]⟩)) (fun (t : Bool) => (Exit.ret,⟨mkE 27 0 [(2,dB t)],[]⟩)))) (id := 0) (link_loop (mk := fun (s : Int) => ⟨mkE 27 0 [(1,.ptr 0 0),(3,dI s)],[some (.box [dL a,.dat (.list (.list (.int .i64))) b])]⟩) (fin := (Sum.elim (fun (t : Bool) => (Exit.ret,⟨mkE 27 0 [(2,dB t)],[]⟩)) (fun (t : Unit) => ((Exit.exit 0),⟨mkE 27 0 [(1,.ptr 0 0)],[some (.box [dL a,.dat (.list (.list (.int .i64))) b])]⟩)))) (by
  rintro (t | t) f K h
  · exact h
  · exact h) (fun s => link_map (Nqc s a b) (Sum.elim (fun (t : Int) => Sum.inl t) (Sum.elim (fun (t : Bool) => Sum.inr (Sum.inl t)) (fun (t : Unit) => Sum.inr (Sum.inr t)))) (by
  rintro (t | t | t)
  · kernel_rfl
  · kernel_rfl
  · kernel_rfl)) 0) (Sum.elim (fun (t : Bool) => (Sum.inr t)) (fun (t : Unit) => (Sum.inl ()))) (by
  rintro (t | t) K h
  · exact Eq.mp (by kernel_rfl) h
  · exact Eq.mp (by kernel_rfl) h)))) (fun (t : Unit) => (Nn3 a b)) (fun (t : Bool) => t) (by
  rintro t
  · kernel_rfl) (by
  rintro t f K h
  · exact h))))) (by unfold Nx; kernel_rfl) (by
  intro t
  exact ret_mk [dB t] (by kernel_rfl) (by kernel_rfl) (by kernel_rfl) (by kernel_rfl)) h
def N4r : Fun := fun avs H =>
  match avs,H with
  | [.agg [.dat (.list (.int .i64)) a,.dat (.list (.list (.int .i64))) b]],[] => ⟨_,Nx a b,fun (t : Bool) => (dB t,[]),[],none⟩
  | _,_ => Ans.no
theorem Nd1 : Sound Tryd.prog 16 N4r := by
  refine fn_sound' (C := N41) (c := bodyOf Tryd.f16) (cok_of tys_ok (allc N1r alln) (allc Tryd.call27 alln) (by kernel_rfl)) Tryd.func16 (by kernel_rfl) LL N3s ?_
  intro avs H r H' h
  unfold N4r at h
  split at h
  · refine Awp.cast ?_ ?_ ?_ (Nwv _ _ h) <;> kernel_rfl
  · simp [Ans.no,Ans.run] at h

def N1k : Ann := (.seq (.leaf [1,2]) (.seq (.leaf [1,2,3]) (.seq (.seq (.leafF [⟨1,3,true,some 1,some (.int .i64)⟩] [1,2,3,4]) (.block (.loop (.seq (.seq (.leaf [1,2,3,4,14]) (.cond (.leaf [1,2,3,4]) (.leaf [2,3]))) (.seq (.block (.draw [8,2,100010] [0,1,2,3,4,5,6,7,8,9,10,11,12] [] [1,2,3,4])) (.leaf [1,2,3,4])))))) (.seq (.leaf [2]) (.leaf [2])))))
noncomputable def N4a : Ctx := ⟨tlook tys,olook [],ioF,0,true,[]⟩
theorem Nod (a : List Int) (b : List (List Int)) : Link N4a LL (Code.seq (cq [0] (bodyOf Tryd.f25)) (cq [0,1] (bodyOf Tryd.f25))) (Ann.seq (aq [0] N1k) (aq [0,1] N1k)) ⟨mkE 30 0 [(0,.agg [dL a,.dat (.list (.list (.int .i64))) b])],[]⟩ (N72 a) (fun (t : (List Int)) => (Exit.normal,⟨mkE 30 0 [(1,.ptr 0 0),(2,.ptr 1 0),(3,.ptr 2 0)],[some (.box [dL a,.dat (.list (.list (.int .i64))) b]),some (.box [.nils,.nils]),some (.box [.slc 3,.nils]),some (sI t)]⟩)) := .of fun K h => by
  simp only [N72,wpW] at h
  exact .of (by kernel_rfl) h
theorem Nr9 (a : List Int) (b : List (List Int)) (c : List Int) : Link N4a LL (cq [0,0,1,1] (bodyOf Tryd.f25)) (aq [0,0,1,1] N1k) ⟨mkE 30 0 [(1,.ptr 0 0),(2,.ptr 1 0),(3,.ptr 2 0)],[some (.box [dL a,.dat (.list (.list (.int .i64))) b]),some (.box [.nils,.nils]),some (.box [.slc 3,.nils]),some (sI c)]⟩ (N78) (fun (t : Unit) => (Exit.normal,⟨mkE 30 0 [(1,.ptr 0 0),(2,.ptr 1 0),(3,.ptr 2 0),(4,dI 0)],[some (.box [dL a,.dat (.list (.list (.int .i64))) b]),some (.box [.nils,.nils]),some (.box [.slc 3,.slc 4]),some (sI c),some (.nest (.int .i64) ([] : List (List Int)) 0 [])]⟩)) := .of fun K h => by
  simp only [N78,wpW] at h
  exact .of (by kernel_rfl) h
theorem Nn2 (a : Int) (b : List Int) (c : List (List Int)) (d : List Int) (g : List (List Int)) : Link N4a LL (cq [0,0,1,0,1,1] (bodyOf Tryd.f25)) (aq [0,0,1,0,1,1] N1k) ⟨mkE 30 0 [(1,.ptr 0 0),(2,.ptr 1 0),(3,.ptr 2 0),(4,dI a)],[some (.box [dL b,.dat (.list (.list (.int .i64))) c]),some (.box [.nils,.nils]),some (.box [.slc 3,.slc 4]),some (sI d),some (.nest (.int .i64) g 0 [])]⟩ (N4f a c g) (Sum.elim (fun (t : Int × (List (List Int))) => (Exit.normal,⟨mkE 30 0 [(1,.ptr 0 0),(2,.ptr 1 0),(3,.ptr 2 0),(4,dI t.1)],[some (.box [dL b,.dat (.list (.list (.int .i64))) c]),some (.box [.nils,.nils]),some (.box [.slc 3,.slc 4]),some (sI d),some (.nest (.int .i64) t.2 0 [])]⟩)) (fun (t : (List (List Int))) => ((Exit.exit 0),⟨mkE 30 0 [(2,.ptr 0 0),(3,.ptr 1 0)],[some (.box [.nils,.nils]),some (.box [.slc 2,.slc 3]),some (sI d),some (.nest (.int .i64) t 0 [])]⟩))) := .of fun K h => by
  simp only [N4f,wpW] at h
  exact .of (by kernel_rfl) h
theorem No3 (a : List Int) (b : List (List Int)) : Link N4a LL (cq [1,1,1] (bodyOf Tryd.f25)) (aq [1,1,1] N1k) ⟨mkE 30 0 [(2,.ptr 0 0),(3,.ptr 1 0)],[some (.box [.nils,.nils]),some (.box [.slc 2,.slc 3]),some (sI a),some (.nest (.int .i64) b 0 [])]⟩ (N6z a b) (fun (t : (List Int) × (List (List Int))) => (Exit.ret,⟨mkE 30 0 [(2,.ptr 0 0)],[some (.box [.slc 1,.slc 2]),some (sI t.1),some (.nest (.int .i64) t.2 0 [])]⟩)) := .of fun K h => by
  simp only [N6z,wpW] at h
  exact .of (by kernel_rfl) h
theorem Nu2 (b : List Int) (d : List (List Int)) {r : AV} {H' : Heap} (h : (Ans.mk _ (N1t b d) (fun (t : (List Int) × (List (List Int))) => (.agg [.slc 1,.slc 2],[some (.box [.slc 1,.slc 2]),some (sI t.1),some (.nest (.int .i64) t.2 0 [])])) [] none).run = some (r,H')) : Awp N4a LL (bodyOf Tryd.f25) N1k ⟨mkE 30 0 [(0,.agg [dL b,.dat (.list (.list (.int .i64))) d])],[]⟩ (Ret (tlook tys) Tryd.f25.results.toList r H') :=
  ret_of' (Link.cast (by kernel_rfl) (by kernel_rfl) (link_group (c := (cq [0,1] (bodyOf Tryd.f25))) (a := (aq [0,1] N1k)) [(cq [0] (bodyOf Tryd.f25))] [(aq [0] N1k)] rfl (link_seq (Nod b d) (fun (t : (List Int)) => (link_seq (link_seq (Nr9 b d t) (fun (t32 : Unit) => (link_block (fin2 := (fun (t32 : (List (List Int))) => (Exit.normal,⟨mkE 30 0 [(2,.ptr 0 0),(3,.ptr 1 0)],[some (.box [.nils,.nils]),some (.box [.slc 2,.slc 3]),some (sI t),some (.nest (.int .i64) t32 0 [])]⟩))) (id := 0) (link_loop (mk := fun (s : Int × (List (List Int))) => ⟨mkE 30 0 [(1,.ptr 0 0),(2,.ptr 1 0),(3,.ptr 2 0),(4,dI s.1)],[some (.box [dL b,.dat (.list (.list (.int .i64))) d]),some (.box [.nils,.nils]),some (.box [.slc 3,.slc 4]),some (sI t),some (.nest (.int .i64) s.2 0 [])]⟩) (fin := (fun (t32 : (List (List Int))) => ((Exit.exit 0),⟨mkE 30 0 [(2,.ptr 0 0),(3,.ptr 1 0)],[some (.box [.nils,.nils]),some (.box [.slc 2,.slc 3]),some (sI t),some (.nest (.int .i64) t32 0 [])]⟩))) (by
  rintro t32 f K h
  · exact h) (fun s => link_map (Nn2 s.1 b d t s.2) (Sum.elim (fun (t32 : Int × (List (List Int))) => Sum.inl (t32.1,t32.2)) (fun (t32 : (List (List Int))) => Sum.inr t32)) (by
  rintro (t32 | t32)
  · kernel_rfl
  · kernel_rfl)) (0,([] : List (List Int)))) (fun (t32 : (List (List Int))) => t32) (by
  rintro t32 K h
  · exact Eq.mp (by kernel_rfl) h)))) (fun (t32 : (List (List Int))) => (No3 t t32))))))) (by unfold N1t; kernel_rfl) (by
  intro t
  exact ret_mk [.agg [.slc 1,.slc 2]] (by kernel_rfl) (by kernel_rfl) (by kernel_rfl) (by kernel_rfl)) h
def N96 : Fun := fun avs H =>
  match avs,H with
  | [.agg [.dat (.list (.int .i64)) a,.dat (.list (.list (.int .i64))) b]],[] => ⟨_,N1t a b,fun (t : (List Int) × (List (List Int))) => (.agg [.slc 1,.slc 2],[some (.box [.slc 1,.slc 2]),some (sI t.1),some (.nest (.int .i64) t.2 0 [])]),[],none⟩
  | _,_ => Ans.no
theorem Ni4 : Sound Tryd.prog 25 N96 := by
  refine fn_sound' (C := N4a) (c := bodyOf Tryd.f25) (cok_of tys_ok (alln) (alln) (by kernel_rfl)) Tryd.func25 (by kernel_rfl) LL N1k ?_
  intro avs H r H' h
  unfold N96 at h
  split at h
  · refine Awp.cast ?_ ?_ ?_ (Nu2 _ _ h) <;> kernel_rfl
  · simp [Ans.no,Ans.run] at h

def Nl : Ann := (.seq (.leaf [0]) (.seq (.leaf [0,3]) (.seq (.leaf [0,3,4]) (.seq (.seq (.leaf [0,3,4,5]) (.block (.loop (.seq (.seq (.leaf [0,3,4,5,16]) (.cond (.leaf [0,3,4,5]) (.leaf [3]))) (.seq (.block (.seq (.leaf [0,3,4,5,23]) (.cond (.leaf [0,3,4,5]) (.leaf [0,3,4,5])))) (.leaf [0,3,4,5])))))) (.seq (.leaf [2]) (.leaf [2]))))))
noncomputable def N4g : Ctx := ⟨tlook tys,olook [(27,Nv)],ioF,0,false,[]⟩
theorem Nkn (a : List Int) : Link N4g LL (Code.seq (cq [0] (bodyOf Tryd.f47)) (Code.seq (cq [0,1] (bodyOf Tryd.f47)) (cq [0,1,1] (bodyOf Tryd.f47)))) (Ann.seq (aq [0] Nl) (Ann.seq (aq [0,1] Nl) (aq [0,1,1] Nl))) ⟨mkE 38 0 [(0,dL a)],[]⟩ (N92 a) (fun (t : Int) => (Exit.normal,⟨mkE 38 0 [(0,dL a),(3,.slc 0),(4,dI t)],[some (sI ([] : List Int))]⟩)) := .of fun K h => by
  simp only [N92,wpW] at h
  exact .of (by kernel_rfl) h
theorem Nvf (a : List Int) (b : Int) : Link N4g LL (cq [0,0,1,1,1] (bodyOf Tryd.f47)) (aq [0,0,1,1,1] Nl) ⟨mkE 38 0 [(0,dL a),(3,.slc 0),(4,dI b)],[some (sI ([] : List Int))]⟩ (N7p b) (fun (t : Int) => (Exit.normal,⟨mkE 38 0 [(0,dL a),(3,.slc 0),(4,dI b),(5,dI t)],[some (sI ([] : List Int))]⟩)) := .of fun K h => by
  simp only [N7p,wpW] at h
  exact .of (by kernel_rfl) h
theorem Nqp (a : List Int) (b c : Int) (d : List Int) : Link N4g LL (cq [0,0,1,0,1,1,1] (bodyOf Tryd.f47)) (aq [0,0,1,0,1,1,1] Nl) ⟨mkE 38 0 [(0,dL a),(3,.slc 0),(4,dI b),(5,dI c)],[some (sI d)]⟩ (N1v a b c d) (Sum.elim (fun (t : Int × (List Int)) => (Exit.normal,⟨mkE 38 0 [(0,dL a),(3,.slc 0),(4,dI b),(5,dI t.1)],[some (sI t.2)]⟩)) (fun (t : (List Int)) => ((Exit.exit 0),⟨mkE 38 0 [(3,.slc 0)],[some (sI t)]⟩))) := .of fun K h => by
  simp only [N1v,wpW] at h
  exact .of (by kernel_rfl) h
theorem No8 (a : List Int) : Link N4g LL (cq [1,1,1,1] (bodyOf Tryd.f47)) (aq [1,1,1,1] Nl) ⟨mkE 38 0 [(3,.slc 0)],[some (sI a)]⟩ (N6g a) (fun (t : (List Int)) => (Exit.ret,⟨mkE 38 0 [(2,.slc 0)],[some (sI t)]⟩)) := .of fun K h => by
  simp only [N6g,wpW] at h
  exact .of (by kernel_rfl) h
theorem Nxa (b : List Int) {r : AV} {H' : Heap} (h : (Ans.mk _ (N1e b) (fun (t : (List Int)) => (.slc 0,[some (sI t)])) [] none).run = some (r,H')) : Awp N4g LL (bodyOf Tryd.f47) Nl ⟨mkE 38 0 [(0,dL b)],[]⟩ (Ret (tlook tys) Tryd.f47.results.toList r H') :=
  ret_of' (Link.cast (by kernel_rfl) (by kernel_rfl) (link_group (c := (cq [0,1,1] (bodyOf Tryd.f47))) (a := (aq [0,1,1] Nl)) [(cq [0] (bodyOf Tryd.f47)),(cq [0,1] (bodyOf Tryd.f47))] [(aq [0] Nl),(aq [0,1] Nl)] rfl (link_seq (Nkn b) (fun (t : Int) => (link_seq (link_seq (Nvf b t) (fun (t33 : Int) => (link_block (fin2 := (fun (t10 : (List Int)) => (Exit.normal,⟨mkE 38 0 [(3,.slc 0)],[some (sI t10)]⟩))) (id := 0) (link_loop (mk := fun (s : Int × (List Int)) => ⟨mkE 38 0 [(0,dL b),(3,.slc 0),(4,dI t),(5,dI s.1)],[some (sI s.2)]⟩) (fin := (fun (t10 : (List Int)) => ((Exit.exit 0),⟨mkE 38 0 [(3,.slc 0)],[some (sI t10)]⟩))) (by
  rintro t10 f K h
  · exact h) (fun s => link_map (Nqp b t s.1 s.2) (Sum.elim (fun (t10 : Int × (List Int)) => Sum.inl (t10.1,t10.2)) (fun (t10 : (List Int)) => Sum.inr t10)) (by
  rintro (t10 | t10)
  · kernel_rfl
  · kernel_rfl)) (t33,([] : List Int))) (fun (t10 : (List Int)) => t10) (by
  rintro t10 K h
  · exact Eq.mp (by kernel_rfl) h)))) (fun (t33 : (List Int)) => (No8 t33))))))) (by unfold N1e; kernel_rfl) (by
  intro t
  exact ret_mk [.slc 0] (by kernel_rfl) (by kernel_rfl) (by kernel_rfl) (by kernel_rfl)) h
def Nds : Fun := fun avs H =>
  match avs,H with
  | [.dat (.list (.int .i64)) a],[] => ⟨_,N1e a,fun (t : (List Int)) => (.slc 0,[some (sI t)]),[],none⟩
  | _,_ => Ans.no
theorem Nn6 : Sound Tryd.prog 47 Nds := by
  refine fn_sound' (C := N4g) (c := bodyOf Tryd.f47) (cok_of tys_ok (allc N1r alln) (allc Tryd.call27 alln) (by kernel_rfl)) Tryd.func47 (by kernel_rfl) LL Nl ?_
  intro avs H r H' h
  unfold Nds at h
  split at h
  · refine Awp.cast ?_ ?_ ?_ (Nxa _ h) <;> kernel_rfl
  · simp [Ans.no,Ans.run] at h

def N4b : Ann := (.seq (.leaf [0]) (.seq (.seq (.leaf [0,3]) (.block (.loop (.seq (.seq (.leaf [0,3,11]) (.cond (.leaf [0,3]) (.leaf []))) (.seq (.block (.seq (.leaf [0,3,18]) (.cond (.seq (.leaf [2]) (.leaf [2])) (.leaf [0,3])))) (.leaf [0,3])))))) (.seq (.leaf [2]) (.leaf [2]))))
noncomputable def N33 : Ctx := ⟨tlook tys,olook [(27,Nv)],ioF,0,false,[]⟩
theorem Nt2 (a : List Int) : Link N33 LL (cq [0] (bodyOf Tryd.f74)) (aq [0] N4b) ⟨mkE 21 0 [(0,dL a)],[]⟩ (N8j) (fun (t : Unit) => (Exit.normal,⟨mkE 21 0 [(0,dL a)],[]⟩)) := .of fun K h => by
  simp only [N8j,wpW] at h
  exact .of (by kernel_rfl) h
theorem Nsd (a : List Int) : Link N33 LL (cq [0,0,1] (bodyOf Tryd.f74)) (aq [0,0,1] N4b) ⟨mkE 21 0 [(0,dL a)],[]⟩ (N7x) (fun (t : Unit) => (Exit.normal,⟨mkE 21 0 [(0,dL a),(3,dI 0)],[]⟩)) := .of fun K h => by
  simp only [N7x,wpW] at h
  exact .of (by kernel_rfl) h
theorem Nml (a : List Int) (b : Int) : Link N33 LL (cq [0,0,1,0,1] (bodyOf Tryd.f74)) (aq [0,0,1,0,1] N4b) ⟨mkE 21 0 [(0,dL a),(3,dI b)],[]⟩ (N27 a b) (Sum.elim (fun (t : Int) => (Exit.normal,⟨mkE 21 0 [(0,dL a),(3,dI t)],[]⟩)) (Sum.elim (fun (t : Int) => (Exit.ret,⟨mkE 21 0 [(2,dI t)],[]⟩)) (fun (t : Unit) => ((Exit.exit 0),⟨mkE 21 0 [],[]⟩)))) := .of fun K h => by
  simp only [N27,wpW] at h
  exact .of (by kernel_rfl) h
theorem Nuo : Link N33 LL (cq [1,1] (bodyOf Tryd.f74)) (aq [1,1] N4b) ⟨mkE 21 0 [],[]⟩ (N91) (fun (t : Int) => (Exit.ret,⟨mkE 21 0 [(2,dI t)],[]⟩)) := .of fun K h => by
  simp only [N91,wpW] at h
  exact .of (by kernel_rfl) h
theorem Ntz (a : List Int) {r : AV} {H' : Heap} (h : (Ans.mk _ (N3i a) (fun (t : Int) => (dI t,[])) [] none).run = some (r,H')) : Awp N33 LL (bodyOf Tryd.f74) N4b ⟨mkE 21 0 [(0,dL a)],[]⟩ (Ret (tlook tys) Tryd.f74.results.toList r H') :=
  ret_of' (Link.cast (by kernel_rfl) (by kernel_rfl) (link_seq (Nt2 a) (fun (t : Unit) => (link_seq2 (link_seq (Nsd a) (fun (t : Unit) => (link_block (fin2 := (Sum.elim (fun (t : Unit) => (Exit.normal,⟨mkE 21 0 [],[]⟩)) (fun (t : Int) => (Exit.ret,⟨mkE 21 0 [(2,dI t)],[]⟩)))) (id := 0) (link_loop (mk := fun (s : Int) => ⟨mkE 21 0 [(0,dL a),(3,dI s)],[]⟩) (fin := (Sum.elim (fun (t : Int) => (Exit.ret,⟨mkE 21 0 [(2,dI t)],[]⟩)) (fun (t : Unit) => ((Exit.exit 0),⟨mkE 21 0 [],[]⟩)))) (by
  rintro (t | t) f K h
  · exact h
  · exact h) (fun s => link_map (Nml a s) (Sum.elim (fun (t : Int) => Sum.inl t) (Sum.elim (fun (t : Int) => Sum.inr (Sum.inl t)) (fun (t : Unit) => Sum.inr (Sum.inr t)))) (by
  rintro (t | t | t)
  · kernel_rfl
  · kernel_rfl
  · kernel_rfl)) 0) (Sum.elim (fun (t : Int) => (Sum.inr t)) (fun (t : Unit) => (Sum.inl ()))) (by
  rintro (t | t) K h
  · exact Eq.mp (by kernel_rfl) h
  · exact Eq.mp (by kernel_rfl) h)))) (fun (t : Unit) => (Nuo)) (fun (t : Int) => t) (by
  rintro t
  · kernel_rfl) (by
  rintro t f K h
  · exact h))))) (by unfold N3i; kernel_rfl) (by
  intro t
  exact ret_mk [dI t] (by kernel_rfl) (by kernel_rfl) (by kernel_rfl) (by kernel_rfl)) h
def Ne7 : Fun := fun avs H =>
  match avs,H with
  | [.dat (.list (.int .i64)) a],[] => ⟨_,N3i a,fun (t : Int) => (dI t,[]),[],none⟩
  | _,_ => Ans.no
theorem Nph : Sound Tryd.prog 74 Ne7 := by
  refine fn_sound' (C := N33) (c := bodyOf Tryd.f74) (cok_of tys_ok (allc N1r alln) (allc Tryd.call27 alln) (by kernel_rfl)) Tryd.func74 (by kernel_rfl) LL N4b ?_
  intro avs H r H' h
  unfold Ne7 at h
  split at h
  · refine Awp.cast ?_ ?_ ?_ (Ntz _ h) <;> kernel_rfl
  · simp [Ans.no,Ans.run] at h

def Nf : Ann := (.seq (.leaf [0,1]) (.seq (.leaf [0,1,5]) (.seq (.seq (.leaf [0,1,5,6]) (.block (.loop (.seq (.seq (.leaf [0,1,5,6,11]) (.cond (.leaf [0,1,5,6]) (.leaf [0,1,5]))) (.seq (.block (.seq (.leaf [0,1,5,6,20]) (.cond (.leaf [0,1,5,6]) (.leaf [0,1,5,6])))) (.leaf [0,1,5,6])))))) (.seq (.leaf [0,1,5]) (.seq (.seq (.leaf [0,1,5,7]) (.block (.loop (.seq (.seq (.leaf [0,1,5,7,35]) (.cond (.leaf [0,1,5,7]) (.leaf [5]))) (.seq (.block (.seq (.leaf [0,1,5,7,44]) (.cond (.leaf [0,1,5,7]) (.leaf [0,1,5,7])))) (.leaf [0,1,5,7])))))) (.seq (.leaf [4]) (.leaf [4])))))))
def N1d (n : Nat) : Fun := fun avs H =>
  match avs,H with
  | [.dat (.list (.int .i64)) a,.dat (.int .i64) b],[] => ⟨_,N7 n a b,fun (t : (List Int)) => (.slc 0,[some (sI t)]),[],none⟩
  | _,_ => Ans.no
noncomputable def N1f (n : Nat) : Ctx := ⟨tlook tys,olook [(73,N1d n)],ioF,0,false,[]⟩
theorem Nsf (n : Nat) (a : List Int) (b : Int) : Link (N1f n) LL (Code.seq (cq [0] (bodyOf Tryd.f73)) (cq [0,1] (bodyOf Tryd.f73))) (Ann.seq (aq [0] Nf) (aq [0,1] Nf)) ⟨mkE 51 0 [(0,dL a),(1,dI b)],[]⟩ (N64 (N7 n)) (fun (t : Unit) => (Exit.normal,⟨mkE 51 0 [(0,dL a),(1,dI b),(5,.slc 0)],[some (sI ([] : List Int))]⟩)) := .of fun K h => by
  simp only [N64,wpW] at h
  exact .of (by kernel_rfl) h
theorem Nt9 (n : Nat) (a : List Int) (b : Int) : Link (N1f n) LL (cq [0,0,1,1] (bodyOf Tryd.f73)) (aq [0,0,1,1] Nf) ⟨mkE 51 0 [(0,dL a),(1,dI b),(5,.slc 0)],[some (sI ([] : List Int))]⟩ (N7r (N7 n)) (fun (t : Unit) => (Exit.normal,⟨mkE 51 0 [(0,dL a),(1,dI b),(5,.slc 0),(6,dI 1)],[some (sI ([] : List Int))]⟩)) := .of fun K h => by
  simp only [N7r,wpW] at h
  exact .of (by kernel_rfl) h
theorem Nq0 (n : Nat) (a : List Int) (b c : Int) (d : List Int) : Link (N1f n) LL (cq [0,0,1,0,1,1] (bodyOf Tryd.f73)) (aq [0,0,1,0,1,1] Nf) ⟨mkE 51 0 [(0,dL a),(1,dI b),(5,.slc 0),(6,dI c)],[some (sI d)]⟩ (N40 (N7 n) a b c d) (Sum.elim (fun (t : Int × (List Int)) => (Exit.normal,⟨mkE 51 0 [(0,dL a),(1,dI b),(5,.slc 0),(6,dI t.1)],[some (sI t.2)]⟩)) (fun (t : (List Int)) => ((Exit.exit 0),⟨mkE 51 0 [(0,dL a),(1,dI b),(5,.slc 0)],[some (sI t)]⟩))) := .of fun K h => by
  simp only [N40,wpW] at h
  exact .of (by kernel_rfl) h
theorem Nvg (n : Nat) (a : List Int) (b : Int) (c : List Int) : Link (N1f n) LL (cq [0,1,1,1] (bodyOf Tryd.f73)) (aq [0,1,1,1] Nf) ⟨mkE 51 0 [(0,dL a),(1,dI b),(5,.slc 0)],[some (sI c)]⟩ (N7c (N7 n) b c) (fun (t : (List Int)) => (Exit.normal,⟨mkE 51 0 [(0,dL a),(1,dI b),(5,.slc 0)],[some (sI t)]⟩)) := .of fun K h => by
  simp only [N7c,wpW] at h
  exact .of (by kernel_rfl) h
theorem Nsc (n : Nat) (a : List Int) (b : Int) (c : List Int) : Link (N1f n) LL (cq [0,0,1,1,1,1] (bodyOf Tryd.f73)) (aq [0,0,1,1,1,1] Nf) ⟨mkE 51 0 [(0,dL a),(1,dI b),(5,.slc 0)],[some (sI c)]⟩ (N80 (N7 n) b) (fun (t : Int) => (Exit.normal,⟨mkE 51 0 [(0,dL a),(1,dI b),(5,.slc 0),(7,dI t)],[some (sI c)]⟩)) := .of fun K h => by
  simp only [N80,wpW] at h
  exact .of (by kernel_rfl) h
theorem Nx2 (n : Nat) (a : List Int) (b c : Int) (d : List Int) : Link (N1f n) LL (cq [0,0,1,0,1,1,1,1] (bodyOf Tryd.f73)) (aq [0,0,1,0,1,1,1,1] Nf) ⟨mkE 51 0 [(0,dL a),(1,dI b),(5,.slc 0),(7,dI c)],[some (sI d)]⟩ (N3h (N7 n) a b c d) (Sum.elim (fun (t : Int × (List Int)) => (Exit.normal,⟨mkE 51 0 [(0,dL a),(1,dI b),(5,.slc 0),(7,dI t.1)],[some (sI t.2)]⟩)) (fun (t : (List Int)) => ((Exit.exit 2),⟨mkE 51 0 [(5,.slc 0)],[some (sI t)]⟩))) := .of fun K h => by
  simp only [N3h,wpW] at h
  exact .of (by kernel_rfl) h
theorem Nxb (n : Nat) (a : List Int) : Link (N1f n) LL (cq [1,1,1,1,1] (bodyOf Tryd.f73)) (aq [1,1,1,1,1] Nf) ⟨mkE 51 0 [(5,.slc 0)],[some (sI a)]⟩ (N7d (N7 n) a) (fun (t : (List Int)) => (Exit.ret,⟨mkE 51 0 [(4,.slc 0)],[some (sI t)]⟩)) := .of fun K h => by
  simp only [N7d,wpW] at h
  exact .of (by kernel_rfl) h
theorem Nmi (n : Nat) (b : List Int) (d : Int) {r : AV} {H' : Heap} (h : (Ans.mk _ (N7 (n + 1) b d) (fun (t : (List Int)) => (.slc 0,[some (sI t)])) [] none).run = some (r,H')) : Awp (N1f n) LL (bodyOf Tryd.f73) Nf ⟨mkE 51 0 [(0,dL b),(1,dI d)],[]⟩ (Ret (tlook tys) Tryd.f73.results.toList r H') :=
  ret_of' (Link.cast (by kernel_rfl) (by kernel_rfl) (link_group (c := (cq [0,1] (bodyOf Tryd.f73))) (a := (aq [0,1] Nf)) [(cq [0] (bodyOf Tryd.f73))] [(aq [0] Nf)] rfl (link_seq (Nsf n b d) (fun (t : Unit) => (link_seq (link_seq (Nt9 n b d) (fun (t : Unit) => (link_block (fin2 := (fun (t : (List Int)) => (Exit.normal,⟨mkE 51 0 [(0,dL b),(1,dI d),(5,.slc 0)],[some (sI t)]⟩))) (id := 0) (link_loop (mk := fun (s : Int × (List Int)) => ⟨mkE 51 0 [(0,dL b),(1,dI d),(5,.slc 0),(6,dI s.1)],[some (sI s.2)]⟩) (fin := (fun (t : (List Int)) => ((Exit.exit 0),⟨mkE 51 0 [(0,dL b),(1,dI d),(5,.slc 0)],[some (sI t)]⟩))) (by
  rintro t f K h
  · exact h) (fun s => link_map (Nq0 n b d s.1 s.2) (Sum.elim (fun (t : Int × (List Int)) => Sum.inl (t.1,t.2)) (fun (t : (List Int)) => Sum.inr t)) (by
  rintro (t | t)
  · kernel_rfl
  · kernel_rfl)) (1,([] : List Int))) (fun (t : (List Int)) => t) (by
  rintro t K h
  · exact Eq.mp (by kernel_rfl) h)))) (fun (t : (List Int)) => (link_seq (Nvg n b d t) (fun (t45 : (List Int)) => (link_seq (link_seq (Nsc n b d t45) (fun (t34 : Int) => (link_block (fin2 := (fun (t11 : (List Int)) => (Exit.normal,⟨mkE 51 0 [(5,.slc 0)],[some (sI t11)]⟩))) (id := 2) (link_loop (mk := fun (s : Int × (List Int)) => ⟨mkE 51 0 [(0,dL b),(1,dI d),(5,.slc 0),(7,dI s.1)],[some (sI s.2)]⟩) (fin := (fun (t11 : (List Int)) => ((Exit.exit 2),⟨mkE 51 0 [(5,.slc 0)],[some (sI t11)]⟩))) (by
  rintro t11 f K h
  · exact h) (fun s => link_map (Nx2 n b d s.1 s.2) (Sum.elim (fun (t11 : Int × (List Int)) => Sum.inl (t11.1,t11.2)) (fun (t11 : (List Int)) => Sum.inr t11)) (by
  rintro (t11 | t11)
  · kernel_rfl
  · kernel_rfl)) (t34,t45)) (fun (t11 : (List Int)) => t11) (by
  rintro t11 K h
  · exact Eq.mp (by kernel_rfl) h)))) (fun (t34 : (List Int)) => (Nxb n t34))))))))))) (by (show _ = _); kernel_rfl) (by
  intro t
  exact ret_mk [.slc 0] (by kernel_rfl) (by kernel_rfl) (by kernel_rfl) (by kernel_rfl)) h
theorem Ns8 (n : Nat) (h73 : Sound Tryd.prog 73 (N1d n)) : Sound Tryd.prog 73 (N1d (n + 1)) := by
  refine fn_sound' (C := N1f n) (c := bodyOf Tryd.f73) (cok_of tys_ok (allc h73 alln) (allc Tryd.call73 alln) (by kernel_rfl)) Tryd.func73 (by kernel_rfl) LL Nf ?_
  intro avs H r H' h
  unfold N1d at h
  split at h
  · refine Awp.cast ?_ ?_ ?_ (Nmi n _ _ h) <;> kernel_rfl
  · simp [Ans.no,Ans.run] at h
theorem Nwi : Sound Tryd.prog 73 (N1d 0) := by
  intro avs H r H' h
  unfold N1d at h
  split at h
  · simp [N7,N21,Ans.run] at h
  · simp [Ans.no,Ans.run] at h
theorem Nf9 : ∀ n,Sound Tryd.prog 73 (N1d n)
  | 0 => Nwi
  | n + 1 => by
    have h73 := Nf9 n
    exact Ns8 n h73
def N7q : Fun := fun avs H =>
  match avs,H with
  | [.dat (.list (.int .i64)) a,.dat (.int .i64) b],[] => ⟨_,N5c a b,fun (t : (List Int)) => (.slc 0,[some (sI t)]),[],none⟩
  | _,_ => Ans.no
theorem Nv4 : Sound Tryd.prog 73 N7q := by
  have e : N7q = N1d RR := by
    funext avs H
    unfold N7q N1d
    split <;> first | rfl | (simp only [N5c])
  rw [e]
  exact (Nf9 RR)

def Na5 : Ann := (.seq (.leaf [0]) (.seq (.seq (.leaf [0,5]) (.cond (.seq (.leaf [2]) (.leaf [2])) (.leaf [0]))) (.seq (.leaf [2]) (.leaf [2]))))
noncomputable def Na6 : Ctx := ⟨tlook tys,olook [(27,Nv),(74,Ne7),(73,N7q)],ioF,0,false,[]⟩
theorem Nok (a : List Int) : Link Na6 LL (bodyOf Tryd.f63) Na5 ⟨mkE 11 0 [(0,dL a)],[]⟩ (N7z a) (fun (t : (List Int)) => (Exit.ret,⟨mkE 11 0 [(2,.slc 0)],[some (sI t)]⟩)) := .of fun K h => by
  simp only [N7z,wpW] at h
  exact .of (by kernel_rfl) h
theorem Nx1 (a : List Int) {r : AV} {H' : Heap} (h : (Ans.mk _ (N4i a) (fun (t : (List Int)) => (.slc 0,[some (sI t)])) [] none).run = some (r,H')) : Awp Na6 LL (bodyOf Tryd.f63) Na5 ⟨mkE 11 0 [(0,dL a)],[]⟩ (Ret (tlook tys) Tryd.f63.results.toList r H') :=
  ret_of' (Nok a) (by unfold N4i; kernel_rfl) (by
  intro t
  exact ret_mk [.slc 0] (by kernel_rfl) (by kernel_rfl) (by kernel_rfl) (by kernel_rfl)) h
def Nad : Fun := fun avs H =>
  match avs,H with
  | [.dat (.list (.int .i64)) a],[] => ⟨_,N4i a,fun (t : (List Int)) => (.slc 0,[some (sI t)]),[],none⟩
  | _,_ => Ans.no
theorem Nlj : Sound Tryd.prog 63 Nad := by
  refine fn_sound' (C := Na6) (c := bodyOf Tryd.f63) (cok_of tys_ok (allc N1r (allc Nph (allc Nv4 alln))) (allc Tryd.call27 (allc Tryd.call74 (allc Tryd.call73 alln))) (by kernel_rfl)) Tryd.func63 (by kernel_rfl) LL Na5 ?_
  intro avs H r H' h
  unfold Nad at h
  split at h
  · refine Awp.cast ?_ ?_ ?_ (Nx1 _ h) <;> kernel_rfl
  · simp [Ans.no,Ans.run] at h

def N9q : Ann := (.seq (.leaf [0]) (.seq (.leaf [3]) (.seq (.leaf [2]) (.leaf [2]))))
noncomputable def Ncq : Ctx := ⟨tlook tys,olook [(63,Nad),(57,N9a)],ioF,0,false,[]⟩
theorem Nn5 (a : List Int) : Link Ncq LL (bodyOf Tryd.f48) N9q ⟨mkE 13 0 [(0,dL a)],[]⟩ (N77 a) (fun (t : (List Int)) => (Exit.ret,⟨mkE 13 0 [(2,.slc 0)],[some (sI t)]⟩)) := .of fun K h => by
  simp only [N77,wpW] at h
  exact .of (by kernel_rfl) h
theorem Nrt (a : List Int) {r : AV} {H' : Heap} (h : (Ans.mk _ (N1u a) (fun (t : (List Int)) => (.slc 0,[some (sI t)])) [] none).run = some (r,H')) : Awp Ncq LL (bodyOf Tryd.f48) N9q ⟨mkE 13 0 [(0,dL a)],[]⟩ (Ret (tlook tys) Tryd.f48.results.toList r H') :=
  ret_of' (Nn5 a) (by unfold N1u; kernel_rfl) (by
  intro t
  exact ret_mk [.slc 0] (by kernel_rfl) (by kernel_rfl) (by kernel_rfl) (by kernel_rfl)) h
def Nbg : Fun := fun avs H =>
  match avs,H with
  | [.dat (.list (.int .i64)) a],[] => ⟨_,N1u a,fun (t : (List Int)) => (.slc 0,[some (sI t)]),[],none⟩
  | _,_ => Ans.no
theorem Njb : Sound Tryd.prog 48 Nbg := by
  refine fn_sound' (C := Ncq) (c := bodyOf Tryd.f48) (cok_of tys_ok (allc Nlj (allc Ngj alln)) (allc Tryd.call63 (allc Tryd.call57 alln)) (by kernel_rfl)) Tryd.func48 (by kernel_rfl) LL N9q ?_
  intro avs H r H' h
  unfold Nbg at h
  split at h
  · refine Awp.cast ?_ ?_ ?_ (Nrt _ h) <;> kernel_rfl
  · simp [Ans.no,Ans.run] at h

def N9i : Ann := (.seq (.leaf [0,3]) (.seq (.leaf [0,3,5]) (.seq (.block (.seq (.leaf [0,3,5,9]) (.cond (.seq (.leaf [5]) (.seq (.leaf [4]) (.leafF [⟨0,4,true,none,none⟩] [4]))) (.seq (.leaf [0,3,5,28]) (.cond (.seq (.leaf [4]) (.leafF [⟨0,4,true,none,none⟩] [4])) (.seq (.leaf [0,3,5,39]) (.cond (.seq (.leaf [4]) (.leaf [4])) (.seq (.leaf [0,3,48]) (.cond (.seq (.leaf [4]) (.leafF [⟨0,4,true,none,none⟩] [4])) (.seq (.leaf [0,54]) (.cond (.seq (.leaf [4]) (.leafF [⟨0,4,true,none,none⟩] [4])) (.leaf [])))))))))))) (.seq (.leaf [4]) (.leafF [⟨0,4,true,none,none⟩] [4])))))
noncomputable def Ncr : Ctx := ⟨tlook tys,olook [(46,N4z),(47,Nds),(48,Nbg)],ioF,0,false,[]⟩
theorem Nny (a : List Int) (b c d : Int) : Link Ncr LL (bodyOf Tryd.f26) N9i ⟨mkE 61 0 [(0,dL a),(1,.agg [dI b,dI c,dI d])],[]⟩ (N4v a b c d) (fun (t : Nat × (List Int)) => (Exit.ret,⟨mkE 61 0 [(4,.win 0 0 t.1)],[some (sI t.2)]⟩)) := .of fun K h => by
  simp only [N4v,wpW] at h
  exact .of (by kernel_rfl) h
theorem Nqg (a : List Int) (b c d : Int) {r : AV} {H' : Heap} (h : (Ans.mk _ (N1p a b c d) (fun (t : Nat × (List Int)) => (.win 0 0 t.1,[some (sI t.2)])) [] none).run = some (r,H')) : Awp Ncr LL (bodyOf Tryd.f26) N9i ⟨mkE 61 0 [(0,dL a),(1,.agg [dI b,dI c,dI d])],[]⟩ (Ret (tlook tys) Tryd.f26.results.toList r H') :=
  ret_of' (Nny a b c d) (by unfold N1p; kernel_rfl) (by
  intro t
  exact ret_mk [.win 0 0 t.1] (by kernel_rfl) (by kernel_rfl) (by kernel_rfl) (by kernel_rfl)) h
def Ndm : Fun := fun avs H =>
  match avs,H with
  | [.dat (.list (.int .i64)) a,.agg [.dat (.int .i64) b,.dat (.int .i64) c,.dat (.int .i64) d]],[] => ⟨_,N1p a b c d,fun (t : Nat × (List Int)) => (.win 0 0 t.1,[some (sI t.2)]),[],none⟩
  | _,_ => Ans.no
theorem Ntc : Sound Tryd.prog 26 Ndm := by
  refine fn_sound' (C := Ncr) (c := bodyOf Tryd.f26) (cok_of tys_ok (allc Ndd (allc Nn6 (allc Njb alln))) (allc Tryd.call46 (allc Tryd.call47 (allc Tryd.call48 alln))) (by kernel_rfl)) Tryd.func26 (by kernel_rfl) LL N9i ?_
  intro avs H r H' h
  unfold Ndm at h
  split at h
  · refine Awp.cast ?_ ?_ ?_ (Nqg _ _ _ _ h) <;> kernel_rfl
  · simp [Ans.no,Ans.run] at h

def N3 : Ann := (.seq (.leaf [2,3,4]) (.seq (.seq (.leaf [2,3,4,13]) (.cond (.seq (.leaf [4,5]) (.leafF [⟨0,4,false,some 0,some (.int .i64)⟩,⟨0,4,true,some 1,some (.int .i64)⟩] [4,5])) (.leaf [2,3,4]))) (.seq (.leaf [2,3,4,6]) (.seq (.seq (.leaf [2,3,4,6,25]) (.cond (.seq (.leaf [4,6,7]) (.seq (.leaf [4,6,7]) (.seq (.leaf [4,6]) (.seq (.leaf [4,5]) (.leaf [4,5]))))) (.leaf [2,3,4,6]))) (.seq (.leaf [2,4,6,8]) (.seq (.leaf [2,4,6,8,9]) (.seq (.seq (.leaf [2,4,6,8,9,10]) (.block (.loop (.seq (.seq (.leaf [2,4,6,8,9,10,58]) (.cond (.leaf [2,4,6,8,10]) (.leaf [4,6,8,9]))) (.seq (.block (.draw [] [0,1,2,3,4,5,6,7,8,9,10] [] [2,4,6,8,9,10])) (.leaf [2,4,6,8,9,10])))))) (.seq (.seq (.leaf [4,6,8,76]) (.cond (.seq (.leaf [4,5]) (.leaf [4,5])) (.leaf [4,6,8]))) (.seq (.leaf [4,6,8]) (.seq (.seq (.leaf [4,6,8,88]) (.cond (.leaf [4,6,8]) (.leaf [4,6,8]))) (.seq (.leaf [4,6]) (.seq (.leaf [4,5]) (.leaf [4,5])))))))))))))
noncomputable def N46 : Ctx := ⟨tlook tys,olook [(16,N4r),(25,N96),(26,Ndm),(27,Nv)],ioF,0,true,[]⟩
theorem Nn0 (a : List Int) (b : List (List Int)) (c d g : Int) : Link N46 LL (Code.seq (cq [0] (bodyOf Tryd.f7)) (Code.seq (cq [0,1] (bodyOf Tryd.f7)) (Code.seq (cq [0,1,1] (bodyOf Tryd.f7)) (Code.seq (cq [0,1,1,1] (bodyOf Tryd.f7)) (Code.seq (cq [0,1,1,1,1] (bodyOf Tryd.f7)) (cq [0,1,1,1,1,1] (bodyOf Tryd.f7))))))) (Ann.seq (aq [0] N3) (Ann.seq (aq [0,1] N3) (Ann.seq (aq [0,1,1] N3) (Ann.seq (aq [0,1,1,1] N3) (Ann.seq (aq [0,1,1,1,1] N3) (aq [0,1,1,1,1,1] N3)))))) ⟨mkE 98 0 [(0,.agg [dL a,.dat (.list (.list (.int .i64))) b]),(1,.agg [dI c,dI d,dI g])],[]⟩ (N7l a b c d g) (Sum.elim (fun (t : Nat × Bool × (List Int) × (List Int) × (List (List Int))) => (Exit.normal,⟨mkE 98 0 [(2,.ptr 0 0),(4,.ptr 1 0),(6,.ptr 2 0),(8,.win 3 0 t.1),(9,dB t.2.1)],[some (.box [dL a,.dat (.list (.list (.int .i64))) b]),some (.box [.nils,.nils]),some (.box [.slc 4,.slc 5]),some (sI t.2.2.1),some (sI t.2.2.2.1),some (.nest (.int .i64) t.2.2.2.2 0 [])]⟩)) (fun (t : Bool × (List Int) × (List (List Int))) => (Exit.ret,⟨mkE 98 0 [(4,.ptr 0 0),(5,dB t.1)],[some (.box [.slc 1,.slc 2]),some (sI t.2.1),some (.nest (.int .i64) t.2.2 0 [])]⟩))) := .of fun K h => by
  simp only [N7l,wpW] at h
  exact .of (by kernel_rfl) h
theorem Nje (a : Nat) (b : Bool) (c : List Int) (d : List (List Int)) (g i : List Int) (j : List (List Int)) : Link N46 LL (cq [0,0,1,1,1,1,1,1] (bodyOf Tryd.f7)) (aq [0,0,1,1,1,1,1,1] N3) ⟨mkE 98 0 [(2,.ptr 0 0),(4,.ptr 1 0),(6,.ptr 2 0),(8,.win 3 0 a),(9,dB b)],[some (.box [dL c,.dat (.list (.list (.int .i64))) d]),some (.box [.nils,.nils]),some (.box [.slc 4,.slc 5]),some (sI g),some (sI i),some (.nest (.int .i64) j 0 [])]⟩ (N6v) (fun (t : Unit) => (Exit.normal,⟨mkE 98 0 [(2,.ptr 0 0),(4,.ptr 1 0),(6,.ptr 2 0),(8,.win 3 0 a),(9,dB b),(10,dI 0)],[some (.box [dL c,.dat (.list (.list (.int .i64))) d]),some (.box [.nils,.nils]),some (.box [.slc 4,.slc 5]),some (sI g),some (sI i),some (.nest (.int .i64) j 0 [])]⟩)) := .of fun K h => by
  simp only [N6v,wpW] at h
  exact .of (by kernel_rfl) h
theorem Nvu (a : Nat) (b : Bool) (c : Int) (d : List Int) (g : List (List Int)) (i j : List Int) (k : List (List Int)) : Link N46 LL (cq [0,0,1,0,1,1,1,1,1,1] (bodyOf Tryd.f7)) (aq [0,0,1,0,1,1,1,1,1,1] N3) ⟨mkE 98 0 [(2,.ptr 0 0),(4,.ptr 1 0),(6,.ptr 2 0),(8,.win 3 0 a),(9,dB b),(10,dI c)],[some (.box [dL d,.dat (.list (.list (.int .i64))) g]),some (.box [.nils,.nils]),some (.box [.slc 4,.slc 5]),some (sI i),some (sI j),some (.nest (.int .i64) k 0 [])]⟩ (N2w a b c d i) (Sum.elim (fun (t : Bool × Int) => (Exit.normal,⟨mkE 98 0 [(2,.ptr 0 0),(4,.ptr 1 0),(6,.ptr 2 0),(8,.win 3 0 a),(9,dB t.1),(10,dI t.2)],[some (.box [dL d,.dat (.list (.list (.int .i64))) g]),some (.box [.nils,.nils]),some (.box [.slc 4,.slc 5]),some (sI i),some (sI j),some (.nest (.int .i64) k 0 [])]⟩)) (fun (t : Bool) => ((Exit.exit 0),⟨mkE 98 0 [(4,.ptr 0 0),(6,.ptr 1 0),(8,.win 2 0 a),(9,dB t)],[some (.box [.nils,.nils]),some (.box [.slc 3,.slc 4]),some (sI i),some (sI j),some (.nest (.int .i64) k 0 [])]⟩))) := .of fun K h => by
  simp only [N2w,wpW] at h
  exact .of (by kernel_rfl) h
theorem Nwb (a : Nat) (b : Bool) (c d : List Int) (g : List (List Int)) : Link N46 LL (cq [1,1,1,1,1,1,1] (bodyOf Tryd.f7)) (aq [1,1,1,1,1,1,1] N3) ⟨mkE 98 0 [(4,.ptr 0 0),(6,.ptr 1 0),(8,.win 2 0 a),(9,dB b)],[some (.box [.nils,.nils]),some (.box [.slc 3,.slc 4]),some (sI c),some (sI d),some (.nest (.int .i64) g 0 [])]⟩ (N6d a b c d g) (fun (t : Bool × (List Int) × (List (List Int))) => (Exit.ret,⟨mkE 98 0 [(4,.ptr 0 0),(5,dB t.1)],[some (.box [.slc 1,.slc 2]),some (sI t.2.1),some (.nest (.int .i64) t.2.2 0 [])]⟩)) := .of fun K h => by
  simp only [N6d,wpW] at h
  exact .of (by kernel_rfl) h
theorem Njr (b : List Int) (d : List (List Int)) (g i j : Int) {r : AV} {H' : Heap} (h : (Ans.mk _ (N1w b d g i j) (fun (t : Bool × (List Int) × (List (List Int))) => (.tup [.agg [.slc 1,.slc 2],dB t.1],[some (.box [.slc 1,.slc 2]),some (sI t.2.1),some (.nest (.int .i64) t.2.2 0 [])])) [] none).run = some (r,H')) : Awp N46 LL (bodyOf Tryd.f7) N3 ⟨mkE 98 0 [(0,.agg [dL b,.dat (.list (.list (.int .i64))) d]),(1,.agg [dI g,dI i,dI j])],[]⟩ (Ret (tlook tys) Tryd.f7.results.toList r H') :=
  ret_of' (Link.cast (by kernel_rfl) (by kernel_rfl) (link_group (c := (cq [0,1,1,1,1,1] (bodyOf Tryd.f7))) (a := (aq [0,1,1,1,1,1] N3)) [(cq [0] (bodyOf Tryd.f7)),(cq [0,1] (bodyOf Tryd.f7)),(cq [0,1,1] (bodyOf Tryd.f7)),(cq [0,1,1,1] (bodyOf Tryd.f7)),(cq [0,1,1,1,1] (bodyOf Tryd.f7))] [(aq [0] N3),(aq [0,1] N3),(aq [0,1,1] N3),(aq [0,1,1,1] N3),(aq [0,1,1,1,1] N3)] rfl (link_seq2 (Nn0 b d g i j) (fun (t : Nat × Bool × (List Int) × (List Int) × (List (List Int))) => (link_seq (link_seq (Nje t.1 t.2.1 b d t.2.2.1 t.2.2.2.1 t.2.2.2.2) (fun (t35 : Unit) => (link_block (fin2 := (fun (t35 : Bool) => (Exit.normal,⟨mkE 98 0 [(4,.ptr 0 0),(6,.ptr 1 0),(8,.win 2 0 t.1),(9,dB t35)],[some (.box [.nils,.nils]),some (.box [.slc 3,.slc 4]),some (sI t.2.2.1),some (sI t.2.2.2.1),some (.nest (.int .i64) t.2.2.2.2 0 [])]⟩))) (id := 0) (link_loop (mk := fun (s : Bool × Int) => ⟨mkE 98 0 [(2,.ptr 0 0),(4,.ptr 1 0),(6,.ptr 2 0),(8,.win 3 0 t.1),(9,dB s.1),(10,dI s.2)],[some (.box [dL b,.dat (.list (.list (.int .i64))) d]),some (.box [.nils,.nils]),some (.box [.slc 4,.slc 5]),some (sI t.2.2.1),some (sI t.2.2.2.1),some (.nest (.int .i64) t.2.2.2.2 0 [])]⟩) (fin := (fun (t35 : Bool) => ((Exit.exit 0),⟨mkE 98 0 [(4,.ptr 0 0),(6,.ptr 1 0),(8,.win 2 0 t.1),(9,dB t35)],[some (.box [.nils,.nils]),some (.box [.slc 3,.slc 4]),some (sI t.2.2.1),some (sI t.2.2.2.1),some (.nest (.int .i64) t.2.2.2.2 0 [])]⟩))) (by
  rintro t35 f K h
  · exact h) (fun s => link_map (Nvu t.1 s.1 s.2 b d t.2.2.1 t.2.2.2.1 t.2.2.2.2) (Sum.elim (fun (t35 : Bool × Int) => Sum.inl (t35.1,t35.2)) (fun (t35 : Bool) => Sum.inr t35)) (by
  rintro (t35 | t35)
  · kernel_rfl
  · kernel_rfl)) (t.2.1,0)) (fun (t35 : Bool) => t35) (by
  rintro t35 K h
  · exact Eq.mp (by kernel_rfl) h)))) (fun (t35 : Bool) => (Nwb t.1 t35 t.2.2.1 t.2.2.2.1 t.2.2.2.2)))) (fun (t : Bool × (List Int) × (List (List Int))) => t) (by
  rintro t
  · kernel_rfl) (by
  rintro t f K h
  · exact h)))) (by unfold N1w; kernel_rfl) (by
  intro t
  exact ret_mk [.agg [.slc 1,.slc 2],dB t.1] (by kernel_rfl) (by kernel_rfl) (by kernel_rfl) (by kernel_rfl)) h
def N7u : Fun := fun avs H =>
  match avs,H with
  | [.agg [.dat (.list (.int .i64)) a,.dat (.list (.list (.int .i64))) b],.agg [.dat (.int .i64) c,.dat (.int .i64) d,.dat (.int .i64) g]],[] => ⟨_,N1w a b c d g,fun (t : Bool × (List Int) × (List (List Int))) => (.tup [.agg [.slc 1,.slc 2],dB t.1],[some (.box [.slc 1,.slc 2]),some (sI t.2.1),some (.nest (.int .i64) t.2.2 0 [])]),[],none⟩
  | _,_ => Ans.no
theorem Nhy : Sound Tryd.prog 7 N7u := by
  refine fn_sound' (C := N46) (c := bodyOf Tryd.f7) (cok_of tys_ok (allc Nd1 (allc Ni4 (allc Ntc (allc N1r alln)))) (allc Tryd.call16 (allc Tryd.call25 (allc Tryd.call26 (allc Tryd.call27 alln)))) (by kernel_rfl)) Tryd.func7 (by kernel_rfl) LL N3 ?_
  intro avs H r H' h
  unfold N7u at h
  split at h
  · refine Awp.cast ?_ ?_ ?_ (Njr _ _ _ _ _ h) <;> kernel_rfl
  · simp [Ans.no,Ans.run] at h

def N11 : Ann := (.seq (.leaf [0,1,4]) (.seq (.leaf [0,1,4,5]) (.seq (.seq (.leafF [⟨3,5,false,some 0,none⟩,⟨3,5,true,some 1,some (.int .i64)⟩] [0,1,4,5,7]) (.block (.loop (.seq (.seq (.leaf [0,1,4,5,7,19]) (.cond (.leafF [⟨0,5,false,some 0,none⟩] [0,1,4,5,7]) (.leaf [0,1,4,5]))) (.seq (.block (.seq (.draw [5,200002,300000] [0,1,2,3,4,5,6,7,8,9,10,11] [] [0,1,4,5,7,8,9]) (.seq (.leaf [0,1,4,5,7,8,31]) (.cond (.leaf [0,1,4,5,7]) (.leaf [0,1,4,5,7]))))) (.leafF [⟨3,5,false,some 0,none⟩,⟨3,5,true,some 1,some (.int .i64)⟩] [0,1,4,5,7])))))) (.seq (.seq (.leaf [0,4,5,35]) (.cond (.seq (.leaf [4,5,37]) (.block (.seq (.leaf [4,5,37,39]) (.cond (.leaf [4,5]) (.seq (.leaf [4,5,43]) (.cond (.leaf [4,5]) (.seq (.leaf [4]) (.leafF [⟨0,4,false,some 0,some (.int .i64)⟩,⟨0,4,false,some 0,none⟩,⟨0,4,true,some 1,some (.int .i64)⟩] [4])))))))) (.leaf [4,5]))) (.seq (.leaf [4]) (.leafF [⟨0,4,false,some 0,none⟩] [4]))))))
noncomputable def N3x : Ctx := ⟨tlook tys,olook [(39,N9x),(38,Nbp),(40,Nj),(20,N8h),(7,N7u),(36,N3r)],ioF,1,true,[]⟩
theorem Nqy (a : Int) (b : List Int) (c : Int) : Link N3x LL (Code.seq (cq [0] (bodyOf Tryd.f19)) (cq [0,1] (bodyOf Tryd.f19))) (Ann.seq (aq [0] N11) (aq [0,1] N11)) ⟨mkE 52 0 [(0,.ptr 0 0),(1,dI a)],[some (.box [dV b,dI c])]⟩ (N6h b c) (fun (t : Int × (List Int)) => (Exit.normal,⟨mkE 52 0 [(0,.ptr 0 0),(1,dI a),(4,.ptr 1 0),(5,.ptr 2 0)],[some (.box [dV b,dI t.1]),some (.box [.nils,.nils]),some (.box [.slc 3,.nils]),some (sI t.2)]⟩)) := .of fun K h => by
  simp only [N6h,wpW] at h
  exact .of (by kernel_rfl) h
theorem Nwx (a : Int) (b : List Int) (c : Int) (d : List Int) : Link N3x LL (cq [0,0,1,1] (bodyOf Tryd.f19)) (aq [0,0,1,1] N11) ⟨mkE 52 0 [(0,.ptr 0 0),(1,dI a),(4,.ptr 1 0),(5,.ptr 2 0)],[some (.box [dV b,dI c]),some (.box [.nils,.nils]),some (.box [.slc 3,.nils]),some (sI d)]⟩ (N6w b c) (fun (t : Int × Int) => (Exit.normal,⟨mkE 52 0 [(0,.ptr 0 0),(1,dI a),(4,.ptr 1 0),(5,.ptr 2 0),(7,dI t.1)],[some (.box [dV b,dI t.2]),some (.box [.nils,.nils]),some (.box [dL d,.slc 3]),some (.nest (.int .i64) ([] : List (List Int)) 0 [])]⟩)) := .of fun K h => by
  simp only [N6w,wpW] at h
  exact .of (by kernel_rfl) h
theorem No6 (a b : Int) (c : List Int) (d : Int) (g : List Int) (i : List (List Int)) : Link N3x LL (cq [0,0,1,0,1,1] (bodyOf Tryd.f19)) (aq [0,0,1,0,1,1] N11) ⟨mkE 52 0 [(0,.ptr 0 0),(1,dI a),(4,.ptr 1 0),(5,.ptr 2 0),(7,dI b)],[some (.box [dV c,dI d]),some (.box [.nils,.nils]),some (.box [dL g,.slc 3]),some (.nest (.int .i64) i 0 [])]⟩ (N5m b c d g i) (Sum.elim (fun (t : Int × Int × (List Int) × (List (List Int))) => (Exit.normal,⟨mkE 52 0 [(0,.ptr 0 0),(1,dI a),(4,.ptr 1 0),(5,.ptr 2 0),(7,dI t.1)],[some (.box [dV c,dI t.2.1]),some (.box [.nils,.nils]),some (.box [dL t.2.2.1,.slc 3]),some (.nest (.int .i64) t.2.2.2 0 [])]⟩)) (fun (t : Int × (List Int) × (List (List Int))) => ((Exit.exit 0),⟨mkE 52 0 [(0,.ptr 0 0),(1,dI a),(4,.ptr 1 0),(5,.ptr 2 0)],[some (.box [dV c,dI t.1]),some (.box [.nils,.nils]),some (.box [dL t.2.1,.slc 3]),some (.nest (.int .i64) t.2.2 0 [])]⟩))) := .of fun K h => by
  simp only [N5m,wpW] at h
  exact .of (by kernel_rfl) h
theorem Nsb (a : Int) (b : List Int) (c : Int) (d : List Int) (g : List (List Int)) : Link N3x LL (cq [1,1,1] (bodyOf Tryd.f19)) (aq [1,1,1] N11) ⟨mkE 52 0 [(0,.ptr 0 0),(1,dI a),(4,.ptr 1 0),(5,.ptr 2 0)],[some (.box [dV b,dI c]),some (.box [.nils,.nils]),some (.box [dL d,.slc 3]),some (.nest (.int .i64) g 0 [])]⟩ (N7b a b c d g) (fun (t : Int × (List Int) × (List (List Int))) => (Exit.ret,⟨mkE 52 0 [(4,.ptr 1 0)],[some (.box [dV b,dI t.1]),some (.box [dL t.2.1,.slc 2]),some (.nest (.int .i64) t.2.2 0 [])]⟩)) := .of fun K h => by
  simp only [N7b,wpW] at h
  exact .of (by kernel_rfl) h
theorem Nq4 (b : Int) (d : List Int) (g : Int) {r : AV} {H' : Heap} (h : (Ans.mk _ (N2a b d g) (fun (t : Int × (List Int) × (List (List Int))) => (.agg [dL t.2.1,.slc 2],[some (.box [dV d,dI t.1]),some (.box [dL t.2.1,.slc 2]),some (.nest (.int .i64) t.2.2 0 [])])) [] none).run = some (r,H')) : Awp N3x LL (bodyOf Tryd.f19) N11 ⟨mkE 52 0 [(0,.ptr 0 0),(1,dI b)],[some (.box [dV d,dI g])]⟩ (Ret (tlook tys) Tryd.f19.results.toList r H') :=
  ret_of' (Link.cast (by kernel_rfl) (by kernel_rfl) (link_group (c := (cq [0,1] (bodyOf Tryd.f19))) (a := (aq [0,1] N11)) [(cq [0] (bodyOf Tryd.f19))] [(aq [0] N11)] rfl (link_seq (Nqy b d g) (fun (t : Int × (List Int)) => (link_seq (link_seq (Nwx b d t.1 t.2) (fun (t36 : Int × Int) => (link_block (fin2 := (fun (t12 : Int × (List Int) × (List (List Int))) => (Exit.normal,⟨mkE 52 0 [(0,.ptr 0 0),(1,dI b),(4,.ptr 1 0),(5,.ptr 2 0)],[some (.box [dV d,dI t12.1]),some (.box [.nils,.nils]),some (.box [dL t12.2.1,.slc 3]),some (.nest (.int .i64) t12.2.2 0 [])]⟩))) (id := 0) (link_loop (mk := fun (s : Int × Int × (List Int) × (List (List Int))) => ⟨mkE 52 0 [(0,.ptr 0 0),(1,dI b),(4,.ptr 1 0),(5,.ptr 2 0),(7,dI s.1)],[some (.box [dV d,dI s.2.1]),some (.box [.nils,.nils]),some (.box [dL s.2.2.1,.slc 3]),some (.nest (.int .i64) s.2.2.2 0 [])]⟩) (fin := (fun (t12 : Int × (List Int) × (List (List Int))) => ((Exit.exit 0),⟨mkE 52 0 [(0,.ptr 0 0),(1,dI b),(4,.ptr 1 0),(5,.ptr 2 0)],[some (.box [dV d,dI t12.1]),some (.box [.nils,.nils]),some (.box [dL t12.2.1,.slc 3]),some (.nest (.int .i64) t12.2.2 0 [])]⟩))) (by
  rintro t12 f K h
  · exact h) (fun s => link_map (No6 b s.1 d s.2.1 s.2.2.1 s.2.2.2) (Sum.elim (fun (t12 : Int × Int × (List Int) × (List (List Int))) => Sum.inl (t12.1,t12.2.1,t12.2.2.1,t12.2.2.2)) (fun (t12 : Int × (List Int) × (List (List Int))) => Sum.inr t12)) (by
  rintro (t12 | t12)
  · kernel_rfl
  · kernel_rfl)) (t36.1,t36.2,t.2,([] : List (List Int)))) (fun (t12 : Int × (List Int) × (List (List Int))) => (t12.1,t12.2.1,t12.2.2)) (by
  rintro t12 K h
  · exact Eq.mp (by kernel_rfl) h)))) (fun (t36 : Int × (List Int) × (List (List Int))) => (Nsb b d t36.1 t36.2.1 t36.2.2))))))) (by unfold N2a; kernel_rfl) (by
  intro t
  exact ret_mk [.agg [dL t.2.1,.slc 2]] (by kernel_rfl) (by kernel_rfl) (by kernel_rfl) (by kernel_rfl)) h
def Nca : Fun := fun avs H =>
  match avs,H with
  | [.ptr 0 0,.dat (.int .i64) a],[some (.box [.dat (.list (.int .u8)) b,.dat (.int .i64) c])] => ⟨_,N2a a b c,fun (t : Int × (List Int) × (List (List Int))) => (.agg [dL t.2.1,.slc 2],[some (.box [dV b,dI t.1]),some (.box [dL t.2.1,.slc 2]),some (.nest (.int .i64) t.2.2 0 [])]),[],none⟩
  | _,_ => Ans.no
theorem No2 : Sound Tryd.prog 19 Nca := by
  refine fn_sound' (C := N3x) (c := bodyOf Tryd.f19) (cok_of tys_ok (allc Nop (allc Npu (allc N18 (allc Nhk (allc Nhy (allc N7v alln)))))) (allc Tryd.call39 (allc Tryd.call38 (allc Tryd.call40 (allc Tryd.call20 (allc Tryd.call7 (allc Tryd.call36 alln)))))) (by kernel_rfl)) Tryd.func19 (by kernel_rfl) LL N11 ?_
  intro avs H r H' h
  unfold Nca at h
  split at h
  · refine Awp.cast ?_ ?_ ?_ (Nq4 _ _ _ h) <;> kernel_rfl
  · simp [Ans.no,Ans.run] at h

def N1b : Ann := (.seq (.leaf [0]) (.seq (.leaf [0,3]) (.seq (.seq (.leaf [0,3,6,7,8]) (.block (.loop (.seq (.leaf [0,3,6,7,8,9]) (.seq (.cond (.leaf [0,3,6,7,8]) (.leaf [3])) (.seq (.block (.seq (.leaf [0,3,5,6,7,8]) (.seq (.seq (.leaf [0,3,5,6,7,8,19]) (.cond (.seq (.leaf [2]) (.leaf [2])) (.leaf [0,3,5,6,7,8]))) (.seq (.leaf [0,3,6,7,8,21]) (.cond (.leaf [0,3,6,7,8]) (.leaf [0,3,6,7,8])))))) (.leaf [0,3,6,7,8]))))))) (.seq (.leaf [2]) (.leaf [2])))))
noncomputable def N4d : Ctx := ⟨tlook tys,olook [],ioF,0,false,[]⟩
theorem Ns5 (a : List Int) : Link N4d LL (Code.seq (cq [0] (bodyOf Tryd.f49)) (cq [0,1] (bodyOf Tryd.f49))) (Ann.seq (aq [0] N1b) (aq [0,1] N1b)) ⟨mkE 27 0 [(0,dL a)],[]⟩ (N8b) (fun (t : Unit) => (Exit.normal,⟨mkE 27 0 [(0,dL a),(3,dI 0)],[]⟩)) := .of fun K h => by
  simp only [N8b,wpW] at h
  exact .of (by kernel_rfl) h
theorem Nna (a : List Int) : Link N4d LL (cq [0,0,1,1] (bodyOf Tryd.f49)) (aq [0,0,1,1] N1b) ⟨mkE 27 0 [(0,dL a),(3,dI 0)],[]⟩ (N8w a) (fun (t : Int) => (Exit.normal,⟨mkE 27 0 [(0,dL a),(3,dI 0),(6,dL a),(7,dI t),(8,dI 0)],[]⟩)) := .of fun K h => by
  simp only [N8w,wpW] at h
  exact .of (by kernel_rfl) h
theorem Nm3 (a : List Int) (b c d : Int) : Link N4d LL (cq [0,0,1,0,1,1] (bodyOf Tryd.f49)) (aq [0,0,1,0,1,1] N1b) ⟨mkE 27 0 [(0,dL a),(3,dI b),(6,dL a),(7,dI c),(8,dI d)],[]⟩ (N48 a b c d) (Sum.elim (fun (t : Int × Int) => (Exit.normal,⟨mkE 27 0 [(0,dL a),(3,dI t.1),(6,dL a),(7,dI c),(8,dI t.2)],[]⟩)) (Sum.elim (fun (t : Bool) => (Exit.ret,⟨mkE 27 0 [(2,dB t)],[]⟩)) (fun (t : Int) => ((Exit.exit 0),⟨mkE 27 0 [(3,dI t)],[]⟩)))) := .of fun K h => by
  simp only [N48,wpW] at h
  exact .of (by kernel_rfl) h
theorem Nl7 (a : Int) : Link N4d LL (cq [1,1,1] (bodyOf Tryd.f49)) (aq [1,1,1] N1b) ⟨mkE 27 0 [(3,dI a)],[]⟩ (N8s a) (fun (t : Bool) => (Exit.ret,⟨mkE 27 0 [(2,dB t)],[]⟩)) := .of fun K h => by
  simp only [N8s,wpW] at h
  exact .of (by kernel_rfl) h
theorem Nl6 (b : List Int) {r : AV} {H' : Heap} (h : (Ans.mk _ (N3e b) (fun (t : Bool) => (dB t,[])) [] none).run = some (r,H')) : Awp N4d LL (bodyOf Tryd.f49) N1b ⟨mkE 27 0 [(0,dL b)],[]⟩ (Ret (tlook tys) Tryd.f49.results.toList r H') :=
  ret_of' (Link.cast (by kernel_rfl) (by kernel_rfl) (link_group (c := (cq [0,1] (bodyOf Tryd.f49))) (a := (aq [0,1] N1b)) [(cq [0] (bodyOf Tryd.f49))] [(aq [0] N1b)] rfl (link_seq (Ns5 b) (fun (t : Unit) => (link_seq2 (link_seq (Nna b) (fun (t : Int) => (link_block (fin2 := (Sum.elim (fun (t13 : Int) => (Exit.normal,⟨mkE 27 0 [(3,dI t13)],[]⟩)) (fun (t13 : Bool) => (Exit.ret,⟨mkE 27 0 [(2,dB t13)],[]⟩)))) (id := 0) (link_loop (mk := fun (s : Int × Int) => ⟨mkE 27 0 [(0,dL b),(3,dI s.1),(6,dL b),(7,dI t),(8,dI s.2)],[]⟩) (fin := (Sum.elim (fun (t13 : Bool) => (Exit.ret,⟨mkE 27 0 [(2,dB t13)],[]⟩)) (fun (t13 : Int) => ((Exit.exit 0),⟨mkE 27 0 [(3,dI t13)],[]⟩)))) (by
  rintro (t13 | t13) f K h
  · exact h
  · exact h) (fun s => link_map (Nm3 b s.1 t s.2) (Sum.elim (fun (t13 : Int × Int) => Sum.inl (t13.1,t13.2)) (Sum.elim (fun (t13 : Bool) => Sum.inr (Sum.inl t13)) (fun (t13 : Int) => Sum.inr (Sum.inr t13)))) (by
  rintro (t13 | t13 | t13)
  · kernel_rfl
  · kernel_rfl
  · kernel_rfl)) (0,0)) (Sum.elim (fun (t13 : Bool) => (Sum.inr t13)) (fun (t13 : Int) => (Sum.inl t13))) (by
  rintro (t13 | t13) K h
  · exact Eq.mp (by kernel_rfl) h
  · exact Eq.mp (by kernel_rfl) h)))) (fun (t : Int) => (Nl7 t)) (fun (t : Bool) => t) (by
  rintro t
  · kernel_rfl) (by
  rintro t f K h
  · exact h)))))) (by unfold N3e; kernel_rfl) (by
  intro t
  exact ret_mk [dB t] (by kernel_rfl) (by kernel_rfl) (by kernel_rfl) (by kernel_rfl)) h
def N9o : Fun := fun avs H =>
  match avs,H with
  | [.dat (.list (.int .i64)) a],[] => ⟨_,N3e a,fun (t : Bool) => (dB t,[]),[],none⟩
  | _,_ => Ans.no
theorem Nrs : Sound Tryd.prog 49 N9o := by
  refine fn_sound' (C := N4d) (c := bodyOf Tryd.f49) (cok_of tys_ok (alln) (alln) (by kernel_rfl)) Tryd.func49 (by kernel_rfl) LL N1b ?_
  intro avs H r H' h
  unfold N9o at h
  split at h
  · refine Awp.cast ?_ ?_ ?_ (Nl6 _ h) <;> kernel_rfl
  · simp [Ans.no,Ans.run] at h

def Ndv : Ann := (.seq (.leaf [0]) (.seq (.draw [] [0,1,2,3,4,5,6,7,8,9,10,11] [] [0,3]) (.seq (.seq (.leaf [0,3,16]) (.cond (.seq (.leaf [2]) (.leaf [2])) (.leaf [0,3]))) (.seq (.leaf [0]) (.seq (.leaf []) (.seq (.leaf [2]) (.leaf [2])))))))
noncomputable def Nbh : Ctx := ⟨tlook tys,olook [],ioF,1,false,[]⟩
theorem Ntf (a : List Int) (b c : Int) : Link Nbh LL (bodyOf Tryd.f64) Ndv ⟨mkE 28 0 [(0,.ptr 0 0)],[some (.box [dL a,dI b,dI c])]⟩ (N82 a b c) (fun (t : Bool × Int × Int) => (Exit.ret,⟨mkE 28 0 [(2,dB t.1)],[some (.box [dL a,dI t.2.1,dI t.2.2])]⟩)) := .of fun K h => by
  simp only [N82,wpW] at h
  exact .of (by kernel_rfl) h
theorem Nkd (a : List Int) (b c : Int) {r : AV} {H' : Heap} (h : (Ans.mk _ (N2y a b c) (fun (t : Bool × Int × Int) => (dB t.1,[some (.box [dL a,dI t.2.1,dI t.2.2])])) [] none).run = some (r,H')) : Awp Nbh LL (bodyOf Tryd.f64) Ndv ⟨mkE 28 0 [(0,.ptr 0 0)],[some (.box [dL a,dI b,dI c])]⟩ (Ret (tlook tys) Tryd.f64.results.toList r H') :=
  ret_of' (Ntf a b c) (by unfold N2y; kernel_rfl) (by
  intro t
  exact ret_mk [dB t.1] (by kernel_rfl) (by kernel_rfl) (by kernel_rfl) (by kernel_rfl)) h
def N7i : Fun := fun avs H =>
  match avs,H with
  | [.ptr 0 0],[some (.box [.dat (.list (.int .i64)) a,.dat (.int .i64) b,.dat (.int .i64) c])] => ⟨_,N2y a b c,fun (t : Bool × Int × Int) => (dB t.1,[some (.box [dL a,dI t.2.1,dI t.2.2])]),[],none⟩
  | _,_ => Ans.no
theorem Neu : Sound Tryd.prog 64 N7i := by
  refine fn_sound' (C := Nbh) (c := bodyOf Tryd.f64) (cok_of tys_ok (alln) (alln) (by kernel_rfl)) Tryd.func64 (by kernel_rfl) LL Ndv ?_
  intro avs H r H' h
  unfold N7i at h
  split at h
  · refine Awp.cast ?_ ?_ ?_ (Nkd _ _ _ h) <;> kernel_rfl
  · simp [Ans.no,Ans.run] at h

def N1s : Ann := (.seq (.leaf [0,1]) (.seq (.leaf [0,6]) (.seq (.block (.loop (.seq (.seq (.leaf [0,6,10]) (.cond (.leaf [0,6]) (.leaf [6]))) (.block (.seq (.leaf [0,6,15]) (.cond (.seq (.leaf [4,5]) (.leaf [4,5])) (.leaf [0,6]))))))) (.seq (.leaf [4,5]) (.leaf [4,5])))))
noncomputable def N5i : Ctx := ⟨tlook tys,olook [(64,N7i)],ioF,0,false,[]⟩
theorem Np8 (a : List Int) (b : Int) : Link N5i LL (Code.seq (cq [0] (bodyOf Tryd.f50)) (cq [0,1] (bodyOf Tryd.f50))) (Ann.seq (aq [0] N1s) (aq [0,1] N1s)) ⟨mkE 18 0 [(0,dL a),(1,dI b)],[]⟩ (N5w) (fun (t : Unit) => (Exit.normal,⟨mkE 18 0 [(0,dL a),(6,.ptr 0 0)],[some (.box [dL a,dI b,dI 0])]⟩)) := .of fun K h => by
  simp only [N5w,wpW] at h
  exact .of (by kernel_rfl) h
theorem Nv7 (a : List Int) (b c : Int) : Link N5i LL (cq [0,0,0,1,1] (bodyOf Tryd.f50)) (aq [0,0,0,1,1] N1s) ⟨mkE 18 0 [(0,dL a),(6,.ptr 0 0)],[some (.box [dL a,dI b,dI c])]⟩ (N4w a b c) (Sum.elim (fun (t : Int × Int) => (Exit.normal,⟨mkE 18 0 [(0,dL a),(6,.ptr 0 0)],[some (.box [dL a,dI t.1,dI t.2])]⟩)) (Sum.elim (fun (t : Int × Bool) => (Exit.ret,⟨mkE 18 0 [(4,dI t.1),(5,dB t.2)],[]⟩)) (fun (t : Int × Int) => ((Exit.exit 0),⟨mkE 18 0 [(6,.ptr 0 0)],[some (.box [dL a,dI t.1,dI t.2])]⟩)))) := .of fun K h => by
  simp only [N4w,wpW] at h
  exact .of (by kernel_rfl) h
theorem Np3 (a : List Int) (b c : Int) : Link N5i LL (cq [1,1,1] (bodyOf Tryd.f50)) (aq [1,1,1] N1s) ⟨mkE 18 0 [(6,.ptr 0 0)],[some (.box [dL a,dI b,dI c])]⟩ (N6k c) (fun (t : Int × Bool) => (Exit.ret,⟨mkE 18 0 [(4,dI t.1),(5,dB t.2)],[]⟩)) := .of fun K h => by
  simp only [N6k,wpW] at h
  exact .of (by kernel_rfl) h
theorem Nvq (b : List Int) (d : Int) {r : AV} {H' : Heap} (h : (Ans.mk _ (N3p b d) (fun (t : Int × Bool) => (.tup [dI t.1,dB t.2],[])) [] none).run = some (r,H')) : Awp N5i LL (bodyOf Tryd.f50) N1s ⟨mkE 18 0 [(0,dL b),(1,dI d)],[]⟩ (Ret (tlook tys) Tryd.f50.results.toList r H') :=
  ret_of' (Link.cast (by kernel_rfl) (by kernel_rfl) (link_group (c := (cq [0,1] (bodyOf Tryd.f50))) (a := (aq [0,1] N1s)) [(cq [0] (bodyOf Tryd.f50))] [(aq [0] N1s)] rfl (link_seq (Np8 b d) (fun (t : Unit) => (link_seq2 (link_block (fin2 := (Sum.elim (fun (t : Int × Int) => (Exit.normal,⟨mkE 18 0 [(6,.ptr 0 0)],[some (.box [dL b,dI t.1,dI t.2])]⟩)) (fun (t : Int × Bool) => (Exit.ret,⟨mkE 18 0 [(4,dI t.1),(5,dB t.2)],[]⟩)))) (id := 0) (link_loop (mk := fun (s : Int × Int) => ⟨mkE 18 0 [(0,dL b),(6,.ptr 0 0)],[some (.box [dL b,dI s.1,dI s.2])]⟩) (fin := (Sum.elim (fun (t : Int × Bool) => (Exit.ret,⟨mkE 18 0 [(4,dI t.1),(5,dB t.2)],[]⟩)) (fun (t : Int × Int) => ((Exit.exit 0),⟨mkE 18 0 [(6,.ptr 0 0)],[some (.box [dL b,dI t.1,dI t.2])]⟩)))) (by
  rintro (t | t) f K h
  · exact h
  · exact h) (fun s => link_map (Nv7 b s.1 s.2) (Sum.elim (fun (t : Int × Int) => Sum.inl (t.1,t.2)) (Sum.elim (fun (t : Int × Bool) => Sum.inr (Sum.inl t)) (fun (t : Int × Int) => Sum.inr (Sum.inr t)))) (by
  rintro (t | t | t)
  · kernel_rfl
  · kernel_rfl
  · kernel_rfl)) (d,0)) (Sum.elim (fun (t : Int × Bool) => (Sum.inr t)) (fun (t : Int × Int) => (Sum.inl (t.1,t.2)))) (by
  rintro (t | t) K h
  · exact Eq.mp (by kernel_rfl) h
  · exact Eq.mp (by kernel_rfl) h)) (fun (t : Int × Int) => (Np3 b t.1 t.2)) (fun (t : Int × Bool) => t) (by
  rintro t
  · kernel_rfl) (by
  rintro t f K h
  · exact h)))))) (by unfold N3p; kernel_rfl) (by
  intro t
  exact ret_mk [dI t.1,dB t.2] (by kernel_rfl) (by kernel_rfl) (by kernel_rfl) (by kernel_rfl)) h
def Nc5 : Fun := fun avs H =>
  match avs,H with
  | [.dat (.list (.int .i64)) a,.dat (.int .i64) b],[] => ⟨_,N3p a b,fun (t : Int × Bool) => (.tup [dI t.1,dB t.2],[]),[],none⟩
  | _,_ => Ans.no
theorem Nkm : Sound Tryd.prog 50 Nc5 := by
  refine fn_sound' (C := N5i) (c := bodyOf Tryd.f50) (cok_of tys_ok (allc Neu alln) (allc Tryd.call64 alln) (by kernel_rfl)) Tryd.func50 (by kernel_rfl) LL N1s ?_
  intro avs H r H' h
  unfold Nc5 at h
  split at h
  · refine Awp.cast ?_ ?_ ?_ (Nvq _ _ h) <;> kernel_rfl
  · simp [Ans.no,Ans.run] at h

def N1i : Ann := (.seq (.leaf [0]) (.seq (.seq (.leaf [0,18]) (.cond (.seq (.leaf [2]) (.leaf [2])) (.leaf [0]))) (.seq (.seq (.leaf [0,20,21]) (.block (.loop (.seq (.leaf [0,20,21,22]) (.seq (.cond (.leaf [0,20,21]) (.leaf [])) (.seq (.block (.seq (.leaf [0,3,20,21]) (.seq (.leaf [0,5,20,21]) (.seq (.leaf [0,20,21,32]) (.cond (.seq (.leaf [2]) (.leaf [2])) (.leaf [0,20,21])))))) (.leaf [0,20,21]))))))) (.seq (.leaf [2]) (.leaf [2])))))
noncomputable def N3u : Ctx := ⟨tlook tys,olook [(49,N9o),(50,Nc5)],ioF,0,false,[]⟩
theorem Nkr (a : List Int) : Link N3u LL (Code.seq (cq [0] (bodyOf Tryd.f30)) (cq [0,1] (bodyOf Tryd.f30))) (Ann.seq (aq [0] N1i) (aq [0,1] N1i)) ⟨mkE 34 0 [(0,dL a)],[]⟩ (N65 a) (Sum.elim (fun (t : Unit) => (Exit.normal,⟨mkE 34 0 [(0,dL a)],[]⟩)) (fun (t : Bool) => (Exit.ret,⟨mkE 34 0 [(2,dB t)],[]⟩))) := .of fun K h => by
  simp only [N65,wpW] at h
  exact .of (by kernel_rfl) h
theorem Ntr (a : List Int) : Link N3u LL (cq [0,0,1,1] (bodyOf Tryd.f30)) (aq [0,0,1,1] N1i) ⟨mkE 34 0 [(0,dL a)],[]⟩ (N98 a) (fun (t : Int) => (Exit.normal,⟨mkE 34 0 [(0,dL a),(20,dI t),(21,dI 0)],[]⟩)) := .of fun K h => by
  simp only [N98,wpW] at h
  exact .of (by kernel_rfl) h
theorem Ntv (a : List Int) (b c : Int) : Link N3u LL (cq [0,0,1,0,1,1] (bodyOf Tryd.f30)) (aq [0,0,1,0,1,1] N1i) ⟨mkE 34 0 [(0,dL a),(20,dI b),(21,dI c)],[]⟩ (N3a a b c) (Sum.elim (fun (t : Int) => (Exit.normal,⟨mkE 34 0 [(0,dL a),(20,dI b),(21,dI t)],[]⟩)) (Sum.elim (fun (t : Bool) => (Exit.ret,⟨mkE 34 0 [(2,dB t)],[]⟩)) (fun (t : Unit) => ((Exit.exit 0),⟨mkE 34 0 [],[]⟩)))) := .of fun K h => by
  simp only [N3a,wpW] at h
  exact .of (by kernel_rfl) h
theorem Nnb : Link N3u LL (cq [1,1,1] (bodyOf Tryd.f30)) (aq [1,1,1] N1i) ⟨mkE 34 0 [],[]⟩ (Nco) (fun (t : Bool) => (Exit.ret,⟨mkE 34 0 [(2,dB t)],[]⟩)) := .of fun K h => by
  simp only [Nco,wpW] at h
  exact .of (by kernel_rfl) h
theorem Nm4 (b : List Int) {r : AV} {H' : Heap} (h : (Ans.mk _ (N5 b) (fun (t : Bool) => (dB t,[])) [] none).run = some (r,H')) : Awp N3u LL (bodyOf Tryd.f30) N1i ⟨mkE 34 0 [(0,dL b)],[]⟩ (Ret (tlook tys) Tryd.f30.results.toList r H') :=
  ret_of' (Link.cast (by kernel_rfl) (by kernel_rfl) (link_group (c := (cq [0,1] (bodyOf Tryd.f30))) (a := (aq [0,1] N1i)) [(cq [0] (bodyOf Tryd.f30))] [(aq [0] N1i)] rfl (link_seq2 (Nkr b) (fun (t : Unit) => (link_seq2 (link_seq (Ntr b) (fun (t : Int) => (link_block (fin2 := (Sum.elim (fun (t14 : Unit) => (Exit.normal,⟨mkE 34 0 [],[]⟩)) (fun (t14 : Bool) => (Exit.ret,⟨mkE 34 0 [(2,dB t14)],[]⟩)))) (id := 0) (link_loop (mk := fun (s : Int) => ⟨mkE 34 0 [(0,dL b),(20,dI t),(21,dI s)],[]⟩) (fin := (Sum.elim (fun (t14 : Bool) => (Exit.ret,⟨mkE 34 0 [(2,dB t14)],[]⟩)) (fun (t14 : Unit) => ((Exit.exit 0),⟨mkE 34 0 [],[]⟩)))) (by
  rintro (t14 | t14) f K h
  · exact h
  · exact h) (fun s => link_map (Ntv b t s) (Sum.elim (fun (t14 : Int) => Sum.inl t14) (Sum.elim (fun (t14 : Bool) => Sum.inr (Sum.inl t14)) (fun (t14 : Unit) => Sum.inr (Sum.inr t14)))) (by
  rintro (t14 | t14 | t14)
  · kernel_rfl
  · kernel_rfl
  · kernel_rfl)) 0) (Sum.elim (fun (t14 : Bool) => (Sum.inr t14)) (fun (t14 : Unit) => (Sum.inl ()))) (by
  rintro (t14 | t14) K h
  · exact Eq.mp (by kernel_rfl) h
  · exact Eq.mp (by kernel_rfl) h)))) (fun (t : Unit) => (Nnb)) (fun (t : Bool) => t) (by
  rintro t
  · kernel_rfl) (by
  rintro t f K h
  · exact h))) (fun (t : Bool) => t) (by
  rintro t
  · kernel_rfl) (by
  rintro t f K h
  · exact h)))) (by unfold N5; kernel_rfl) (by
  intro t
  exact ret_mk [dB t] (by kernel_rfl) (by kernel_rfl) (by kernel_rfl) (by kernel_rfl)) h
def Nt : Fun := fun avs H =>
  match avs,H with
  | [.dat (.list (.int .i64)) a],[] => ⟨_,N5 a,fun (t : Bool) => (dB t,[]),[],none⟩
  | _,_ => Ans.no
theorem N1y : Sound Tryd.prog 30 Nt := by
  refine fn_sound' (C := N3u) (c := bodyOf Tryd.f30) (cok_of tys_ok (allc Nrs (allc Nkm alln)) (allc Tryd.call49 (allc Tryd.call50 alln)) (by kernel_rfl)) Tryd.func30 (by kernel_rfl) LL N1i ?_
  intro avs H r H' h
  unfold Nt at h
  split at h
  · refine Awp.cast ?_ ?_ ?_ (Nm4 _ h) <;> kernel_rfl
  · simp [Ans.no,Ans.run] at h

def N1g : Ann := (.seq (.leaf [1]) (.seq (.seq (.leaf [1,14]) (.cond (.seq (.leaf [2]) (.leaf [2])) (.leaf [1]))) (.seq (.seq (.leaf [16,17,18]) (.block (.loop (.seq (.leaf [16,17,18,19]) (.seq (.cond (.leaf [16,17,18]) (.leaf [])) (.seq (.block (.seq (.leaf [4,16,17,18]) (.seq (.leaf [16,17,18,24]) (.cond (.seq (.leaf [2]) (.leaf [2])) (.leaf [16,17,18]))))) (.leaf [16,17,18]))))))) (.seq (.leaf [2]) (.leaf [2])))))
noncomputable def N35 : Ctx := ⟨tlook tys,olook [(30,Nt)],ioF,0,false,[]⟩
theorem Njx (a : List Int) (b : List (List Int)) : Link N35 LL (Code.seq (cq [0] (bodyOf Tryd.f9)) (cq [0,1] (bodyOf Tryd.f9))) (Ann.seq (aq [0] N1g) (aq [0,1] N1g)) ⟨mkE 26 0 [(0,.agg [dL a,.dat (.list (.list (.int .i64))) b])],[]⟩ (N95 a b) (Sum.elim (fun (t : Unit) => (Exit.normal,⟨mkE 26 0 [(1,.ptr 0 0)],[some (.box [dL a,.dat (.list (.list (.int .i64))) b])]⟩)) (fun (t : Bool) => (Exit.ret,⟨mkE 26 0 [(2,dB t)],[]⟩))) := .of fun K h => by
  simp only [N95,wpW] at h
  exact .of (by kernel_rfl) h
theorem Nrh (a : List Int) (b : List (List Int)) : Link N35 LL (cq [0,0,1,1] (bodyOf Tryd.f9)) (aq [0,0,1,1] N1g) ⟨mkE 26 0 [(1,.ptr 0 0)],[some (.box [dL a,.dat (.list (.list (.int .i64))) b])]⟩ (N8o b) (fun (t : Int) => (Exit.normal,⟨mkE 26 0 [(16,.dat (.list (.list (.int .i64))) b),(17,dI t),(18,dI 0)],[]⟩)) := .of fun K h => by
  simp only [N8o,wpW] at h
  exact .of (by kernel_rfl) h
theorem Nk9 (a : List (List Int)) (b c : Int) : Link N35 LL (cq [0,0,1,0,1,1] (bodyOf Tryd.f9)) (aq [0,0,1,0,1,1] N1g) ⟨mkE 26 0 [(16,.dat (.list (.list (.int .i64))) a),(17,dI b),(18,dI c)],[]⟩ (N2k a b c) (Sum.elim (fun (t : Int) => (Exit.normal,⟨mkE 26 0 [(16,.dat (.list (.list (.int .i64))) a),(17,dI b),(18,dI t)],[]⟩)) (Sum.elim (fun (t : Bool) => (Exit.ret,⟨mkE 26 0 [(2,dB t)],[]⟩)) (fun (t : Unit) => ((Exit.exit 0),⟨mkE 26 0 [],[]⟩)))) := .of fun K h => by
  simp only [N2k,wpW] at h
  exact .of (by kernel_rfl) h
theorem Nms : Link N35 LL (cq [1,1,1] (bodyOf Tryd.f9)) (aq [1,1,1] N1g) ⟨mkE 26 0 [],[]⟩ (Nd0) (fun (t : Bool) => (Exit.ret,⟨mkE 26 0 [(2,dB t)],[]⟩)) := .of fun K h => by
  simp only [Nd0,wpW] at h
  exact .of (by kernel_rfl) h
theorem Nqv (b : List Int) (d : List (List Int)) {r : AV} {H' : Heap} (h : (Ans.mk _ (Nq b d) (fun (t : Bool) => (dB t,[])) [] none).run = some (r,H')) : Awp N35 LL (bodyOf Tryd.f9) N1g ⟨mkE 26 0 [(0,.agg [dL b,.dat (.list (.list (.int .i64))) d])],[]⟩ (Ret (tlook tys) Tryd.f9.results.toList r H') :=
  ret_of' (Link.cast (by kernel_rfl) (by kernel_rfl) (link_group (c := (cq [0,1] (bodyOf Tryd.f9))) (a := (aq [0,1] N1g)) [(cq [0] (bodyOf Tryd.f9))] [(aq [0] N1g)] rfl (link_seq2 (Njx b d) (fun (t : Unit) => (link_seq2 (link_seq (Nrh b d) (fun (t : Int) => (link_block (fin2 := (Sum.elim (fun (t15 : Unit) => (Exit.normal,⟨mkE 26 0 [],[]⟩)) (fun (t15 : Bool) => (Exit.ret,⟨mkE 26 0 [(2,dB t15)],[]⟩)))) (id := 0) (link_loop (mk := fun (s : Int) => ⟨mkE 26 0 [(16,.dat (.list (.list (.int .i64))) d),(17,dI t),(18,dI s)],[]⟩) (fin := (Sum.elim (fun (t15 : Bool) => (Exit.ret,⟨mkE 26 0 [(2,dB t15)],[]⟩)) (fun (t15 : Unit) => ((Exit.exit 0),⟨mkE 26 0 [],[]⟩)))) (by
  rintro (t15 | t15) f K h
  · exact h
  · exact h) (fun s => link_map (Nk9 d t s) (Sum.elim (fun (t15 : Int) => Sum.inl t15) (Sum.elim (fun (t15 : Bool) => Sum.inr (Sum.inl t15)) (fun (t15 : Unit) => Sum.inr (Sum.inr t15)))) (by
  rintro (t15 | t15 | t15)
  · kernel_rfl
  · kernel_rfl
  · kernel_rfl)) 0) (Sum.elim (fun (t15 : Bool) => (Sum.inr t15)) (fun (t15 : Unit) => (Sum.inl ()))) (by
  rintro (t15 | t15) K h
  · exact Eq.mp (by kernel_rfl) h
  · exact Eq.mp (by kernel_rfl) h)))) (fun (t : Unit) => (Nms)) (fun (t : Bool) => t) (by
  rintro t
  · kernel_rfl) (by
  rintro t f K h
  · exact h))) (fun (t : Bool) => t) (by
  rintro t
  · kernel_rfl) (by
  rintro t f K h
  · exact h)))) (by unfold Nq; kernel_rfl) (by
  intro t
  exact ret_mk [dB t] (by kernel_rfl) (by kernel_rfl) (by kernel_rfl) (by kernel_rfl)) h
def N4s : Fun := fun avs H =>
  match avs,H with
  | [.agg [.dat (.list (.int .i64)) a,.dat (.list (.list (.int .i64))) b]],[] => ⟨_,Nq a b,fun (t : Bool) => (dB t,[]),[],none⟩
  | _,_ => Ans.no
theorem N9n : Sound Tryd.prog 9 N4s := by
  refine fn_sound' (C := N35) (c := bodyOf Tryd.f9) (cok_of tys_ok (allc N1y alln) (allc Tryd.call30 alln) (by kernel_rfl)) Tryd.func9 (by kernel_rfl) LL N1g ?_
  intro avs H r H' h
  unfold N4s at h
  split at h
  · refine Awp.cast ?_ ?_ ?_ (Nqv _ _ h) <;> kernel_rfl
  · simp [Ans.no,Ans.run] at h

def N9l : Ann := (.seq (.leaf [0]) (.seq (.seq (.leaf [3]) (.block (.seq (.leaf [3,4]) (.cond (.seq (.leaf [2]) (.leaf [2])) (.seq (.leaf [6]) (.cond (.seq (.leaf [2]) (.leaf [2])) (.leaf []))))))) (.seq (.leaf [2]) (.leaf [2]))))
noncomputable def Nau : Ctx := ⟨tlook tys,olook [],ioF,0,false,[]⟩
theorem Nrn (a : Int) : Link Nau LL (bodyOf Tryd.f41) N9l ⟨mkE 8 0 [(0,dI a)],[]⟩ (N6j a) (fun (t : Int) => (Exit.ret,⟨mkE 8 0 [(2,dI t)],[]⟩)) := .of fun K h => by
  simp only [N6j,wpW] at h
  exact .of (by kernel_rfl) h
theorem Nrw (a : Int) {r : AV} {H' : Heap} (h : (Ans.mk _ (N5p a) (fun (t : Int) => (dI t,[])) [] none).run = some (r,H')) : Awp Nau LL (bodyOf Tryd.f41) N9l ⟨mkE 8 0 [(0,dI a)],[]⟩ (Ret (tlook tys) Tryd.f41.results.toList r H') :=
  ret_of' (Nrn a) (by unfold N5p; kernel_rfl) (by
  intro t
  exact ret_mk [dI t] (by kernel_rfl) (by kernel_rfl) (by kernel_rfl) (by kernel_rfl)) h
def Ndq : Fun := fun avs H =>
  match avs,H with
  | [.dat (.int .i64) a],[] => ⟨_,N5p a,fun (t : Int) => (dI t,[]),[],none⟩
  | _,_ => Ans.no
theorem Nn1 : Sound Tryd.prog 41 Ndq := by
  refine fn_sound' (C := Nau) (c := bodyOf Tryd.f41) (cok_of tys_ok (alln) (alln) (by kernel_rfl)) Tryd.func41 (by kernel_rfl) LL N9l ?_
  intro avs H r H' h
  unfold Ndq at h
  split at h
  · refine Awp.cast ?_ ?_ ?_ (Nrw _ h) <;> kernel_rfl
  · simp [Ans.no,Ans.run] at h

def Nb5 : Ann := (.seq (.leaf [1]) (.seq (.leaf [1,3]) (.seq (.leaf [2]) (.leaf [2]))))
noncomputable def Na4 : Ctx := ⟨tlook tys,olook [(41,Ndq)],ioF,0,false,[]⟩
theorem Nj8 (a b c : Int) : Link Na4 LL (bodyOf Tryd.f21) Nb5 ⟨mkE 23 0 [(0,.agg [dI a,dI b,dI c])],[]⟩ (N7o a b c) (fun (t : Bool) => (Exit.ret,⟨mkE 23 0 [(2,dB t)],[]⟩)) := .of fun K h => by
  simp only [N7o,wpW] at h
  exact .of (by kernel_rfl) h
theorem Nwu (a b c : Int) {r : AV} {H' : Heap} (h : (Ans.mk _ (N39 a b c) (fun (t : Bool) => (dB t,[])) [] none).run = some (r,H')) : Awp Na4 LL (bodyOf Tryd.f21) Nb5 ⟨mkE 23 0 [(0,.agg [dI a,dI b,dI c])],[]⟩ (Ret (tlook tys) Tryd.f21.results.toList r H') :=
  ret_of' (Nj8 a b c) (by unfold N39; kernel_rfl) (by
  intro t
  exact ret_mk [dB t] (by kernel_rfl) (by kernel_rfl) (by kernel_rfl) (by kernel_rfl)) h
def Ncf : Fun := fun avs H =>
  match avs,H with
  | [.agg [.dat (.int .i64) a,.dat (.int .i64) b,.dat (.int .i64) c]],[] => ⟨_,N39 a b c,fun (t : Bool) => (dB t,[]),[],none⟩
  | _,_ => Ans.no
theorem Nrr : Sound Tryd.prog 21 Ncf := by
  refine fn_sound' (C := Na4) (c := bodyOf Tryd.f21) (cok_of tys_ok (allc Nn1 alln) (allc Tryd.call41 alln) (by kernel_rfl)) Tryd.func21 (by kernel_rfl) LL Nb5 ?_
  intro avs H r H' h
  unfold Ncf at h
  split at h
  · refine Awp.cast ?_ ?_ ?_ (Nwu _ _ _ h) <;> kernel_rfl
  · simp [Ans.no,Ans.run] at h

def ren_slices_Clone_int_int : Go.Shelf.Ren := ⟨fun | 41 => 42 | n => n,fun | 4 => 4 | 22 => 23 | 23 => 3 | n => n,fun n => n⟩
theorem lay_slices_Clone_int_int : SlLaysE0.n41 Tryd.prog ren_slices_Clone_int_int := {
  mixed := by kernel_rfl
  f41 := ⟨Tryd.f42.name,by kernel_rfl,Tryd.func42.trans (congrArg some (by kernel_rfl))⟩
  t4 := Tryd.underlying4
  a4 := Tryd.isAgg4
  z4 := Tryd.sizeOf4
  v4 := Tryd.zeroValue4
  t22 := Tryd.underlying23
  a22 := Tryd.isAgg23
  z22 := Tryd.sizeOf23
  v22 := Tryd.zeroValue23 }
def N9y : Fun := F_cloneD
theorem Nhr : Sound Tryd.prog 42 N9y := cloneD_sound lay_slices_Clone_int_int (infoOf (Tryd.prog.info? 3)) (.int .i64 0) 8 (by kernel_rfl) (by kernel_rfl) (by kernel_rfl) (by kernel_rfl) (by kernel_rfl) (by decide) Tryd.sizeOf3

def N10 : Ann := (.seq (.leaf [0,1,4]) (.seq (.leaf [1,4,5]) (.seq (.seq (.leafF [⟨3,5,true,some 1,some (.int .i64)⟩] [4,5,11,12,13]) (.block (.loop (.seq (.leaf [4,5,11,12,13,14]) (.seq (.cond (.leaf [4,5,11,12,13]) (.leaf [4,5])) (.seq (.block (.seq (.leaf [4,5,7,11,12,13]) (.draw [3,100005] [0,1,2,3,4,5,6,7] [] [4,5,11,12,13]))) (.leaf [4,5,11,12,13]))))))) (.seq (.leaf [4]) (.leaf [4])))))
noncomputable def N34 : Ctx := ⟨tlook tys,olook [(42,N9y)],ioF,0,true,[]⟩
theorem Nps (a : List Int) (b : List (List Int)) : Link N34 LL (Code.seq (cq [0] (bodyOf Tryd.f22)) (cq [0,1] (bodyOf Tryd.f22))) (Ann.seq (aq [0] N10) (aq [0,1] N10)) ⟨mkE 26 0 [(0,dL a),(1,.dat (.list (.list (.int .i64))) b)],[]⟩ (N7a a) (fun (t : (List Int)) => (Exit.normal,⟨mkE 26 0 [(1,.dat (.list (.list (.int .i64))) b),(4,.ptr 0 0),(5,.ptr 1 0)],[some (.box [.nils,.nils]),some (.box [.slc 2,.nils]),some (sI t)]⟩)) := .of fun K h => by
  simp only [N7a,wpW] at h
  exact .of (by kernel_rfl) h
theorem Nlk (a : List (List Int)) (b : List Int) : Link N34 LL (cq [0,0,1,1] (bodyOf Tryd.f22)) (aq [0,0,1,1] N10) ⟨mkE 26 0 [(1,.dat (.list (.list (.int .i64))) a),(4,.ptr 0 0),(5,.ptr 1 0)],[some (.box [.nils,.nils]),some (.box [.slc 2,.nils]),some (sI b)]⟩ (N6l a) (fun (t : Int) => (Exit.normal,⟨mkE 26 0 [(4,.ptr 0 0),(5,.ptr 1 0),(11,.dat (.list (.list (.int .i64))) a),(12,dI t),(13,dI 0)],[some (.box [.nils,.nils]),some (.box [.slc 2,.slc 3]),some (sI b),some (.nest (.int .i64) ([] : List (List Int)) 0 [])]⟩)) := .of fun K h => by
  simp only [N6l,wpW] at h
  exact .of (by kernel_rfl) h
theorem Nwz (a : List (List Int)) (b c : Int) (d : List Int) (g : List (List Int)) : Link N34 LL (cq [0,0,1,0,1,1] (bodyOf Tryd.f22)) (aq [0,0,1,0,1,1] N10) ⟨mkE 26 0 [(4,.ptr 0 0),(5,.ptr 1 0),(11,.dat (.list (.list (.int .i64))) a),(12,dI b),(13,dI c)],[some (.box [.nils,.nils]),some (.box [.slc 2,.slc 3]),some (sI d),some (.nest (.int .i64) g 0 [])]⟩ (N3m a b c g) (Sum.elim (fun (t : Int × (List (List Int))) => (Exit.normal,⟨mkE 26 0 [(4,.ptr 0 0),(5,.ptr 1 0),(11,.dat (.list (.list (.int .i64))) a),(12,dI b),(13,dI t.1)],[some (.box [.nils,.nils]),some (.box [.slc 2,.slc 3]),some (sI d),some (.nest (.int .i64) t.2 0 [])]⟩)) (fun (t : (List (List Int))) => ((Exit.exit 0),⟨mkE 26 0 [(4,.ptr 0 0),(5,.ptr 1 0)],[some (.box [.nils,.nils]),some (.box [.slc 2,.slc 3]),some (sI d),some (.nest (.int .i64) t 0 [])]⟩))) := .of fun K h => by
  simp only [N3m,wpW] at h
  exact .of (by kernel_rfl) h
theorem Nta (a : List Int) (b : List (List Int)) : Link N34 LL (cq [1,1,1] (bodyOf Tryd.f22)) (aq [1,1,1] N10) ⟨mkE 26 0 [(4,.ptr 0 0),(5,.ptr 1 0)],[some (.box [.nils,.nils]),some (.box [.slc 2,.slc 3]),some (sI a),some (.nest (.int .i64) b 0 [])]⟩ (N6r a b) (fun (t : (List Int) × (List (List Int))) => (Exit.ret,⟨mkE 26 0 [(4,.ptr 0 0)],[some (.box [.slc 1,.slc 2]),some (sI t.1),some (.nest (.int .i64) t.2 0 [])]⟩)) := .of fun K h => by
  simp only [N6r,wpW] at h
  exact .of (by kernel_rfl) h
theorem Np4 (b : List Int) (d : List (List Int)) {r : AV} {H' : Heap} (h : (Ans.mk _ (Na b d) (fun (t : (List Int) × (List (List Int))) => (.agg [.slc 1,.slc 2],[some (.box [.slc 1,.slc 2]),some (sI t.1),some (.nest (.int .i64) t.2 0 [])])) [] none).run = some (r,H')) : Awp N34 LL (bodyOf Tryd.f22) N10 ⟨mkE 26 0 [(0,dL b),(1,.dat (.list (.list (.int .i64))) d)],[]⟩ (Ret (tlook tys) Tryd.f22.results.toList r H') :=
  ret_of' (Link.cast (by kernel_rfl) (by kernel_rfl) (link_group (c := (cq [0,1] (bodyOf Tryd.f22))) (a := (aq [0,1] N10)) [(cq [0] (bodyOf Tryd.f22))] [(aq [0] N10)] rfl (link_seq (Nps b d) (fun (t : (List Int)) => (link_seq (link_seq (Nlk d t) (fun (t37 : Int) => (link_block (fin2 := (fun (t16 : (List (List Int))) => (Exit.normal,⟨mkE 26 0 [(4,.ptr 0 0),(5,.ptr 1 0)],[some (.box [.nils,.nils]),some (.box [.slc 2,.slc 3]),some (sI t),some (.nest (.int .i64) t16 0 [])]⟩))) (id := 0) (link_loop (mk := fun (s : Int × (List (List Int))) => ⟨mkE 26 0 [(4,.ptr 0 0),(5,.ptr 1 0),(11,.dat (.list (.list (.int .i64))) d),(12,dI t37),(13,dI s.1)],[some (.box [.nils,.nils]),some (.box [.slc 2,.slc 3]),some (sI t),some (.nest (.int .i64) s.2 0 [])]⟩) (fin := (fun (t16 : (List (List Int))) => ((Exit.exit 0),⟨mkE 26 0 [(4,.ptr 0 0),(5,.ptr 1 0)],[some (.box [.nils,.nils]),some (.box [.slc 2,.slc 3]),some (sI t),some (.nest (.int .i64) t16 0 [])]⟩))) (by
  rintro t16 f K h
  · exact h) (fun s => link_map (Nwz d t37 s.1 t s.2) (Sum.elim (fun (t16 : Int × (List (List Int))) => Sum.inl (t16.1,t16.2)) (fun (t16 : (List (List Int))) => Sum.inr t16)) (by
  rintro (t16 | t16)
  · kernel_rfl
  · kernel_rfl)) (0,([] : List (List Int)))) (fun (t16 : (List (List Int))) => t16) (by
  rintro t16 K h
  · exact Eq.mp (by kernel_rfl) h)))) (fun (t37 : (List (List Int))) => (Nta t t37))))))) (by unfold Na; kernel_rfl) (by
  intro t
  exact ret_mk [.agg [.slc 1,.slc 2]] (by kernel_rfl) (by kernel_rfl) (by kernel_rfl) (by kernel_rfl)) h
def N49 : Fun := fun avs H =>
  match avs,H with
  | [.dat (.list (.int .i64)) a,.dat (.list (.list (.int .i64))) b],[] => ⟨_,Na a b,fun (t : (List Int) × (List (List Int))) => (.agg [.slc 1,.slc 2],[some (.box [.slc 1,.slc 2]),some (sI t.1),some (.nest (.int .i64) t.2 0 [])]),[],none⟩
  | _,_ => Ans.no
theorem N63 : Sound Tryd.prog 22 N49 := by
  refine fn_sound' (C := N34) (c := bodyOf Tryd.f22) (cok_of tys_ok (allc Nhr alln) (allc Tryd.call42 alln) (by kernel_rfl)) Tryd.func22 (by kernel_rfl) LL N10 ?_
  intro avs H r H' h
  unfold N49 at h
  split at h
  · refine Awp.cast ?_ ?_ ?_ (Np4 _ _ h) <;> kernel_rfl
  · simp [Ans.no,Ans.run] at h

def Na8 : Ann := (.seq (.leaf [1,2]) (.seq (.leaf [1,2,4]) (.seq (.seq (.leaf [1,2,4,10]) (.cond (.seq (.leaf [2,3]) (.leaf [2,3])) (.leaf [1,2,4]))) (.seq (.draw [9] [0,1,2,3,4,5,6,7,8,9,10,11] [] [2,3]) (.leaf [2,3])))))
noncomputable def Nbm : Ctx := ⟨tlook tys,olook [(22,N49)],ioF,0,true,[]⟩
theorem Nue (a : List Int) (b : List (List Int)) : Link Nbm LL (bodyOf Tryd.f23) Na8 ⟨mkE 24 0 [(0,.agg [dL a,.dat (.list (.list (.int .i64))) b])],[]⟩ (N4t a b) (fun (t : Bool × (List Int) × (List (List Int))) => (Exit.ret,⟨mkE 24 0 [(2,.ptr 0 0),(3,dB t.1)],[some (.box [.slc 1,.slc 2]),some (sI t.2.1),some (.nest (.int .i64) t.2.2 0 [])]⟩)) := .of fun K h => by
  simp only [N4t,wpW] at h
  exact .of (by kernel_rfl) h
theorem Nnn (a : List Int) (b : List (List Int)) {r : AV} {H' : Heap} (h : (Ans.mk _ (N2q a b) (fun (t : Bool × (List Int) × (List (List Int))) => (.tup [.agg [.slc 1,.slc 2],dB t.1],[some (.box [.slc 1,.slc 2]),some (sI t.2.1),some (.nest (.int .i64) t.2.2 0 [])])) [] none).run = some (r,H')) : Awp Nbm LL (bodyOf Tryd.f23) Na8 ⟨mkE 24 0 [(0,.agg [dL a,.dat (.list (.list (.int .i64))) b])],[]⟩ (Ret (tlook tys) Tryd.f23.results.toList r H') :=
  ret_of' (Nue a b) (by unfold N2q; kernel_rfl) (by
  intro t
  exact ret_mk [.agg [.slc 1,.slc 2],dB t.1] (by kernel_rfl) (by kernel_rfl) (by kernel_rfl) (by kernel_rfl)) h
def Ne2 : Fun := fun avs H =>
  match avs,H with
  | [.agg [.dat (.list (.int .i64)) a,.dat (.list (.list (.int .i64))) b]],[] => ⟨_,N2q a b,fun (t : Bool × (List Int) × (List (List Int))) => (.tup [.agg [.slc 1,.slc 2],dB t.1],[some (.box [.slc 1,.slc 2]),some (sI t.2.1),some (.nest (.int .i64) t.2.2 0 [])]),[],none⟩
  | _,_ => Ans.no
theorem Nu8 : Sound Tryd.prog 23 Ne2 := by
  refine fn_sound' (C := Nbm) (c := bodyOf Tryd.f23) (cok_of tys_ok (allc N63 alln) (allc Tryd.call22 alln) (by kernel_rfl)) Tryd.func23 (by kernel_rfl) LL Na8 ?_
  intro avs H r H' h
  unfold Ne2 at h
  split at h
  · refine Awp.cast ?_ ?_ ?_ (Nnn _ _ h) <;> kernel_rfl
  · simp [Ans.no,Ans.run] at h

def Nda : Ann := (.seq (.leaf [0,1]) (.seq (.leaf [4]) (.leaf [4])))
noncomputable def Ncd : Ctx := ⟨tlook tys,olook [(30,Nt)],ioF,0,false,[]⟩
theorem Nkg (a : List Int) (b : Int) : Link Ncd LL (bodyOf Tryd.f60) Nda ⟨mkE 17 0 [(0,dL a),(1,dI b)],[]⟩ (N5o a b) (fun (t : Bool) => (Exit.ret,⟨mkE 17 0 [(4,dB t)],[]⟩)) := .of fun K h => by
  simp only [N5o,wpW] at h
  exact .of (by kernel_rfl) h
theorem Nnf (a : List Int) (b : Int) {r : AV} {H' : Heap} (h : (Ans.mk _ (N2g a b) (fun (t : Bool) => (dB t,[])) [] none).run = some (r,H')) : Awp Ncd LL (bodyOf Tryd.f60) Nda ⟨mkE 17 0 [(0,dL a),(1,dI b)],[]⟩ (Ret (tlook tys) Tryd.f60.results.toList r H') :=
  ret_of' (Nkg a b) (by unfold N2g; kernel_rfl) (by
  intro t
  exact ret_mk [dB t] (by kernel_rfl) (by kernel_rfl) (by kernel_rfl) (by kernel_rfl)) h
def Ncl : Fun := fun avs H =>
  match avs,H with
  | [.dat (.list (.int .i64)) a,.dat (.int .i64) b],[] => ⟨_,N2g a b,fun (t : Bool) => (dB t,[]),[],none⟩
  | _,_ => Ans.no
theorem Nq8 : Sound Tryd.prog 60 Ncl := by
  refine fn_sound' (C := Ncd) (c := bodyOf Tryd.f60) (cok_of tys_ok (allc N1y alln) (allc Tryd.call30 alln) (by kernel_rfl)) Tryd.func60 (by kernel_rfl) LL Nda ?_
  intro avs H r H' h
  unfold Ncl at h
  split at h
  · refine Awp.cast ?_ ?_ ?_ (Nnf _ _ h) <;> kernel_rfl
  · simp [Ans.no,Ans.run] at h

def N15 : Ann := (.seq (.leaf [0]) (.seq (.leaf [0,3]) (.seq (.seq (.leaf [0,3,8,9]) (.block (.loop (.seq (.leaf [0,3,8,9,10]) (.seq (.cond (.leaf [0,3,8,9]) (.leaf [3])) (.seq (.block (.seq (.leaf [0,3,4,8,9]) (.leaf [0,3,8,9]))) (.leaf [0,3,8,9]))))))) (.seq (.leaf [2]) (.leaf [2])))))
noncomputable def N4c : Ctx := ⟨tlook tys,olook [],ioF,0,false,[]⟩
theorem Nw0 (a : Int) : Link N4c LL (Code.seq (cq [0] (bodyOf Tryd.f71)) (cq [0,1] (bodyOf Tryd.f71))) (Ann.seq (aq [0] N15) (aq [0,1] N15)) ⟨mkE 20 0 [(0,dI a)],[]⟩ (N8v a) (fun (t : (List Int)) => (Exit.normal,⟨mkE 20 0 [(0,dI a),(3,.slc 0)],[some (sI t)]⟩)) := .of fun K h => by
  simp only [N8v,wpW] at h
  exact .of (by kernel_rfl) h
theorem Nrj (a : Int) (b : List Int) : Link N4c LL (cq [0,0,1,1] (bodyOf Tryd.f71)) (aq [0,0,1,1] N15) ⟨mkE 20 0 [(0,dI a),(3,.slc 0)],[some (sI b)]⟩ (N6m b) (fun (t : Int) => (Exit.normal,⟨mkE 20 0 [(0,dI a),(3,.slc 0),(8,dI t),(9,dI 0)],[some (sI b)]⟩)) := .of fun K h => by
  simp only [N6m,wpW] at h
  exact .of (by kernel_rfl) h
theorem Nwl (a b c : Int) (d : List Int) : Link N4c LL (cq [0,0,1,0,1,1] (bodyOf Tryd.f71)) (aq [0,0,1,0,1,1] N15) ⟨mkE 20 0 [(0,dI a),(3,.slc 0),(8,dI b),(9,dI c)],[some (sI d)]⟩ (N3g a b c d) (Sum.elim (fun (t : Int × (List Int)) => (Exit.normal,⟨mkE 20 0 [(0,dI a),(3,.slc 0),(8,dI b),(9,dI t.1)],[some (sI t.2)]⟩)) (fun (t : (List Int)) => ((Exit.exit 0),⟨mkE 20 0 [(3,.slc 0)],[some (sI t)]⟩))) := .of fun K h => by
  simp only [N3g,wpW] at h
  exact .of (by kernel_rfl) h
theorem Nrk (a : List Int) : Link N4c LL (cq [1,1,1] (bodyOf Tryd.f71)) (aq [1,1,1] N15) ⟨mkE 20 0 [(3,.slc 0)],[some (sI a)]⟩ (N8c a) (fun (t : (List Int)) => (Exit.ret,⟨mkE 20 0 [(2,.slc 0)],[some (sI t)]⟩)) := .of fun K h => by
  simp only [N8c,wpW] at h
  exact .of (by kernel_rfl) h
theorem Npq (b : Int) {r : AV} {H' : Heap} (h : (Ans.mk _ (N2s b) (fun (t : (List Int)) => (.slc 0,[some (sI t)])) [] none).run = some (r,H')) : Awp N4c LL (bodyOf Tryd.f71) N15 ⟨mkE 20 0 [(0,dI b)],[]⟩ (Ret (tlook tys) Tryd.f71.results.toList r H') :=
  ret_of' (Link.cast (by kernel_rfl) (by kernel_rfl) (link_group (c := (cq [0,1] (bodyOf Tryd.f71))) (a := (aq [0,1] N15)) [(cq [0] (bodyOf Tryd.f71))] [(aq [0] N15)] rfl (link_seq (Nw0 b) (fun (t : (List Int)) => (link_seq (link_seq (Nrj b t) (fun (t38 : Int) => (link_block (fin2 := (fun (t17 : (List Int)) => (Exit.normal,⟨mkE 20 0 [(3,.slc 0)],[some (sI t17)]⟩))) (id := 0) (link_loop (mk := fun (s : Int × (List Int)) => ⟨mkE 20 0 [(0,dI b),(3,.slc 0),(8,dI t38),(9,dI s.1)],[some (sI s.2)]⟩) (fin := (fun (t17 : (List Int)) => ((Exit.exit 0),⟨mkE 20 0 [(3,.slc 0)],[some (sI t17)]⟩))) (by
  rintro t17 f K h
  · exact h) (fun s => link_map (Nwl b t38 s.1 s.2) (Sum.elim (fun (t17 : Int × (List Int)) => Sum.inl (t17.1,t17.2)) (fun (t17 : (List Int)) => Sum.inr t17)) (by
  rintro (t17 | t17)
  · kernel_rfl
  · kernel_rfl)) (0,t)) (fun (t17 : (List Int)) => t17) (by
  rintro t17 K h
  · exact Eq.mp (by kernel_rfl) h)))) (fun (t38 : (List Int)) => (Nrk t38))))))) (by unfold N2s; kernel_rfl) (by
  intro t
  exact ret_mk [.slc 0] (by kernel_rfl) (by kernel_rfl) (by kernel_rfl) (by kernel_rfl)) h
def Nc8 : Fun := fun avs H =>
  match avs,H with
  | [.dat (.int .i64) a],[] => ⟨_,N2s a,fun (t : (List Int)) => (.slc 0,[some (sI t)]),[],none⟩
  | _,_ => Ans.no
theorem Nxj : Sound Tryd.prog 71 Nc8 := by
  refine fn_sound' (C := N4c) (c := bodyOf Tryd.f71) (cok_of tys_ok (alln) (alln) (by kernel_rfl)) Tryd.func71 (by kernel_rfl) LL N15 ?_
  intro avs H r H' h
  unfold Nc8 at h
  split at h
  · refine Awp.cast ?_ ?_ ?_ (Npq _ h) <;> kernel_rfl
  · simp [Ans.no,Ans.run] at h

def Nk : Ann := (.seq (.leaf [0,1]) (.seq (.seq (.leaf [0,1,19]) (.cond (.seq (.leaf [4]) (.leaf [4])) (.leaf [0,1]))) (.seq (.leaf [0,1,5]) (.seq (.seq (.leaf [1,5,20,21,22]) (.block (.loop (.seq (.leaf [1,5,20,21,22,23]) (.seq (.cond (.leaf [1,5,20,21,22]) (.leaf [])) (.seq (.block (.seq (.leaf [1,5,7,20,21,22]) (.seq (.seq (.leaf [1,5,7,20,21,22,37]) (.cond (.seq (.leaf [4]) (.leaf [4])) (.leaf [1,5,7,20,21,22]))) (.leaf [1,5,20,21,22])))) (.leaf [1,5,20,21,22]))))))) (.seq (.leaf [4]) (.leaf [4]))))))
noncomputable def N3n : Ctx := ⟨tlook tys,olook [],ioF,0,false,[]⟩
theorem Nu6 (a : List Int) (b : Int) : Link N3n LL (Code.seq (cq [0] (bodyOf Tryd.f77)) (Code.seq (cq [0,1] (bodyOf Tryd.f77)) (cq [0,1,1] (bodyOf Tryd.f77)))) (Ann.seq (aq [0] Nk) (Ann.seq (aq [0,1] Nk) (aq [0,1,1] Nk))) ⟨mkE 41 0 [(0,dL a),(1,dI b)],[]⟩ (N8a a b) (Sum.elim (fun (t : Unit) => (Exit.normal,⟨mkE 41 0 [(0,dL a),(1,dI b),(5,.ptr 0 0)],[some (.seq .bool (List.replicate 9 false))]⟩)) (fun (t : Bool) => (Exit.ret,⟨mkE 41 0 [(4,dB t)],[]⟩))) := .of fun K h => by
  simp only [N8a,wpW] at h
  exact .of (by kernel_rfl) h
theorem Nnz (a : List Int) (b : Int) : Link N3n LL (cq [0,0,1,1,1] (bodyOf Tryd.f77)) (aq [0,0,1,1,1] Nk) ⟨mkE 41 0 [(0,dL a),(1,dI b),(5,.ptr 0 0)],[some (.seq .bool (List.replicate 9 false))]⟩ (N93 a) (fun (t : Int) => (Exit.normal,⟨mkE 41 0 [(1,dI b),(5,.ptr 0 0),(20,dL a),(21,dI t),(22,dI 0)],[some (.seq .bool (List.replicate 9 false))]⟩)) := .of fun K h => by
  simp only [N93,wpW] at h
  exact .of (by kernel_rfl) h
theorem Nvr (a : Int) (b : List Int) (c d : Int) (g : List Bool) : Link N3n LL (cq [0,0,1,0,1,1,1] (bodyOf Tryd.f77)) (aq [0,0,1,0,1,1,1] Nk) ⟨mkE 41 0 [(1,dI a),(5,.ptr 0 0),(20,dL b),(21,dI c),(22,dI d)],[some (.seq .bool g)]⟩ (N5g a b c d g) (Sum.elim (fun (t : Int × (List Bool)) => (Exit.normal,⟨mkE 41 0 [(1,dI a),(5,.ptr 0 0),(20,dL b),(21,dI c),(22,dI t.1)],[some (.seq .bool t.2)]⟩)) (Sum.elim (fun (t : Bool) => (Exit.ret,⟨mkE 41 0 [(4,dB t)],[]⟩)) (fun (t : Unit) => ((Exit.exit 0),⟨mkE 41 0 [],[]⟩)))) := .of fun K h => by
  simp only [N5g,wpW] at h
  exact .of (by kernel_rfl) h
theorem Nmh : Link N3n LL (cq [1,1,1,1] (bodyOf Tryd.f77)) (aq [1,1,1,1] Nk) ⟨mkE 41 0 [],[]⟩ (N7y) (fun (t : Bool) => (Exit.ret,⟨mkE 41 0 [(4,dB t)],[]⟩)) := .of fun K h => by
  simp only [N7y,wpW] at h
  exact .of (by kernel_rfl) h
theorem Nmy (b : List Int) (d : Int) {r : AV} {H' : Heap} (h : (Ans.mk _ (N44 b d) (fun (t : Bool) => (dB t,[])) [] none).run = some (r,H')) : Awp N3n LL (bodyOf Tryd.f77) Nk ⟨mkE 41 0 [(0,dL b),(1,dI d)],[]⟩ (Ret (tlook tys) Tryd.f77.results.toList r H') :=
  ret_of' (Link.cast (by kernel_rfl) (by kernel_rfl) (link_group (c := (cq [0,1,1] (bodyOf Tryd.f77))) (a := (aq [0,1,1] Nk)) [(cq [0] (bodyOf Tryd.f77)),(cq [0,1] (bodyOf Tryd.f77))] [(aq [0] Nk),(aq [0,1] Nk)] rfl (link_seq2 (Nu6 b d) (fun (t : Unit) => (link_seq2 (link_seq (Nnz b d) (fun (t : Int) => (link_block (fin2 := (Sum.elim (fun (t18 : Unit) => (Exit.normal,⟨mkE 41 0 [],[]⟩)) (fun (t18 : Bool) => (Exit.ret,⟨mkE 41 0 [(4,dB t18)],[]⟩)))) (id := 0) (link_loop (mk := fun (s : Int × (List Bool)) => ⟨mkE 41 0 [(1,dI d),(5,.ptr 0 0),(20,dL b),(21,dI t),(22,dI s.1)],[some (.seq .bool s.2)]⟩) (fin := (Sum.elim (fun (t18 : Bool) => (Exit.ret,⟨mkE 41 0 [(4,dB t18)],[]⟩)) (fun (t18 : Unit) => ((Exit.exit 0),⟨mkE 41 0 [],[]⟩)))) (by
  rintro (t18 | t18) f K h
  · exact h
  · exact h) (fun s => link_map (Nvr d b t s.1 s.2) (Sum.elim (fun (t18 : Int × (List Bool)) => Sum.inl (t18.1,t18.2)) (Sum.elim (fun (t18 : Bool) => Sum.inr (Sum.inl t18)) (fun (t18 : Unit) => Sum.inr (Sum.inr t18)))) (by
  rintro (t18 | t18 | t18)
  · kernel_rfl
  · kernel_rfl
  · kernel_rfl)) (0,(List.replicate 9 false))) (Sum.elim (fun (t18 : Bool) => (Sum.inr t18)) (fun (t18 : Unit) => (Sum.inl ()))) (by
  rintro (t18 | t18) K h
  · exact Eq.mp (by kernel_rfl) h
  · exact Eq.mp (by kernel_rfl) h)))) (fun (t : Unit) => (Nmh)) (fun (t : Bool) => t) (by
  rintro t
  · kernel_rfl) (by
  rintro t f K h
  · exact h))) (fun (t : Bool) => t) (by
  rintro t
  · kernel_rfl) (by
  rintro t f K h
  · exact h)))) (by unfold N44; kernel_rfl) (by
  intro t
  exact ret_mk [dB t] (by kernel_rfl) (by kernel_rfl) (by kernel_rfl) (by kernel_rfl)) h
def Nac : Fun := fun avs H =>
  match avs,H with
  | [.dat (.list (.int .i64)) a,.dat (.int .i64) b],[] => ⟨_,N44 a b,fun (t : Bool) => (dB t,[]),[],none⟩
  | _,_ => Ans.no
theorem Nnc : Sound Tryd.prog 77 Nac := by
  refine fn_sound' (C := N3n) (c := bodyOf Tryd.f77) (cok_of tys_ok (alln) (alln) (by kernel_rfl)) Tryd.func77 (by kernel_rfl) LL Nk ?_
  intro avs H r H' h
  unfold Nac at h
  split at h
  · refine Awp.cast ?_ ?_ ?_ (Nmy _ _ h) <;> kernel_rfl
  · simp [Ans.no,Ans.run] at h

def N19 : Ann := (.seq (.leaf [0]) (.seq (.leaf [0,3]) (.seq (.seq (.leaf [3,10,11,12]) (.block (.loop (.seq (.leaf [3,10,11,12,13]) (.seq (.cond (.leaf [3,10,11,12]) (.leaf [3])) (.seq (.block (.seq (.leaf [3,4,5,10,11,12]) (.leaf [3,10,11,12]))) (.leaf [3,10,11,12]))))))) (.seq (.leaf [2]) (.leaf [2])))))
noncomputable def N3d : Ctx := ⟨tlook tys,olook [],ioF,0,false,[]⟩
theorem Nox (a : List Int) : Link N3d LL (Code.seq (cq [0] (bodyOf Tryd.f78)) (cq [0,1] (bodyOf Tryd.f78))) (Ann.seq (aq [0] N19) (aq [0,1] N19)) ⟨mkE 24 0 [(0,dL a)],[]⟩ (N9f a) (fun (t : (List Int)) => (Exit.normal,⟨mkE 24 0 [(0,dL a),(3,.slc 0)],[some (sI t)]⟩)) := .of fun K h => by
  simp only [N9f,wpW] at h
  exact .of (by kernel_rfl) h
theorem Nsk (a b : List Int) : Link N3d LL (cq [0,0,1,1] (bodyOf Tryd.f78)) (aq [0,0,1,1] N19) ⟨mkE 24 0 [(0,dL a),(3,.slc 0)],[some (sI b)]⟩ (N9d a) (fun (t : Int) => (Exit.normal,⟨mkE 24 0 [(3,.slc 0),(10,dL a),(11,dI t),(12,dI 0)],[some (sI b)]⟩)) := .of fun K h => by
  simp only [N9d,wpW] at h
  exact .of (by kernel_rfl) h
theorem Nv0 (a : List Int) (b c : Int) (d : List Int) : Link N3d LL (cq [0,0,1,0,1,1] (bodyOf Tryd.f78)) (aq [0,0,1,0,1,1] N19) ⟨mkE 24 0 [(3,.slc 0),(10,dL a),(11,dI b),(12,dI c)],[some (sI d)]⟩ (N47 a b c d) (Sum.elim (fun (t : Int × (List Int)) => (Exit.normal,⟨mkE 24 0 [(3,.slc 0),(10,dL a),(11,dI b),(12,dI t.1)],[some (sI t.2)]⟩)) (fun (t : (List Int)) => ((Exit.exit 0),⟨mkE 24 0 [(3,.slc 0)],[some (sI t)]⟩))) := .of fun K h => by
  simp only [N47,wpW] at h
  exact .of (by kernel_rfl) h
theorem Npv (a : List Int) : Link N3d LL (cq [1,1,1] (bodyOf Tryd.f78)) (aq [1,1,1] N19) ⟨mkE 24 0 [(3,.slc 0)],[some (sI a)]⟩ (N8d a) (fun (t : (List Int)) => (Exit.ret,⟨mkE 24 0 [(2,.slc 0)],[some (sI t)]⟩)) := .of fun K h => by
  simp only [N8d,wpW] at h
  exact .of (by kernel_rfl) h
theorem Nlx (b : List Int) {r : AV} {H' : Heap} (h : (Ans.mk _ (N3q b) (fun (t : (List Int)) => (.slc 0,[some (sI t)])) [] none).run = some (r,H')) : Awp N3d LL (bodyOf Tryd.f78) N19 ⟨mkE 24 0 [(0,dL b)],[]⟩ (Ret (tlook tys) Tryd.f78.results.toList r H') :=
  ret_of' (Link.cast (by kernel_rfl) (by kernel_rfl) (link_group (c := (cq [0,1] (bodyOf Tryd.f78))) (a := (aq [0,1] N19)) [(cq [0] (bodyOf Tryd.f78))] [(aq [0] N19)] rfl (link_seq (Nox b) (fun (t : (List Int)) => (link_seq (link_seq (Nsk b t) (fun (t39 : Int) => (link_block (fin2 := (fun (t19 : (List Int)) => (Exit.normal,⟨mkE 24 0 [(3,.slc 0)],[some (sI t19)]⟩))) (id := 0) (link_loop (mk := fun (s : Int × (List Int)) => ⟨mkE 24 0 [(3,.slc 0),(10,dL b),(11,dI t39),(12,dI s.1)],[some (sI s.2)]⟩) (fin := (fun (t19 : (List Int)) => ((Exit.exit 0),⟨mkE 24 0 [(3,.slc 0)],[some (sI t19)]⟩))) (by
  rintro t19 f K h
  · exact h) (fun s => link_map (Nv0 b t39 s.1 s.2) (Sum.elim (fun (t19 : Int × (List Int)) => Sum.inl (t19.1,t19.2)) (fun (t19 : (List Int)) => Sum.inr t19)) (by
  rintro (t19 | t19)
  · kernel_rfl
  · kernel_rfl)) (0,t)) (fun (t19 : (List Int)) => t19) (by
  rintro t19 K h
  · exact Eq.mp (by kernel_rfl) h)))) (fun (t39 : (List Int)) => (Npv t39))))))) (by unfold N3q; kernel_rfl) (by
  intro t
  exact ret_mk [.slc 0] (by kernel_rfl) (by kernel_rfl) (by kernel_rfl) (by kernel_rfl)) h
def Ne9 : Fun := fun avs H =>
  match avs,H with
  | [.dat (.list (.int .i64)) a],[] => ⟨_,N3q a,fun (t : (List Int)) => (.slc 0,[some (sI t)]),[],none⟩
  | _,_ => Ans.no
theorem Npw : Sound Tryd.prog 78 Ne9 := by
  refine fn_sound' (C := N3d) (c := bodyOf Tryd.f78) (cok_of tys_ok (alln) (alln) (by kernel_rfl)) Tryd.func78 (by kernel_rfl) LL N19 ?_
  intro avs H r H' h
  unfold Ne9 at h
  split at h
  · refine Awp.cast ?_ ?_ ?_ (Nlx _ h) <;> kernel_rfl
  · simp [Ans.no,Ans.run] at h

def Nay : Ann := (.seq (.leaf [0,1]) (.seq (.leaf [3]) (.leaf [3])))
noncomputable def Nc2 : Ctx := ⟨tlook tys,olook [],ioF,2,false,[]⟩
theorem Nr1 (a : Int) (b : List Int) : Link Nc2 LL (bodyOf Tryd.f80) Nay ⟨mkE 8 0 [(0,dI a),(1,.ptr 0 0)],[some (.box [.slc 1]),some (sI b)]⟩ (N6y a b) (fun (t : Int) => (Exit.ret,⟨mkE 8 0 [(3,dI t)],[some (.box [.slc 1]),some (sI b)]⟩)) := .of fun K h => by
  simp only [N6y,wpW] at h
  exact .of (by kernel_rfl) h
theorem Nva (a : Int) (b : List Int) {r : AV} {H' : Heap} (h : (Ans.mk _ (N4j a b) (fun (t : Int) => (dI t,[some (.box [.slc 1]),some (sI b)])) [] none).run = some (r,H')) : Awp Nc2 LL (bodyOf Tryd.f80) Nay ⟨mkE 8 0 [(0,dI a),(1,.ptr 0 0)],[some (.box [.slc 1]),some (sI b)]⟩ (Ret (tlook tys) Tryd.f80.results.toList r H') :=
  ret_of' (Nr1 a b) (by unfold N4j; kernel_rfl) (by
  intro t
  exact ret_mk [dI t] (by kernel_rfl) (by kernel_rfl) (by kernel_rfl) (by kernel_rfl)) h
def Nc6 : Fun := fun avs H =>
  match avs,H with
  | [.dat (.int .i64) a,.ptr 0 0],[some (.box [.slc 1]),some (.seq (.int .i64) b)] => ⟨_,N4j a b,fun (t : Int) => (dI t,[some (.box [.slc 1]),some (sI b)]),[],none⟩
  | _,_ => Ans.no
theorem Nxm : Sound Tryd.prog 80 Nc6 := by
  refine fn_sound' (C := Nc2) (c := bodyOf Tryd.f80) (cok_of tys_ok (alln) (alln) (by kernel_rfl)) Tryd.func80 (by kernel_rfl) LL Nay ?_
  intro avs H r H' h
  unfold Nc6 at h
  split at h
  · refine Awp.cast ?_ ?_ ?_ (Nva _ _ h) <;> kernel_rfl
  · simp [Ans.no,Ans.run] at h

def N12 : Ann := (.seq (.leaf [0,1,2]) (.seq (.leaf [0,1,2,7]) (.seq (.seq (.leaf [0,2,7,13,14,15]) (.block (.loop (.seq (.leaf [0,2,7,13,14,15,16]) (.seq (.cond (.leaf [0,2,7,13,14,15]) (.leaf [7])) (.seq (.block (.seq (.leaf [0,2,7,8,9,13,14,15]) (.leaf [0,2,7,13,14,15]))) (.leaf [0,2,7,13,14,15]))))))) (.seq (.leaf [6]) (.leaf [6])))))
noncomputable def N42 : Ctx := ⟨tlook tys,olook [(80,Nc6)],ioF,2,false,[]⟩
theorem Nqz (a b c : List Int) : Link N42 LL (Code.seq (cq [0] (bodyOf Tryd.f79)) (cq [0,1] (bodyOf Tryd.f79))) (Ann.seq (aq [0] N12) (aq [0,1] N12)) ⟨mkE 32 0 [(0,dL a),(1,dL b),(2,.fn 80 [] [.ptr 0 0])],[some (.box [.slc 1]),some (sI c)]⟩ (N5t b) (fun (t : (List Int)) => (Exit.normal,⟨mkE 32 0 [(0,dL a),(1,dL b),(2,.fn 80 [] [.ptr 0 0]),(7,.slc 2)],[some (.box [.slc 1]),some (sI c),some (sI t)]⟩)) := .of fun K h => by
  simp only [N5t,wpW] at h
  exact .of (by kernel_rfl) h
theorem Nlw (a b c d : List Int) : Link N42 LL (cq [0,0,1,1] (bodyOf Tryd.f79)) (aq [0,0,1,1] N12) ⟨mkE 32 0 [(0,dL a),(1,dL b),(2,.fn 80 [] [.ptr 0 0]),(7,.slc 2)],[some (.box [.slc 1]),some (sI c),some (sI d)]⟩ (N7s b) (fun (t : Int) => (Exit.normal,⟨mkE 32 0 [(0,dL a),(2,.fn 80 [] [.ptr 0 0]),(7,.slc 2),(13,dL b),(14,dI t),(15,dI 0)],[some (.box [.slc 1]),some (sI c),some (sI d)]⟩)) := .of fun K h => by
  simp only [N7s,wpW] at h
  exact .of (by kernel_rfl) h
theorem Nux (a b : List Int) (c d : Int) (g i : List Int) : Link N42 LL (cq [0,0,1,0,1,1] (bodyOf Tryd.f79)) (aq [0,0,1,0,1,1] N12) ⟨mkE 32 0 [(0,dL a),(2,.fn 80 [] [.ptr 0 0]),(7,.slc 2),(13,dL b),(14,dI c),(15,dI d)],[some (.box [.slc 1]),some (sI g),some (sI i)]⟩ (N4q a b c d g i) (Sum.elim (fun (t : Int × (List Int)) => (Exit.normal,⟨mkE 32 0 [(0,dL a),(2,.fn 80 [] [.ptr 0 0]),(7,.slc 2),(13,dL b),(14,dI c),(15,dI t.1)],[some (.box [.slc 1]),some (sI g),some (sI t.2)]⟩)) (fun (t : (List Int)) => ((Exit.exit 0),⟨mkE 32 0 [(7,.slc 2)],[some (.box [.slc 1]),some (sI g),some (sI t)]⟩))) := .of fun K h => by
  simp only [N4q,wpW] at h
  exact .of (by kernel_rfl) h
theorem No5 (a b : List Int) : Link N42 LL (cq [1,1,1] (bodyOf Tryd.f79)) (aq [1,1,1] N12) ⟨mkE 32 0 [(7,.slc 2)],[some (.box [.slc 1]),some (sI a),some (sI b)]⟩ (N5v b) (fun (t : (List Int)) => (Exit.ret,⟨mkE 32 0 [(6,.slc 2)],[some (.box [.slc 1]),some (sI a),some (sI t)]⟩)) := .of fun K h => by
  simp only [N5v,wpW] at h
  exact .of (by kernel_rfl) h
theorem Npd (b d g : List Int) {r : AV} {H' : Heap} (h : (Ans.mk _ (N4u b d g) (fun (t : (List Int)) => (.slc 2,[some (.box [.slc 1]),some (sI g),some (sI t)])) [] none).run = some (r,H')) : Awp N42 LL (bodyOf Tryd.f79) N12 ⟨mkE 32 0 [(0,dL b),(1,dL d),(2,.fn 80 [] [.ptr 0 0])],[some (.box [.slc 1]),some (sI g)]⟩ (Ret (tlook tys) Tryd.f79.results.toList r H') :=
  ret_of' (Link.cast (by kernel_rfl) (by kernel_rfl) (link_group (c := (cq [0,1] (bodyOf Tryd.f79))) (a := (aq [0,1] N12)) [(cq [0] (bodyOf Tryd.f79))] [(aq [0] N12)] rfl (link_seq (Nqz b d g) (fun (t : (List Int)) => (link_seq (link_seq (Nlw b d g t) (fun (t40 : Int) => (link_block (fin2 := (fun (t20 : (List Int)) => (Exit.normal,⟨mkE 32 0 [(7,.slc 2)],[some (.box [.slc 1]),some (sI g),some (sI t20)]⟩))) (id := 0) (link_loop (mk := fun (s : Int × (List Int)) => ⟨mkE 32 0 [(0,dL b),(2,.fn 80 [] [.ptr 0 0]),(7,.slc 2),(13,dL d),(14,dI t40),(15,dI s.1)],[some (.box [.slc 1]),some (sI g),some (sI s.2)]⟩) (fin := (fun (t20 : (List Int)) => ((Exit.exit 0),⟨mkE 32 0 [(7,.slc 2)],[some (.box [.slc 1]),some (sI g),some (sI t20)]⟩))) (by
  rintro t20 f K h
  · exact h) (fun s => link_map (Nux b d t40 s.1 g s.2) (Sum.elim (fun (t20 : Int × (List Int)) => Sum.inl (t20.1,t20.2)) (fun (t20 : (List Int)) => Sum.inr t20)) (by
  rintro (t20 | t20)
  · kernel_rfl
  · kernel_rfl)) (0,t)) (fun (t20 : (List Int)) => t20) (by
  rintro t20 K h
  · exact Eq.mp (by kernel_rfl) h)))) (fun (t40 : (List Int)) => (No5 g t40))))))) (by unfold N4u; kernel_rfl) (by
  intro t
  exact ret_mk [.slc 2] (by kernel_rfl) (by kernel_rfl) (by kernel_rfl) (by kernel_rfl)) h
def Naw : Fun := fun avs H =>
  match avs,H with
  | [.dat (.list (.int .i64)) a,.dat (.list (.int .i64)) b,.fn 80 [] [.ptr 0 0]],[some (.box [.slc 1]),some (.seq (.int .i64) c)] => ⟨_,N4u a b c,fun (t : (List Int)) => (.slc 2,[some (.box [.slc 1]),some (sI c),some (sI t)]),[],none⟩
  | _,_ => Ans.no
theorem Nl8 : Sound Tryd.prog 79 Naw := by
  refine fn_sound' (C := N42) (c := bodyOf Tryd.f79) (cok_of tys_ok (allc Nxm alln) (allc Tryd.call80 alln) (by kernel_rfl)) Tryd.func79 (by kernel_rfl) LL N12 ?_
  intro avs H r H' h
  unfold Naw at h
  split at h
  · refine Awp.cast ?_ ?_ ?_ (Npd _ _ _ h) <;> kernel_rfl
  · simp [Ans.no,Ans.run] at h

def Ndf : Ann := (.seq (.leaf [0,1]) (.seq (.seq (.leaf [0,1,16]) (.cond (.seq (.leaf [4,5]) (.leaf [4,5])) (.leaf [0,1]))) (.seq (.leaf [0,1,6]) (.seq (.leaf [4,5]) (.leaf [4,5])))))
noncomputable def Ndo : Ctx := ⟨tlook tys,olook [(30,Nt),(77,Nac),(78,Ne9),(79,Naw)],ioF,0,false,[]⟩
theorem Nwn (a b : List Int) : Link Ndo LL (bodyOf Tryd.f70) Ndf ⟨mkE 23 0 [(0,dL a),(1,dL b)],[]⟩ (N8p a b) (fun (t : Bool × (List Int)) => (Exit.ret,⟨mkE 23 0 [(4,.slc 0),(5,dB t.1)],[some (sI t.2)]⟩)) := .of fun K h => by
  simp only [N8p,wpW] at h
  exact .of (by kernel_rfl) h
theorem Njf (a b : List Int) {r : AV} {H' : Heap} (h : (Ans.mk _ (N2f a b) (fun (t : Bool × (List Int)) => (.tup [.slc 0,dB t.1],[some (sI t.2)])) [] none).run = some (r,H')) : Awp Ndo LL (bodyOf Tryd.f70) Ndf ⟨mkE 23 0 [(0,dL a),(1,dL b)],[]⟩ (Ret (tlook tys) Tryd.f70.results.toList r H') :=
  ret_of' (Nwn a b) (by unfold N2f; kernel_rfl) (by
  intro t
  exact ret_mk [.slc 0,dB t.1] (by kernel_rfl) (by kernel_rfl) (by kernel_rfl) (by kernel_rfl)) h
def N9g : Fun := fun avs H =>
  match avs,H with
  | [.dat (.list (.int .i64)) a,.dat (.list (.int .i64)) b],[] => ⟨_,N2f a b,fun (t : Bool × (List Int)) => (.tup [.slc 0,dB t.1],[some (sI t.2)]),[],none⟩
  | _,_ => Ans.no
theorem Nhe : Sound Tryd.prog 70 N9g := by
  refine fn_sound' (C := Ndo) (c := bodyOf Tryd.f70) (cok_of tys_ok (allc N1y (allc Nnc (allc Npw (allc Nl8 alln)))) (allc Tryd.call30 (allc Tryd.call77 (allc Tryd.call78 (allc Tryd.call79 alln)))) (by kernel_rfl)) Tryd.func70 (by kernel_rfl) LL Ndf ?_
  intro avs H r H' h
  unfold N9g at h
  split at h
  · refine Awp.cast ?_ ?_ ?_ (Njf _ _ h) <;> kernel_rfl
  · simp [Ans.no,Ans.run] at h

def Nbt : Ann := (.seq (.leaf [0]) (.seq (.seq (.leaf [0,7]) (.cond (.seq (.leaf [2]) (.leaf [2])) (.leaf [0]))) (.seq (.leaf [3]) (.seq (.leaf [2]) (.leaf [2])))))
noncomputable def Ncp : Ctx := ⟨tlook tys,olook [(30,Nt),(71,Nc8),(70,N9g)],ioF,0,false,[]⟩
theorem Nvb (a : List Int) : Link Ncp LL (bodyOf Tryd.f61) Nbt ⟨mkE 17 0 [(0,dL a)],[]⟩ (N5f a) (fun (t : (List Int)) => (Exit.ret,⟨mkE 17 0 [(2,.slc 0)],[some (sI t)]⟩)) := .of fun K h => by
  simp only [N5f,wpW] at h
  exact .of (by kernel_rfl) h
theorem Nle (a : List Int) {r : AV} {H' : Heap} (h : (Ans.mk _ (N23 a) (fun (t : (List Int)) => (.slc 0,[some (sI t)])) [] none).run = some (r,H')) : Awp Ncp LL (bodyOf Tryd.f61) Nbt ⟨mkE 17 0 [(0,dL a)],[]⟩ (Ret (tlook tys) Tryd.f61.results.toList r H') :=
  ret_of' (Nvb a) (by unfold N23; kernel_rfl) (by
  intro t
  exact ret_mk [.slc 0] (by kernel_rfl) (by kernel_rfl) (by kernel_rfl) (by kernel_rfl)) h
def Ndl : Fun := fun avs H =>
  match avs,H with
  | [.dat (.list (.int .i64)) a],[] => ⟨_,N23 a,fun (t : (List Int)) => (.slc 0,[some (sI t)]),[],none⟩
  | _,_ => Ans.no
theorem Njo : Sound Tryd.prog 61 Ndl := by
  refine fn_sound' (C := Ncp) (c := bodyOf Tryd.f61) (cok_of tys_ok (allc N1y (allc Nxj (allc Nhe alln))) (allc Tryd.call30 (allc Tryd.call71 (allc Tryd.call70 alln))) (by kernel_rfl)) Tryd.func61 (by kernel_rfl) LL Nbt ?_
  intro avs H r H' h
  unfold Ndl at h
  split at h
  · refine Awp.cast ?_ ?_ ?_ (Nle _ h) <;> kernel_rfl
  · simp [Ans.no,Ans.run] at h

def Ny : Ann := (.seq (.leaf [0]) (.seq (.seq (.leaf [0,6]) (.cond (.seq (.leaf [2]) (.leaf [2])) (.leaf [0]))) (.seq (.leaf [3]) (.seq (.block (.loop (.seq (.seq (.leaf [3,9]) (.cond (.leaf [3]) (.leaf [3]))) (.block (.leaf [3]))))) (.seq (.leaf [2]) (.leaf [2]))))))
noncomputable def N4p : Ctx := ⟨tlook tys,olook [(30,Nt),(64,N7i)],ioF,0,false,[]⟩
theorem Nt5 (a : List Int) : Link N4p LL (Code.seq (cq [0] (bodyOf Tryd.f55)) (Code.seq (cq [0,1] (bodyOf Tryd.f55)) (cq [0,1,1] (bodyOf Tryd.f55)))) (Ann.seq (aq [0] Ny) (Ann.seq (aq [0,1] Ny) (aq [0,1,1] Ny))) ⟨mkE 12 0 [(0,dL a)],[]⟩ (N6t a) (Sum.elim (fun (t : Unit) => (Exit.normal,⟨mkE 12 0 [(3,.ptr 0 0)],[some (.box [dL a,dI 1,dI 0])]⟩)) (fun (t : Int) => (Exit.ret,⟨mkE 12 0 [(2,dI t)],[]⟩))) := .of fun K h => by
  simp only [N6t,wpW] at h
  exact .of (by kernel_rfl) h
theorem Nns (a : List Int) (b c : Int) : Link N4p LL (cq [0,0,0,1,1,1] (bodyOf Tryd.f55)) (aq [0,0,0,1,1,1] Ny) ⟨mkE 12 0 [(3,.ptr 0 0)],[some (.box [dL a,dI b,dI c])]⟩ (N5h a b c) (Sum.elim (fun (t : Int × Int) => (Exit.normal,⟨mkE 12 0 [(3,.ptr 0 0)],[some (.box [dL a,dI t.1,dI t.2])]⟩)) (fun (t : Int × Int) => ((Exit.exit 0),⟨mkE 12 0 [(3,.ptr 0 0)],[some (.box [dL a,dI t.1,dI t.2])]⟩))) := .of fun K h => by
  simp only [N5h,wpW] at h
  exact .of (by kernel_rfl) h
theorem Nsp (a : List Int) (b c : Int) : Link N4p LL (cq [1,1,1,1] (bodyOf Tryd.f55)) (aq [1,1,1,1] Ny) ⟨mkE 12 0 [(3,.ptr 0 0)],[some (.box [dL a,dI b,dI c])]⟩ (N8x b) (fun (t : Int) => (Exit.ret,⟨mkE 12 0 [(2,dI t)],[]⟩)) := .of fun K h => by
  simp only [N8x,wpW] at h
  exact .of (by kernel_rfl) h
theorem Nts (b : List Int) {r : AV} {H' : Heap} (h : (Ans.mk _ (N2z b) (fun (t : Int) => (dI t,[])) [] none).run = some (r,H')) : Awp N4p LL (bodyOf Tryd.f55) Ny ⟨mkE 12 0 [(0,dL b)],[]⟩ (Ret (tlook tys) Tryd.f55.results.toList r H') :=
  ret_of' (Link.cast (by kernel_rfl) (by kernel_rfl) (link_group (c := (cq [0,1,1] (bodyOf Tryd.f55))) (a := (aq [0,1,1] Ny)) [(cq [0] (bodyOf Tryd.f55)),(cq [0,1] (bodyOf Tryd.f55))] [(aq [0] Ny),(aq [0,1] Ny)] rfl (link_seq2 (Nt5 b) (fun (t : Unit) => (link_seq (link_block (fin2 := (fun (t : Int × Int) => (Exit.normal,⟨mkE 12 0 [(3,.ptr 0 0)],[some (.box [dL b,dI t.1,dI t.2])]⟩))) (id := 0) (link_loop (mk := fun (s : Int × Int) => ⟨mkE 12 0 [(3,.ptr 0 0)],[some (.box [dL b,dI s.1,dI s.2])]⟩) (fin := (fun (t : Int × Int) => ((Exit.exit 0),⟨mkE 12 0 [(3,.ptr 0 0)],[some (.box [dL b,dI t.1,dI t.2])]⟩))) (by
  rintro t f K h
  · exact h) (fun s => link_map (Nns b s.1 s.2) (Sum.elim (fun (t : Int × Int) => Sum.inl (t.1,t.2)) (fun (t : Int × Int) => Sum.inr t)) (by
  rintro (t | t)
  · kernel_rfl
  · kernel_rfl)) (1,0)) (fun (t : Int × Int) => (t.1,t.2)) (by
  rintro t K h
  · exact Eq.mp (by kernel_rfl) h)) (fun (t : Int × Int) => (Nsp b t.1 t.2)))) (fun (t : Int) => t) (by
  rintro t
  · kernel_rfl) (by
  rintro t f K h
  · exact h)))) (by unfold N2z; kernel_rfl) (by
  intro t
  exact ret_mk [dI t] (by kernel_rfl) (by kernel_rfl) (by kernel_rfl) (by kernel_rfl)) h
def Nah : Fun := fun avs H =>
  match avs,H with
  | [.dat (.list (.int .i64)) a],[] => ⟨_,N2z a,fun (t : Int) => (dI t,[]),[],none⟩
  | _,_ => Ans.no
theorem Nkh : Sound Tryd.prog 55 Nah := by
  refine fn_sound' (C := N4p) (c := bodyOf Tryd.f55) (cok_of tys_ok (allc N1y (allc Neu alln)) (allc Tryd.call30 (allc Tryd.call64 alln)) (by kernel_rfl)) Tryd.func55 (by kernel_rfl) LL Ny ?_
  intro avs H r H' h
  unfold Nah at h
  split at h
  · refine Awp.cast ?_ ?_ ?_ (Nts _ h) <;> kernel_rfl
  · simp [Ans.no,Ans.run] at h

def Naj : Ann := (.seq (.leaf [0]) (.seq (.leaf [2]) (.leaf [2])))
noncomputable def Nd7 : Ctx := ⟨tlook tys,olook [],ioF,0,false,[]⟩
theorem Ns6 (a : Int) : Link Nd7 LL (bodyOf Tryd.f65) Naj ⟨mkE 6 0 [(0,dI a)],[]⟩ (Ndh a) (fun (t : Int) => (Exit.ret,⟨mkE 6 0 [(2,dW t)],[]⟩)) := .of fun K h => by
  simp only [Ndh,wpW] at h
  exact .of (by kernel_rfl) h
theorem Nvl (a : Int) {r : AV} {H' : Heap} (h : (Ans.mk _ (N28 a) (fun (t : Int) => (dW t,[])) [] none).run = some (r,H')) : Awp Nd7 LL (bodyOf Tryd.f65) Naj ⟨mkE 6 0 [(0,dI a)],[]⟩ (Ret (tlook tys) Tryd.f65.results.toList r H') :=
  ret_of' (Ns6 a) (by unfold N28; kernel_rfl) (by
  intro t
  exact ret_mk [dW t] (by kernel_rfl) (by kernel_rfl) (by kernel_rfl) (by kernel_rfl)) h
def N6p : Fun := fun avs H =>
  match avs,H with
  | [.dat (.int .i64) a],[] => ⟨_,N28 a,fun (t : Int) => (dW t,[]),[],none⟩
  | _,_ => Ans.no
theorem Nh7 : Sound Tryd.prog 65 N6p := by
  refine fn_sound' (C := Nd7) (c := bodyOf Tryd.f65) (cok_of tys_ok (alln) (alln) (by kernel_rfl)) Tryd.func65 (by kernel_rfl) LL Naj ?_
  intro avs H r H' h
  unfold N6p at h
  split at h
  · refine Awp.cast ?_ ?_ ?_ (Nvl _ h) <;> kernel_rfl
  · simp [Ans.no,Ans.run] at h

def N1h : Ann := (.seq (.leaf [0,1]) (.seq (.leaf [0,1,5]) (.seq (.seq (.leaf [0,1,5,8,9]) (.block (.loop (.seq (.leaf [0,1,5,8,9,10]) (.seq (.cond (.leaf [0,1,5,8,9]) (.leaf [5])) (.seq (.block (.seq (.leaf [0,1,5,6,8,9]) (.seq (.leaf [0,1,5,6,8,9,17]) (.cond (.leaf [0,1,5,8,9]) (.leaf [0,1,5,8,9]))))) (.leaf [0,1,5,8,9]))))))) (.seq (.leaf [4]) (.leaf [4])))))
noncomputable def N4k : Ctx := ⟨tlook tys,olook [(65,N6p)],ioF,0,false,[]⟩
theorem Npo (a : List Int) (b : Int) : Link N4k LL (Code.seq (cq [0] (bodyOf Tryd.f66)) (cq [0,1] (bodyOf Tryd.f66))) (Ann.seq (aq [0] N1h) (aq [0,1] N1h)) ⟨mkE 25 0 [(0,dL a),(1,dI b)],[]⟩ (N8z) (fun (t : Unit) => (Exit.normal,⟨mkE 25 0 [(0,dL a),(1,dI b),(5,dW 0)],[]⟩)) := .of fun K h => by
  simp only [N8z,wpW] at h
  exact .of (by kernel_rfl) h
theorem Nq9 (a : List Int) (b : Int) : Link N4k LL (cq [0,0,1,1] (bodyOf Tryd.f66)) (aq [0,0,1,1] N1h) ⟨mkE 25 0 [(0,dL a),(1,dI b),(5,dW 0)],[]⟩ (N88 a) (fun (t : Int) => (Exit.normal,⟨mkE 25 0 [(0,dL a),(1,dI b),(5,dW 0),(8,dI t),(9,dI 0)],[]⟩)) := .of fun K h => by
  simp only [N88,wpW] at h
  exact .of (by kernel_rfl) h
theorem Nxk (a : List Int) (b c d g : Int) : Link N4k LL (cq [0,0,1,0,1,1] (bodyOf Tryd.f66)) (aq [0,0,1,0,1,1] N1h) ⟨mkE 25 0 [(0,dL a),(1,dI b),(5,dW c),(8,dI d),(9,dI g)],[]⟩ (N4l a b c d g) (Sum.elim (fun (t : Int × Int) => (Exit.normal,⟨mkE 25 0 [(0,dL a),(1,dI b),(5,dW t.1),(8,dI d),(9,dI t.2)],[]⟩)) (fun (t : Int) => ((Exit.exit 0),⟨mkE 25 0 [(5,dW t)],[]⟩))) := .of fun K h => by
  simp only [N4l,wpW] at h
  exact .of (by kernel_rfl) h
theorem Nqe (a : Int) : Link N4k LL (cq [1,1,1] (bodyOf Tryd.f66)) (aq [1,1,1] N1h) ⟨mkE 25 0 [(5,dW a)],[]⟩ (Nb8 a) (fun (t : Int) => (Exit.ret,⟨mkE 25 0 [(4,dW t)],[]⟩)) := .of fun K h => by
  simp only [Nb8,wpW] at h
  exact .of (by kernel_rfl) h
theorem Njd (b : List Int) (d : Int) {r : AV} {H' : Heap} (h : (Ans.mk _ (N2b b d) (fun (t : Int) => (dW t,[])) [] none).run = some (r,H')) : Awp N4k LL (bodyOf Tryd.f66) N1h ⟨mkE 25 0 [(0,dL b),(1,dI d)],[]⟩ (Ret (tlook tys) Tryd.f66.results.toList r H') :=
  ret_of' (Link.cast (by kernel_rfl) (by kernel_rfl) (link_group (c := (cq [0,1] (bodyOf Tryd.f66))) (a := (aq [0,1] N1h)) [(cq [0] (bodyOf Tryd.f66))] [(aq [0] N1h)] rfl (link_seq (Npo b d) (fun (t : Unit) => (link_seq (link_seq (Nq9 b d) (fun (t : Int) => (link_block (fin2 := (fun (t21 : Int) => (Exit.normal,⟨mkE 25 0 [(5,dW t21)],[]⟩))) (id := 0) (link_loop (mk := fun (s : Int × Int) => ⟨mkE 25 0 [(0,dL b),(1,dI d),(5,dW s.1),(8,dI t),(9,dI s.2)],[]⟩) (fin := (fun (t21 : Int) => ((Exit.exit 0),⟨mkE 25 0 [(5,dW t21)],[]⟩))) (by
  rintro t21 f K h
  · exact h) (fun s => link_map (Nxk b d s.1 t s.2) (Sum.elim (fun (t21 : Int × Int) => Sum.inl (t21.1,t21.2)) (fun (t21 : Int) => Sum.inr t21)) (by
  rintro (t21 | t21)
  · kernel_rfl
  · kernel_rfl)) (0,0)) (fun (t21 : Int) => t21) (by
  rintro t21 K h
  · exact Eq.mp (by kernel_rfl) h)))) (fun (t : Int) => (Nqe t))))))) (by unfold N2b; kernel_rfl) (by
  intro t
  exact ret_mk [dW t] (by kernel_rfl) (by kernel_rfl) (by kernel_rfl) (by kernel_rfl)) h
def Nbc : Fun := fun avs H =>
  match avs,H with
  | [.dat (.list (.int .i64)) a,.dat (.int .i64) b],[] => ⟨_,N2b a b,fun (t : Int) => (dW t,[]),[],none⟩
  | _,_ => Ans.no
theorem Nuu : Sound Tryd.prog 66 Nbc := by
  refine fn_sound' (C := N4k) (c := bodyOf Tryd.f66) (cok_of tys_ok (allc Nh7 alln) (allc Tryd.call65 alln) (by kernel_rfl)) Tryd.func66 (by kernel_rfl) LL N1h ?_
  intro avs H r H' h
  unfold Nbc at h
  split at h
  · refine Awp.cast ?_ ?_ ?_ (Njd _ _ h) <;> kernel_rfl
  · simp [Ans.no,Ans.run] at h

def Nbv : Ann := (.seq (.leaf [0]) (.seq (.leaf [2]) (.leaf [2])))
noncomputable def N9h : Ctx := ⟨tlook tys,olook [(65,N6p)],ioF,0,false,[]⟩
theorem Nun (a : Int) : Link N9h LL (bodyOf Tryd.f89) Nbv ⟨mkE 6 0 [(0,dI a)],[]⟩ (Na2 a) (fun (t : Int) => (Exit.ret,⟨mkE 6 0 [(2,dW t)],[]⟩)) := .of fun K h => by
  simp only [Na2,wpW] at h
  exact .of (by kernel_rfl) h
theorem Nvj (a : Int) {r : AV} {H' : Heap} (h : (Ans.mk _ (N26 a) (fun (t : Int) => (dW t,[])) [] none).run = some (r,H')) : Awp N9h LL (bodyOf Tryd.f89) Nbv ⟨mkE 6 0 [(0,dI a)],[]⟩ (Ret (tlook tys) Tryd.f89.results.toList r H') :=
  ret_of' (Nun a) (by unfold N26; kernel_rfl) (by
  intro t
  exact ret_mk [dW t] (by kernel_rfl) (by kernel_rfl) (by kernel_rfl) (by kernel_rfl)) h
def Nax : Fun := fun avs H =>
  match avs,H with
  | [.dat (.int .i64) a],[] => ⟨_,N26 a,fun (t : Int) => (dW t,[]),[],none⟩
  | _,_ => Ans.no
theorem Njq : Sound Tryd.prog 89 Nax := by
  refine fn_sound' (C := N9h) (c := bodyOf Tryd.f89) (cok_of tys_ok (allc Nh7 alln) (allc Tryd.call65 alln) (by kernel_rfl)) Tryd.func89 (by kernel_rfl) LL Nbv ?_
  intro avs H r H' h
  unfold Nax at h
  split at h
  · refine Awp.cast ?_ ?_ ?_ (Nvj _ h) <;> kernel_rfl
  · simp [Ans.no,Ans.run] at h

def Ndn : Ann := (.seq (.leaf [0,1]) (.seq (.leaf [1,6]) (.seq (.leaf [4,5]) (.leaf [4,5]))))
noncomputable def Nbb : Ctx := ⟨tlook tys,olook [(66,Nbc),(89,Nax)],ioF,0,false,[]⟩
theorem Nmn (a : List Int) (b : Int) : Link Nbb LL (bodyOf Tryd.f85) Ndn ⟨mkE 18 0 [(0,dL a),(1,dI b)],[]⟩ (N59 a b) (fun (t : Int × Int) => (Exit.ret,⟨mkE 18 0 [(4,dW t.1),(5,dW t.2)],[]⟩)) := .of fun K h => by
  simp only [N59,wpW] at h
  exact .of (by kernel_rfl) h
theorem Nlu (a : List Int) (b : Int) {r : AV} {H' : Heap} (h : (Ans.mk _ (N2t a b) (fun (t : Int × Int) => (.tup [dW t.1,dW t.2],[])) [] none).run = some (r,H')) : Awp Nbb LL (bodyOf Tryd.f85) Ndn ⟨mkE 18 0 [(0,dL a),(1,dI b)],[]⟩ (Ret (tlook tys) Tryd.f85.results.toList r H') :=
  ret_of' (Nmn a b) (by unfold N2t; kernel_rfl) (by
  intro t
  exact ret_mk [dW t.1,dW t.2] (by kernel_rfl) (by kernel_rfl) (by kernel_rfl) (by kernel_rfl)) h
def Ncj : Fun := fun avs H =>
  match avs,H with
  | [.dat (.list (.int .i64)) a,.dat (.int .i64) b],[] => ⟨_,N2t a b,fun (t : Int × Int) => (.tup [dW t.1,dW t.2],[]),[],none⟩
  | _,_ => Ans.no
theorem Nw5 : Sound Tryd.prog 85 Ncj := by
  refine fn_sound' (C := Nbb) (c := bodyOf Tryd.f85) (cok_of tys_ok (allc Nuu (allc Njq alln)) (allc Tryd.call66 (allc Tryd.call89 alln)) (by kernel_rfl)) Tryd.func85 (by kernel_rfl) LL Ndn ?_
  intro avs H r H' h
  unfold Ncj at h
  split at h
  · refine Awp.cast ?_ ?_ ?_ (Nlu _ _ h) <;> kernel_rfl
  · simp [Ans.no,Ans.run] at h

def Nd : Ann := (.seq (.leaf [0]) (.seq (.leaf [0]) (.seq (.leaf [0]) (.seq (.leaf [0]) (.seq (.leaf [0]) (.seq (.leaf [0]) (.seq (.leaf [0]) (.seq (.leaf [2]) (.leaf [2])))))))))
noncomputable def Nw : Ctx := ⟨tlook tys,olook [],ioF,0,false,[]⟩
theorem Nwe (a : Int) : Link Nw LL (Code.seq (cq [0] (bodyOf Tryd.f88)) (cq [0,1] (bodyOf Tryd.f88))) (Ann.seq (aq [0] Nd) (aq [0,1] Nd)) ⟨mkE 35 0 [(0,dW a)],[]⟩ (Naz a) (fun (t : Int) => (Exit.normal,⟨mkE 35 0 [(0,dW t)],[]⟩)) := .of fun K h => by
  simp only [Naz,wpW] at h
  exact .of (by kernel_rfl) h
theorem Nmj (a : Int) : Link Nw LL (cq [0,1,1] (bodyOf Tryd.f88)) (aq [0,1,1] Nd) ⟨mkE 35 0 [(0,dW a)],[]⟩ (Ncx a) (fun (t : Int) => (Exit.normal,⟨mkE 35 0 [(0,dW t)],[]⟩)) := .of fun K h => by
  simp only [Ncx,wpW] at h
  exact .of (by kernel_rfl) h
theorem Nup (a : Int) : Link Nw LL (cq [0,1,1,1] (bodyOf Tryd.f88)) (aq [0,1,1,1] Nd) ⟨mkE 35 0 [(0,dW a)],[]⟩ (Nbe a) (fun (t : Int) => (Exit.normal,⟨mkE 35 0 [(0,dW t)],[]⟩)) := .of fun K h => by
  simp only [Nbe,wpW] at h
  exact .of (by kernel_rfl) h
theorem Nx5 (a : Int) : Link Nw LL (cq [0,1,1,1,1] (bodyOf Tryd.f88)) (aq [0,1,1,1,1] Nd) ⟨mkE 35 0 [(0,dW a)],[]⟩ (Nbn a) (fun (t : Int) => (Exit.normal,⟨mkE 35 0 [(0,dW t)],[]⟩)) := .of fun K h => by
  simp only [Nbn,wpW] at h
  exact .of (by kernel_rfl) h
theorem Nr2 (a : Int) : Link Nw LL (cq [0,1,1,1,1,1] (bodyOf Tryd.f88)) (aq [0,1,1,1,1,1] Nd) ⟨mkE 35 0 [(0,dW a)],[]⟩ (Nby a) (fun (t : Int) => (Exit.normal,⟨mkE 35 0 [(0,dW t)],[]⟩)) := .of fun K h => by
  simp only [Nby,wpW] at h
  exact .of (by kernel_rfl) h
theorem Nk2 (a : Int) : Link Nw LL (cq [0,1,1,1,1,1,1] (bodyOf Tryd.f88)) (aq [0,1,1,1,1,1,1] Nd) ⟨mkE 35 0 [(0,dW a)],[]⟩ (Ncn a) (fun (t : Int) => (Exit.normal,⟨mkE 35 0 [(0,dW t)],[]⟩)) := .of fun K h => by
  simp only [Ncn,wpW] at h
  exact .of (by kernel_rfl) h
theorem Nwp (a : Int) : Link Nw LL (cq [0,1,1,1,1,1,1,1] (bodyOf Tryd.f88)) (aq [0,1,1,1,1,1,1,1] Nd) ⟨mkE 35 0 [(0,dW a)],[]⟩ (Nd5 a) (fun (t : Int) => (Exit.normal,⟨mkE 35 0 [(2,dI t)],[]⟩)) := .of fun K h => by
  simp only [Nd5,wpW] at h
  exact .of (by kernel_rfl) h
theorem Nuj (a : Int) : Link Nw LL (cq [1,1,1,1,1,1,1,1] (bodyOf Tryd.f88)) (aq [1,1,1,1,1,1,1,1] Nd) ⟨mkE 35 0 [(2,dI a)],[]⟩ (N9w a) (fun (t : Int) => (Exit.ret,⟨mkE 35 0 [(2,dI t)],[]⟩)) := .of fun K h => by
  simp only [N9w,wpW] at h
  exact .of (by kernel_rfl) h
theorem Nlb (b : Int) {r : AV} {H' : Heap} (h : (Ans.mk _ (N7g b) (fun (t : Int) => (dI t,[])) [] none).run = some (r,H')) : Awp Nw LL (bodyOf Tryd.f88) Nd ⟨mkE 35 0 [(0,dW b)],[]⟩ (Ret (tlook tys) Tryd.f88.results.toList r H') :=
  ret_of' (Link.cast (by kernel_rfl) (by kernel_rfl) (link_group (c := (cq [0,1] (bodyOf Tryd.f88))) (a := (aq [0,1] Nd)) [(cq [0] (bodyOf Tryd.f88))] [(aq [0] Nd)] rfl (link_seq (Nwe b) (fun (t : Int) => (link_seq (Nmj t) (fun (t22 : Int) => (link_seq (Nup t22) (fun (t4 : Int) => (link_seq (Nx5 t4) (fun (t : Int) => (link_seq (Nr2 t) (fun (t3 : Int) => (link_seq (Nk2 t3) (fun (t : Int) => (link_seq (Nwp t) (fun (t2 : Int) => (Nuj t2))))))))))))))))) (by unfold N7g; kernel_rfl) (by
  intro t
  exact ret_mk [dI t] (by kernel_rfl) (by kernel_rfl) (by kernel_rfl) (by kernel_rfl)) h
def N9r : Fun := fun avs H =>
  match avs,H with
  | [.dat (.int .u64) a],[] => ⟨_,N7g a,fun (t : Int) => (dI t,[]),[],none⟩
  | _,_ => Ans.no
theorem Noz : Sound Tryd.prog 88 N9r := by
  refine fn_sound' (C := Nw) (c := bodyOf Tryd.f88) (cok_of tys_ok (alln) (alln) (by kernel_rfl)) Tryd.func88 (by kernel_rfl) LL Nd ?_
  intro avs H r H' h
  unfold N9r at h
  split at h
  · refine Awp.cast ?_ ?_ ?_ (Nlb _ h) <;> kernel_rfl
  · simp [Ans.no,Ans.run] at h

def N9k : Ann := (.seq (.leaf [0]) (.seq (.cond (.seq (.leaf [2]) (.leaf [2])) (.leaf [0])) (.seq (.leaf [2]) (.leaf [2]))))
noncomputable def Ncw : Ctx := ⟨tlook tys,olook [(88,N9r)],ioF,0,false,[]⟩
theorem Nr6 (a : Int) : Link Ncw LL (bodyOf Tryd.f82) N9k ⟨mkE 8 0 [(0,dW a)],[]⟩ (Na0 a) (fun (t : Int) => (Exit.ret,⟨mkE 8 0 [(2,dI t)],[]⟩)) := .of fun K h => by
  simp only [Na0,wpW] at h
  exact .of (by kernel_rfl) h
theorem No7 (a : Int) {r : AV} {H' : Heap} (h : (Ans.mk _ (N6o a) (fun (t : Int) => (dI t,[])) [] none).run = some (r,H')) : Awp Ncw LL (bodyOf Tryd.f82) N9k ⟨mkE 8 0 [(0,dW a)],[]⟩ (Ret (tlook tys) Tryd.f82.results.toList r H') :=
  ret_of' (Nr6 a) (by unfold N6o; kernel_rfl) (by
  intro t
  exact ret_mk [dI t] (by kernel_rfl) (by kernel_rfl) (by kernel_rfl) (by kernel_rfl)) h
def Ne8 : Fun := fun avs H =>
  match avs,H with
  | [.dat (.int .u64) a],[] => ⟨_,N6o a,fun (t : Int) => (dI t,[]),[],none⟩
  | _,_ => Ans.no
theorem Nud : Sound Tryd.prog 82 Ne8 := by
  refine fn_sound' (C := Ncw) (c := bodyOf Tryd.f82) (cok_of tys_ok (allc Noz alln) (allc Tryd.call88 alln) (by kernel_rfl)) Tryd.func82 (by kernel_rfl) LL N9k ?_
  intro avs H r H' h
  unfold Ne8 at h
  split at h
  · refine Awp.cast ?_ ?_ ?_ (No7 _ h) <;> kernel_rfl
  · simp [Ans.no,Ans.run] at h

def Nc0 : Ann := (.seq (.leaf [0]) (.seq (.leaf [2]) (.leaf [2])))
noncomputable def Ncm : Ctx := ⟨tlook tys,olook [(82,Ne8)],ioF,0,false,[]⟩
theorem Nvx (a : Int) : Link Ncm LL (bodyOf Tryd.f75) Nc0 ⟨mkE 5 0 [(0,dW a)],[]⟩ (Nci a) (fun (t : Int) => (Exit.ret,⟨mkE 5 0 [(2,dI t)],[]⟩)) := .of fun K h => by
  simp only [Nci,wpW] at h
  exact .of (by kernel_rfl) h
theorem Nni (a : Int) {r : AV} {H' : Heap} (h : (Ans.mk _ (N68 a) (fun (t : Int) => (dI t,[])) [] none).run = some (r,H')) : Awp Ncm LL (bodyOf Tryd.f75) Nc0 ⟨mkE 5 0 [(0,dW a)],[]⟩ (Ret (tlook tys) Tryd.f75.results.toList r H') :=
  ret_of' (Nvx a) (by unfold N68; kernel_rfl) (by
  intro t
  exact ret_mk [dI t] (by kernel_rfl) (by kernel_rfl) (by kernel_rfl) (by kernel_rfl)) h
def Nal : Fun := fun avs H =>
  match avs,H with
  | [.dat (.int .u64) a],[] => ⟨_,N68 a,fun (t : Int) => (dI t,[]),[],none⟩
  | _,_ => Ans.no
theorem Nsw : Sound Tryd.prog 75 Nal := by
  refine fn_sound' (C := Ncm) (c := bodyOf Tryd.f75) (cok_of tys_ok (allc Nud alln) (allc Tryd.call82 alln) (by kernel_rfl)) Tryd.func75 (by kernel_rfl) LL Nc0 ?_
  intro avs H r H' h
  unfold Nal at h
  split at h
  · refine Awp.cast ?_ ?_ ?_ (Nni _ h) <;> kernel_rfl
  · simp [Ans.no,Ans.run] at h

def Nb1 : Ann := (.seq (.leaf [0]) (.seq (.seq (.leaf [0,4]) (.cond (.seq (.leaf [2]) (.leaf [2])) (.leaf [0]))) (.seq (.leaf [2]) (.leaf [2]))))
noncomputable def Nbj : Ctx := ⟨tlook tys,olook [],ioF,0,false,[]⟩
theorem Njn (a : Int) : Link Nbj LL (bodyOf Tryd.f84) Nb1 ⟨mkE 14 0 [(0,dW a)],[]⟩ (Nck a) (fun (t : Int) => (Exit.ret,⟨mkE 14 0 [(2,dI t)],[]⟩)) := .of fun K h => by
  simp only [Nck,wpW] at h
  exact .of (by kernel_rfl) h
theorem Nwk (a : Int) {r : AV} {H' : Heap} (h : (Ans.mk _ (N87 a) (fun (t : Int) => (dI t,[])) [] none).run = some (r,H')) : Awp Nbj LL (bodyOf Tryd.f84) Nb1 ⟨mkE 14 0 [(0,dW a)],[]⟩ (Ret (tlook tys) Tryd.f84.results.toList r H') :=
  ret_of' (Njn a) (by unfold N87; kernel_rfl) (by
  intro t
  exact ret_mk [dI t] (by kernel_rfl) (by kernel_rfl) (by kernel_rfl) (by kernel_rfl)) h
def Na7 : Fun := fun avs H =>
  match avs,H with
  | [.dat (.int .u64) a],[] => ⟨_,N87 a,fun (t : Int) => (dI t,[]),[],none⟩
  | _,_ => Ans.no
theorem Ntt : Sound Tryd.prog 84 Na7 := by
  refine fn_sound' (C := Nbj) (c := bodyOf Tryd.f84) (cok_of tys_ok (alln) (alln) (by kernel_rfl)) Tryd.func84 (by kernel_rfl) LL Nb1 ?_
  intro avs H r H' h
  unfold Na7 at h
  split at h
  · refine Awp.cast ?_ ?_ ?_ (Nwk _ h) <;> kernel_rfl
  · simp [Ans.no,Ans.run] at h

def Naf : Ann := (.seq (.leaf [0]) (.seq (.cond (.seq (.leaf [2]) (.leaf [2])) (.leaf [0])) (.seq (.leaf [2]) (.leaf [2]))))
noncomputable def Ndt : Ctx := ⟨tlook tys,olook [(84,Na7)],ioF,0,false,[]⟩
theorem Nwt (a : Int) : Link Ndt LL (bodyOf Tryd.f76) Naf ⟨mkE 8 0 [(0,dW a)],[]⟩ (Nae a) (fun (t : Int) => (Exit.ret,⟨mkE 8 0 [(2,dI t)],[]⟩)) := .of fun K h => by
  simp only [Nae,wpW] at h
  exact .of (by kernel_rfl) h
theorem Nm8 (a : Int) {r : AV} {H' : Heap} (h : (Ans.mk _ (N62 a) (fun (t : Int) => (dI t,[])) [] none).run = some (r,H')) : Awp Ndt LL (bodyOf Tryd.f76) Naf ⟨mkE 8 0 [(0,dW a)],[]⟩ (Ret (tlook tys) Tryd.f76.results.toList r H') :=
  ret_of' (Nwt a) (by unfold N62; kernel_rfl) (by
  intro t
  exact ret_mk [dI t] (by kernel_rfl) (by kernel_rfl) (by kernel_rfl) (by kernel_rfl)) h
def Nd2 : Fun := fun avs H =>
  match avs,H with
  | [.dat (.int .u64) a],[] => ⟨_,N62 a,fun (t : Int) => (dI t,[]),[],none⟩
  | _,_ => Ans.no
theorem Nsg : Sound Tryd.prog 76 Nd2 := by
  refine fn_sound' (C := Ndt) (c := bodyOf Tryd.f76) (cok_of tys_ok (allc Ntt alln) (allc Tryd.call84 alln) (by kernel_rfl)) Tryd.func76 (by kernel_rfl) LL Naf ?_
  intro avs H r H' h
  unfold Nd2 at h
  split at h
  · refine Awp.cast ?_ ?_ ?_ (Nm8 _ h) <;> kernel_rfl
  · simp [Ans.no,Ans.run] at h

def N1m : Ann := (.seq (.leaf [0]) (.seq (.leaf [0,3]) (.seq (.seq (.leaf [3,4]) (.block (.loop (.seq (.seq (.leaf [3,4,10]) (.cond (.leaf [3,4]) (.leaf [3]))) (.seq (.block (.leaf [3,4])) (.leaf [3,4])))))) (.seq (.leaf [2]) (.leaf [2])))))
noncomputable def N3w : Ctx := ⟨tlook tys,olook [(75,Nal),(76,Nd2)],ioF,0,false,[]⟩
theorem Nr7 (a : Int) : Link N3w LL (Code.seq (cq [0] (bodyOf Tryd.f67)) (cq [0,1] (bodyOf Tryd.f67))) (Ann.seq (aq [0] N1m) (aq [0,1] N1m)) ⟨mkE 22 0 [(0,dW a)],[]⟩ (Ndw a) (fun (t : (List Int)) => (Exit.normal,⟨mkE 22 0 [(0,dW a),(3,.slc 0)],[some (sI t)]⟩)) := .of fun K h => by
  simp only [Ndw,wpW] at h
  exact .of (by kernel_rfl) h
theorem Nl9 (a : Int) (b : List Int) : Link N3w LL (cq [0,0,1,1] (bodyOf Tryd.f67)) (aq [0,0,1,1] N1m) ⟨mkE 22 0 [(0,dW a),(3,.slc 0)],[some (sI b)]⟩ (Ndy) (fun (t : Unit) => (Exit.normal,⟨mkE 22 0 [(3,.slc 0),(4,dW a)],[some (sI b)]⟩)) := .of fun K h => by
  simp only [Ndy,wpW] at h
  exact .of (by kernel_rfl) h
theorem Njv (a : Int) (b : List Int) : Link N3w LL (cq [0,0,1,0,1,1] (bodyOf Tryd.f67)) (aq [0,0,1,0,1,1] N1m) ⟨mkE 22 0 [(3,.slc 0),(4,dW a)],[some (sI b)]⟩ (Nbf a b) (Sum.elim (fun (t : Int × (List Int)) => (Exit.normal,⟨mkE 22 0 [(3,.slc 0),(4,dW t.1)],[some (sI t.2)]⟩)) (fun (t : (List Int)) => ((Exit.exit 0),⟨mkE 22 0 [(3,.slc 0)],[some (sI t)]⟩))) := .of fun K h => by
  simp only [Nbf,wpW] at h
  exact .of (by kernel_rfl) h
theorem Ns0 (a : List Int) : Link N3w LL (cq [1,1,1] (bodyOf Tryd.f67)) (aq [1,1,1] N1m) ⟨mkE 22 0 [(3,.slc 0)],[some (sI a)]⟩ (N9t a) (fun (t : (List Int)) => (Exit.ret,⟨mkE 22 0 [(2,.slc 0)],[some (sI t)]⟩)) := .of fun K h => by
  simp only [N9t,wpW] at h
  exact .of (by kernel_rfl) h
theorem Nnk (b : Int) {r : AV} {H' : Heap} (h : (Ans.mk _ (N36 b) (fun (t : (List Int)) => (.slc 0,[some (sI t)])) [] none).run = some (r,H')) : Awp N3w LL (bodyOf Tryd.f67) N1m ⟨mkE 22 0 [(0,dW b)],[]⟩ (Ret (tlook tys) Tryd.f67.results.toList r H') :=
  ret_of' (Link.cast (by kernel_rfl) (by kernel_rfl) (link_group (c := (cq [0,1] (bodyOf Tryd.f67))) (a := (aq [0,1] N1m)) [(cq [0] (bodyOf Tryd.f67))] [(aq [0] N1m)] rfl (link_seq (Nr7 b) (fun (t : (List Int)) => (link_seq (link_seq (Nl9 b t) (fun (t41 : Unit) => (link_block (fin2 := (fun (t41 : (List Int)) => (Exit.normal,⟨mkE 22 0 [(3,.slc 0)],[some (sI t41)]⟩))) (id := 0) (link_loop (mk := fun (s : Int × (List Int)) => ⟨mkE 22 0 [(3,.slc 0),(4,dW s.1)],[some (sI s.2)]⟩) (fin := (fun (t41 : (List Int)) => ((Exit.exit 0),⟨mkE 22 0 [(3,.slc 0)],[some (sI t41)]⟩))) (by
  rintro t41 f K h
  · exact h) (fun s => link_map (Njv s.1 s.2) (Sum.elim (fun (t41 : Int × (List Int)) => Sum.inl (t41.1,t41.2)) (fun (t41 : (List Int)) => Sum.inr t41)) (by
  rintro (t41 | t41)
  · kernel_rfl
  · kernel_rfl)) (b,t)) (fun (t41 : (List Int)) => t41) (by
  rintro t41 K h
  · exact Eq.mp (by kernel_rfl) h)))) (fun (t41 : (List Int)) => (Ns0 t41))))))) (by unfold N36; kernel_rfl) (by
  intro t
  exact ret_mk [.slc 0] (by kernel_rfl) (by kernel_rfl) (by kernel_rfl) (by kernel_rfl)) h
def Nb3 : Fun := fun avs H =>
  match avs,H with
  | [.dat (.int .u64) a],[] => ⟨_,N36 a,fun (t : (List Int)) => (.slc 0,[some (sI t)]),[],none⟩
  | _,_ => Ans.no
theorem Nvi : Sound Tryd.prog 67 Nb3 := by
  refine fn_sound' (C := N3w) (c := bodyOf Tryd.f67) (cok_of tys_ok (allc Nsw (allc Nsg alln)) (allc Tryd.call75 (allc Tryd.call76 alln)) (by kernel_rfl)) Tryd.func67 (by kernel_rfl) LL N1m ?_
  intro avs H r H' h
  unfold Nb3 at h
  split at h
  · refine Awp.cast ?_ ?_ ?_ (Nnk _ h) <;> kernel_rfl
  · simp [Ans.no,Ans.run] at h

end Go.Rv
