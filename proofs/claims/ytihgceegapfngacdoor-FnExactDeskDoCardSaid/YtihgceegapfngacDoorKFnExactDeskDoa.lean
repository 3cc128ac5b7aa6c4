/-
  The checked code answers as the plain functions do; written by program. Conditions: none.
-/
import Derived.Test.YtihgceegapfngacDoorGFnExactDeskDo
import Derived.Test.YtihgceegapfngacDoorFB
import Derived.Test.YtihgceegapfngacDoorProg
set_option linter.unusedVariables false
set_option linter.unusedSimpArgs false
set_option linter.defProp false
set_option maxRecDepth 100000
namespace Go.Rv
open Go.Proofs
theorem ty3 : TIOk Tryd.prog 3 ⟨.int .i64,1,8,some (.int .i64),[.int .i64 0],false⟩ := ⟨⟨infoOf (Tryd.prog.info? 3),by kernel_rfl,by kernel_rfl,by kernel_rfl,.int .i64 0,by kernel_rfl,by kernel_rfl⟩,(by kernel_rfl : Tryd.prog.underlying 3 = some (.int .i64)),no_eq⟩
theorem ty4 : TIOk Tryd.prog 4 ⟨.bool,1,1,some .bool,[.bool false],false⟩ := ⟨⟨infoOf (Tryd.prog.info? 4),by kernel_rfl,by kernel_rfl,by kernel_rfl,.bool false,by kernel_rfl,by kernel_rfl⟩,(by kernel_rfl : Tryd.prog.underlying 4 = some .bool),no_eq⟩
theorem ty5 : TIOk Tryd.prog 5 ⟨.int .u8,1,1,some (.int .u8),[.int .u8 0],false⟩ := ⟨⟨infoOf (Tryd.prog.info? 5),by kernel_rfl,by kernel_rfl,by kernel_rfl,.int .u8 0,by kernel_rfl,by kernel_rfl⟩,(by kernel_rfl : Tryd.prog.underlying 5 = some (.int .u8)),no_eq⟩
theorem ty22 : TIOk Tryd.prog 22 ⟨.slice 3,1,24,some (.list (.int .i64)),[.slice none 0 0],false⟩ := ⟨⟨infoOf (Tryd.prog.info? 22),by kernel_rfl,by kernel_rfl,by kernel_rfl,.slice none 0 0,by kernel_rfl,by kernel_rfl⟩,(by kernel_rfl : Tryd.prog.underlying 22 = some (.slice 3)),no_eq⟩
theorem ty23 : TIOk Tryd.prog 23 ⟨.slice 22,1,24,some (.list (.list (.int .i64))),[.slice none 0 0],false⟩ := ⟨⟨infoOf (Tryd.prog.info? 23),by kernel_rfl,by kernel_rfl,by kernel_rfl,.slice none 0 0,by kernel_rfl,by kernel_rfl⟩,(by kernel_rfl : Tryd.prog.underlying 23 = some (.slice 22)),no_eq⟩
theorem ty25 : TIOk Tryd.prog 25 ⟨.strct [(0,22),(1,23)],2,48,some (.pair (.list (.int .i64)) (.pair (.list (.list (.int .i64))) .unit)),[.slice none 0 0,.slice none 0 0],false⟩ := ⟨⟨infoOf (Tryd.prog.info? 25),by kernel_rfl,by kernel_rfl,by kernel_rfl,.agg #[.slice none 0 0,.slice none 0 0],by kernel_rfl,by kernel_rfl⟩,⟨fieldsOf (Tryd.prog.underlying 25),by kernel_rfl,by kernel_rfl⟩,no_eq⟩
theorem ty27 : TIOk Tryd.prog 27 ⟨.strct [(0,3),(1,3),(2,3)],3,24,some (.pair (.int .i64) (.pair (.int .i64) (.pair (.int .i64) .unit))),[.int .i64 0,.int .i64 0,.int .i64 0],false⟩ := ⟨⟨infoOf (Tryd.prog.info? 27),by kernel_rfl,by kernel_rfl,by kernel_rfl,.agg #[.int .i64 0,.int .i64 0,.int .i64 0],by kernel_rfl,by kernel_rfl⟩,⟨fieldsOf (Tryd.prog.underlying 27),by kernel_rfl,by kernel_rfl⟩,no_eq⟩
theorem ty29 : TIOk Tryd.prog 29 ⟨.strct [(0,22),(1,23)],2,48,some (.pair (.list (.int .i64)) (.pair (.list (.list (.int .i64))) .unit)),[.slice none 0 0,.slice none 0 0],false⟩ := ⟨⟨infoOf (Tryd.prog.info? 29),by kernel_rfl,by kernel_rfl,by kernel_rfl,.agg #[.slice none 0 0,.slice none 0 0],by kernel_rfl,by kernel_rfl⟩,⟨fieldsOf (Tryd.prog.underlying 29),by kernel_rfl,by kernel_rfl⟩,no_eq⟩
theorem ty33 : TIOk Tryd.prog 33 ⟨.strct [(0,3),(1,3),(2,3)],3,24,some (.pair (.int .i64) (.pair (.int .i64) (.pair (.int .i64) .unit))),[.int .i64 0,.int .i64 0,.int .i64 0],true⟩ := ⟨⟨infoOf (Tryd.prog.info? 33),by kernel_rfl,by kernel_rfl,by kernel_rfl,.agg #[.int .i64 0,.int .i64 0,.int .i64 0],by kernel_rfl,by kernel_rfl⟩,⟨fieldsOf (Tryd.prog.underlying 33),by kernel_rfl,by kernel_rfl⟩,fun _ => by kernel_rfl⟩
theorem ty38 : TIOk Tryd.prog 38 ⟨.slice 27,1,24,some (.list (.pair (.int .i64) (.pair (.int .i64) (.pair (.int .i64) .unit)))),[.slice none 0 0],false⟩ := ⟨⟨infoOf (Tryd.prog.info? 38),by kernel_rfl,by kernel_rfl,by kernel_rfl,.slice none 0 0,by kernel_rfl,by kernel_rfl⟩,(by kernel_rfl : Tryd.prog.underlying 38 = some (.slice 27)),no_eq⟩
theorem ty42 : TIOk Tryd.prog 42 ⟨.slice 33,1,24,some (.list (.pair (.int .i64) (.pair (.int .i64) (.pair (.int .i64) .unit)))),[.slice none 0 0],false⟩ := ⟨⟨infoOf (Tryd.prog.info? 42),by kernel_rfl,by kernel_rfl,by kernel_rfl,.slice none 0 0,by kernel_rfl,by kernel_rfl⟩,(by kernel_rfl : Tryd.prog.underlying 42 = some (.slice 33)),no_eq⟩
theorem ty72 : TIOk Tryd.prog 72 ⟨.strct [(0,22),(1,3),(2,3)],3,40,some (.pair (.list (.int .i64)) (.pair (.int .i64) (.pair (.int .i64) .unit))),[.slice none 0 0,.int .i64 0,.int .i64 0],false⟩ := ⟨⟨infoOf (Tryd.prog.info? 72),by kernel_rfl,by kernel_rfl,by kernel_rfl,.agg #[.slice none 0 0,.int .i64 0,.int .i64 0],by kernel_rfl,by kernel_rfl⟩,⟨fieldsOf (Tryd.prog.underlying 72),by kernel_rfl,by kernel_rfl⟩,no_eq⟩
theorem ty77 : TIOk Tryd.prog 77 ⟨.arr 9 4,9,9,none,[.bool false,.bool false,.bool false,.bool false,.bool false,.bool false,.bool false,.bool false,.bool false],false⟩ := ⟨⟨infoOf (Tryd.prog.info? 77),by kernel_rfl,by kernel_rfl,by kernel_rfl,.agg #[.bool false,.bool false,.bool false,.bool false,.bool false,.bool false,.bool false,.bool false,.bool false],by kernel_rfl,by kernel_rfl⟩,(by kernel_rfl : Tryd.prog.underlying 77 = some (.array 9 4)),no_eq⟩
theorem ty79 : TIOk Tryd.prog 79 ⟨.int .u64,1,8,some (.int .u64),[.int .u64 0],false⟩ := ⟨⟨infoOf (Tryd.prog.info? 79),by kernel_rfl,by kernel_rfl,by kernel_rfl,.int .u64 0,by kernel_rfl,by kernel_rfl⟩,(by kernel_rfl : Tryd.prog.underlying 79 = some (.int .u64)),no_eq⟩
theorem ty91 : TIOk Tryd.prog 91 ⟨.int .u64,1,8,some (.int .u64),[.int .u64 0],false⟩ := ⟨⟨infoOf (Tryd.prog.info? 91),by kernel_rfl,by kernel_rfl,by kernel_rfl,.int .u64 0,by kernel_rfl,by kernel_rfl⟩,(by kernel_rfl : Tryd.prog.underlying 91 = some (.int .u64)),no_eq⟩
theorem ty93 : TIOk Tryd.prog 93 ⟨.arr 64 5,64,64,none,[.int .u8 0,.int .u8 0,.int .u8 0,.int .u8 0,.int .u8 0,.int .u8 0,.int .u8 0,.int .u8 0,.int .u8 0,.int .u8 0,.int .u8 0,.int .u8 0,.int .u8 0,.int .u8 0,.int .u8 0,.int .u8 0,.int .u8 0,.int .u8 0,.int .u8 0,.int .u8 0,.int .u8 0,.int .u8 0,.int .u8 0,.int .u8 0,.int .u8 0,.int .u8 0,.int .u8 0,.int .u8 0,.int .u8 0,.int .u8 0,.int .u8 0,.int .u8 0,.int .u8 0,.int .u8 0,.int .u8 0,.int .u8 0,.int .u8 0,.int .u8 0,.int .u8 0,.int .u8 0,.int .u8 0,.int .u8 0,.int .u8 0,.int .u8 0,.int .u8 0,.int .u8 0,.int .u8 0,.int .u8 0,.int .u8 0,.int .u8 0,.int .u8 0,.int .u8 0,.int .u8 0,.int .u8 0,.int .u8 0,.int .u8 0,.int .u8 0,.int .u8 0,.int .u8 0,.int .u8 0,.int .u8 0,.int .u8 0,.int .u8 0,.int .u8 0],false⟩ := ⟨⟨infoOf (Tryd.prog.info? 93),by kernel_rfl,by kernel_rfl,by kernel_rfl,.agg #[.int .u8 0,.int .u8 0,.int .u8 0,.int .u8 0,.int .u8 0,.int .u8 0,.int .u8 0,.int .u8 0,.int .u8 0,.int .u8 0,.int .u8 0,.int .u8 0,.int .u8 0,.int .u8 0,.int .u8 0,.int .u8 0,.int .u8 0,.int .u8 0,.int .u8 0,.int .u8 0,.int .u8 0,.int .u8 0,.int .u8 0,.int .u8 0,.int .u8 0,.int .u8 0,.int .u8 0,.int .u8 0,.int .u8 0,.int .u8 0,.int .u8 0,.int .u8 0,.int .u8 0,.int .u8 0,.int .u8 0,.int .u8 0,.int .u8 0,.int .u8 0,.int .u8 0,.int .u8 0,.int .u8 0,.int .u8 0,.int .u8 0,.int .u8 0,.int .u8 0,.int .u8 0,.int .u8 0,.int .u8 0,.int .u8 0,.int .u8 0,.int .u8 0,.int .u8 0,.int .u8 0,.int .u8 0,.int .u8 0,.int .u8 0,.int .u8 0,.int .u8 0,.int .u8 0,.int .u8 0,.int .u8 0,.int .u8 0,.int .u8 0,.int .u8 0],by kernel_rfl,by kernel_rfl⟩,(by kernel_rfl : Tryd.prog.underlying 93 = some (.array 64 5)),no_eq⟩
def tys : List (TypeId × TI) := [(3,⟨.int .i64,1,8,some (.int .i64),[.int .i64 0],false⟩),(4,⟨.bool,1,1,some .bool,[.bool false],false⟩),(5,⟨.int .u8,1,1,some (.int .u8),[.int .u8 0],false⟩),(22,⟨.slice 3,1,24,some (.list (.int .i64)),[.slice none 0 0],false⟩),(23,⟨.slice 22,1,24,some (.list (.list (.int .i64))),[.slice none 0 0],false⟩),(25,⟨.strct [(0,22),(1,23)],2,48,some (.pair (.list (.int .i64)) (.pair (.list (.list (.int .i64))) .unit)),[.slice none 0 0,.slice none 0 0],false⟩),(27,⟨.strct [(0,3),(1,3),(2,3)],3,24,some (.pair (.int .i64) (.pair (.int .i64) (.pair (.int .i64) .unit))),[.int .i64 0,.int .i64 0,.int .i64 0],false⟩),(29,⟨.strct [(0,22),(1,23)],2,48,some (.pair (.list (.int .i64)) (.pair (.list (.list (.int .i64))) .unit)),[.slice none 0 0,.slice none 0 0],false⟩),(33,⟨.strct [(0,3),(1,3),(2,3)],3,24,some (.pair (.int .i64) (.pair (.int .i64) (.pair (.int .i64) .unit))),[.int .i64 0,.int .i64 0,.int .i64 0],true⟩),(38,⟨.slice 27,1,24,some (.list (.pair (.int .i64) (.pair (.int .i64) (.pair (.int .i64) .unit)))),[.slice none 0 0],false⟩),(42,⟨.slice 33,1,24,some (.list (.pair (.int .i64) (.pair (.int .i64) (.pair (.int .i64) .unit)))),[.slice none 0 0],false⟩),(72,⟨.strct [(0,22),(1,3),(2,3)],3,40,some (.pair (.list (.int .i64)) (.pair (.int .i64) (.pair (.int .i64) .unit))),[.slice none 0 0,.int .i64 0,.int .i64 0],false⟩),(77,⟨.arr 9 4,9,9,none,[.bool false,.bool false,.bool false,.bool false,.bool false,.bool false,.bool false,.bool false,.bool false],false⟩),(79,⟨.int .u64,1,8,some (.int .u64),[.int .u64 0],false⟩),(91,⟨.int .u64,1,8,some (.int .u64),[.int .u64 0],false⟩),(93,⟨.arr 64 5,64,64,none,[.int .u8 0,.int .u8 0,.int .u8 0,.int .u8 0,.int .u8 0,.int .u8 0,.int .u8 0,.int .u8 0,.int .u8 0,.int .u8 0,.int .u8 0,.int .u8 0,.int .u8 0,.int .u8 0,.int .u8 0,.int .u8 0,.int .u8 0,.int .u8 0,.int .u8 0,.int .u8 0,.int .u8 0,.int .u8 0,.int .u8 0,.int .u8 0,.int .u8 0,.int .u8 0,.int .u8 0,.int .u8 0,.int .u8 0,.int .u8 0,.int .u8 0,.int .u8 0,.int .u8 0,.int .u8 0,.int .u8 0,.int .u8 0,.int .u8 0,.int .u8 0,.int .u8 0,.int .u8 0,.int .u8 0,.int .u8 0,.int .u8 0,.int .u8 0,.int .u8 0,.int .u8 0,.int .u8 0,.int .u8 0,.int .u8 0,.int .u8 0,.int .u8 0,.int .u8 0,.int .u8 0,.int .u8 0,.int .u8 0,.int .u8 0,.int .u8 0,.int .u8 0,.int .u8 0,.int .u8 0,.int .u8 0,.int .u8 0,.int .u8 0,.int .u8 0],false⟩)]
theorem tys_ok : TOk Tryd.prog (tlook tys) := tok_of (allc ty3 (allc ty4 (allc ty5 (allc ty22 (allc ty23 (allc ty25 (allc ty27 (allc ty29 (allc ty33 (allc ty38 (allc ty42 (allc ty72 (allc ty77 (allc ty79 (allc ty91 (allc ty93 alln))))))))))))))))
def ioF (f : FuncId) (i : Nat) : Bool := [(11,0),(18,0),(34,0),(35,0),(66,0),(69,0)].any fun (p : Nat × Nat) => Nat.beq p.1 f && Nat.beq p.2 i

def Ncn : Ann := (.seq (.leaf [0,1]) (.seq (.leaf [1]) (.seq (.seq (.leaf [1,10]) (.cond (.seq (.leaf [4]) (.leaf [4])) (.leaf [1]))) (.seq (.leaf [4]) (.leaf [4])))))
noncomputable def Ncs : Ctx := ⟨tlook tys,olook [],ioF,0,false,[]⟩
theorem Nl6 (a : List Int) (b : Int) : Link Ncs LL (bodyOf Tryd.f19) Ncn ⟨mkE 12 0 [(0,dL a),(1,dI b)],[]⟩ (N4u a b) (fun (t : Int) => (Exit.ret,⟨mkE 12 0 [(4,dI t)],[]⟩)) := .of fun K h => by
  simp only [N4u,wpW] at h
  exact .of (by kernel_rfl) h
theorem Nm1 (a : List Int) (b : Int) {r : AV} {H' : Heap} (h : (Ans.mk _ (N1y a b) (fun (t : Int) => (dI t,[])) [] none).run = some (r,H')) : Awp Ncs LL (bodyOf Tryd.f19) Ncn ⟨mkE 12 0 [(0,dL a),(1,dI b)],[]⟩ (Ret (tlook tys) Tryd.f19.results.toList r H') :=
  ret_of' (Nl6 a b) (by unfold N1y; kernel_rfl) (by
  intro t
  exact ret_mk [dI t] (by kernel_rfl) (by kernel_rfl) (by kernel_rfl) (by kernel_rfl)) h
def N82 : Fun := fun avs H =>
  match avs,H with
  | [.dat (.list (.int .i64)) a,.dat (.int .i64) b],[] => ⟨_,N1y a b,fun (t : Int) => (dI t,[]),[],none⟩
  | _,_ => Ans.no
theorem Ngn : Sound Tryd.prog 19 N82 := by
  refine fn_sound' (C := Ncs) (c := bodyOf Tryd.f19) (cok_of tys_ok (alln) (alln) (by kernel_rfl)) Tryd.func19 (by kernel_rfl) LL Ncn ?_
  intro avs H r H' h
  unfold N82 at h
  split at h
  · refine Awp.cast ?_ ?_ ?_ (Nm1 _ _ h) <;> kernel_rfl
  · simp [Ans.no,Ans.run] at h

def Ng : Ann := (.seq (.leaf [0,1]) (.seq (.leaf [0,1]) (.seq (.seq (.leaf [0,1,11]) (.cond (.seq (.leaf [4]) (.leaf [4])) (.leaf [0,1]))) (.seq (.seq (.leaf [0,1,5]) (.block (.loop (.seq (.seq (.leaf [0,1,5,15]) (.cond (.leaf [0,1,5]) (.leaf [1]))) (.seq (.block (.seq (.leaf [0,1,5]) (.seq (.leaf [0,1,5,25]) (.cond (.seq (.leaf [4]) (.leaf [4])) (.leaf [0,1,5]))))) (.leaf [0,1,5])))))) (.seq (.leaf [4]) (.leaf [4]))))))
noncomputable def N3u : Ctx := ⟨tlook tys,olook [(19,N82)],ioF,0,false,[]⟩
theorem Nnz (a : List (List Int)) (b : Int) : Link N3u LL (Code.seq (cq [0] (bodyOf Tryd.f20)) (Code.seq (cq [0,1] (bodyOf Tryd.f20)) (cq [0,1,1] (bodyOf Tryd.f20)))) (Ann.seq (aq [0] Ng) (Ann.seq (aq [0,1] Ng) (aq [0,1,1] Ng))) ⟨mkE 27 0 [(0,.dat (.list (.list (.int .i64))) a),(1,dI b)],[]⟩ (N74 a b) (Sum.elim (fun (t : Int) => (Exit.normal,⟨mkE 27 0 [(0,.dat (.list (.list (.int .i64))) a),(1,dI t)],[]⟩)) (fun (t : Int) => (Exit.ret,⟨mkE 27 0 [(4,dI t)],[]⟩))) := .of fun K h => by
  simp only [N74,wpW] at h
  exact .of (by kernel_rfl) h
theorem Nv2 (a : List (List Int)) (b : Int) : Link N3u LL (cq [0,0,1,1,1] (bodyOf Tryd.f20)) (aq [0,0,1,1,1] Ng) ⟨mkE 27 0 [(0,.dat (.list (.list (.int .i64))) a),(1,dI b)],[]⟩ (N5y) (fun (t : Unit) => (Exit.normal,⟨mkE 27 0 [(0,.dat (.list (.list (.int .i64))) a),(1,dI b),(5,dI 0)],[]⟩)) := .of fun K h => by
  simp only [N5y,wpW] at h
  exact .of (by kernel_rfl) h
theorem Nmh (a : List (List Int)) (b c : Int) : Link N3u LL (cq [0,0,1,0,1,1,1] (bodyOf Tryd.f20)) (aq [0,0,1,0,1,1,1] Ng) ⟨mkE 27 0 [(0,.dat (.list (.list (.int .i64))) a),(1,dI b),(5,dI c)],[]⟩ (N4q a b c) (Sum.elim (fun (t : Int × Int) => (Exit.normal,⟨mkE 27 0 [(0,.dat (.list (.list (.int .i64))) a),(1,dI t.1),(5,dI t.2)],[]⟩)) (Sum.elim (fun (t : Int) => (Exit.ret,⟨mkE 27 0 [(4,dI t)],[]⟩)) (fun (t : Int) => ((Exit.exit 0),⟨mkE 27 0 [(1,dI t)],[]⟩)))) := .of fun K h => by
  simp only [N4q,wpW] at h
  exact .of (by kernel_rfl) h
theorem Nsn (a : Int) : Link N3u LL (cq [1,1,1,1] (bodyOf Tryd.f20)) (aq [1,1,1,1] Ng) ⟨mkE 27 0 [(1,dI a)],[]⟩ (N99 a) (fun (t : Int) => (Exit.ret,⟨mkE 27 0 [(4,dI t)],[]⟩)) := .of fun K h => by
  simp only [N99,wpW] at h
  exact .of (by kernel_rfl) h
theorem Njf (b : List (List Int)) (d : Int) {r : AV} {H' : Heap} (h : (Ans.mk _ (N2l b d) (fun (t : Int) => (dI t,[])) [] none).run = some (r,H')) : Awp N3u LL (bodyOf Tryd.f20) Ng ⟨mkE 27 0 [(0,.dat (.list (.list (.int .i64))) b),(1,dI d)],[]⟩ (Ret (tlook tys) Tryd.f20.results.toList r H') :=
  ret_of' (Link.cast (by kernel_rfl) (by kernel_rfl) (link_group (c := (cq [0,1,1] (bodyOf Tryd.f20))) (a := (aq [0,1,1] Ng)) [(cq [0] (bodyOf Tryd.f20)),(cq [0,1] (bodyOf Tryd.f20))] [(aq [0] Ng),(aq [0,1] Ng)] rfl (link_seq2 (Nnz b d) (fun (t : Int) => (link_seq2 (link_seq (Nv2 b t) (fun (t19 : Unit) => (link_block (fin2 := (Sum.elim (fun (t19 : Int) => (Exit.normal,⟨mkE 27 0 [(1,dI t19)],[]⟩)) (fun (t19 : Int) => (Exit.ret,⟨mkE 27 0 [(4,dI t19)],[]⟩)))) (id := 0) (link_loop (mk := fun (s : Int × Int) => ⟨mkE 27 0 [(0,.dat (.list (.list (.int .i64))) b),(1,dI s.1),(5,dI s.2)],[]⟩) (fin := (Sum.elim (fun (t19 : Int) => (Exit.ret,⟨mkE 27 0 [(4,dI t19)],[]⟩)) (fun (t19 : Int) => ((Exit.exit 0),⟨mkE 27 0 [(1,dI t19)],[]⟩)))) (by
  rintro (t19 | t19) f K h
  · exact h
  · exact h) (fun s => link_map (Nmh b s.1 s.2) (Sum.elim (fun (t19 : Int × Int) => Sum.inl (t19.1,t19.2)) (Sum.elim (fun (t19 : Int) => Sum.inr (Sum.inl t19)) (fun (t19 : Int) => Sum.inr (Sum.inr t19)))) (by
  rintro (t19 | t19 | t19)
  · kernel_rfl
  · kernel_rfl
  · kernel_rfl)) (t,0)) (Sum.elim (fun (t19 : Int) => (Sum.inr t19)) (fun (t19 : Int) => (Sum.inl t19))) (by
  rintro (t19 | t19) K h
  · exact Eq.mp (by kernel_rfl) h
  · exact Eq.mp (by kernel_rfl) h)))) (fun (t19 : Int) => (Nsn t19)) (fun (t19 : Int) => t19) (by
  rintro t19
  · kernel_rfl) (by
  rintro t19 f K h
  · exact h))) (fun (t : Int) => t) (by
  rintro t
  · kernel_rfl) (by
  rintro t f K h
  · exact h)))) (by unfold N2l; kernel_rfl) (by
  intro t
  exact ret_mk [dI t] (by kernel_rfl) (by kernel_rfl) (by kernel_rfl) (by kernel_rfl)) h
def N9s : Fun := fun avs H =>
  match avs,H with
  | [.dat (.list (.list (.int .i64))) a,.dat (.int .i64) b],[] => ⟨_,N2l a b,fun (t : Int) => (dI t,[]),[],none⟩
  | _,_ => Ans.no
theorem Npw : Sound Tryd.prog 20 N9s := by
  refine fn_sound' (C := N3u) (c := bodyOf Tryd.f20) (cok_of tys_ok (allc Ngn alln) (allc Tryd.call19 alln) (by kernel_rfl)) Tryd.func20 (by kernel_rfl) LL Ng ?_
  intro avs H r H' h
  unfold N9s at h
  split at h
  · refine Awp.cast ?_ ?_ ?_ (Njf _ _ h) <;> kernel_rfl
  · simp [Ans.no,Ans.run] at h

def Ncc : Ann := (.seq (.leaf [1,2]) (.seq (.leaf [1,2]) (.seq (.seq (.leaf [1,2,10]) (.cond (.seq (.leaf [4]) (.leaf [4])) (.leaf [1,2]))) (.seq (.leaf [1]) (.seq (.seq (.leaf [1,16]) (.cond (.seq (.leaf [4]) (.leaf [4])) (.leaf [1]))) (.seq (.leaf [4]) (.leaf [4])))))))
noncomputable def Nb9 : Ctx := ⟨tlook tys,olook [(19,N82),(20,N9s)],ioF,0,false,[]⟩
theorem Nu8 (a : List Int) (b : List (List Int)) (c : Int) : Link Nb9 LL (bodyOf Tryd.f5) Ncc ⟨mkE 18 0 [(0,.agg [dL a,.dat (.list (.list (.int .i64))) b]),(1,dI c)],[]⟩ (N7a a b c) (fun (t : Int) => (Exit.ret,⟨mkE 18 0 [(4,dI t)],[]⟩)) := .of fun K h => by
  simp only [N7a,wpW] at h
  exact .of (by kernel_rfl) h
theorem Nn5 (a : List Int) (b : List (List Int)) (c : Int) {r : AV} {H' : Heap} (h : (Ans.mk _ (N39 a b c) (fun (t : Int) => (dI t,[])) [] none).run = some (r,H')) : Awp Nb9 LL (bodyOf Tryd.f5) Ncc ⟨mkE 18 0 [(0,.agg [dL a,.dat (.list (.list (.int .i64))) b]),(1,dI c)],[]⟩ (Ret (tlook tys) Tryd.f5.results.toList r H') :=
  ret_of' (Nu8 a b c) (by unfold N39; kernel_rfl) (by
  intro t
  exact ret_mk [dI t] (by kernel_rfl) (by kernel_rfl) (by kernel_rfl) (by kernel_rfl)) h
def Nac : Fun := fun avs H =>
  match avs,H with
  | [.agg [.dat (.list (.int .i64)) a,.dat (.list (.list (.int .i64))) b],.dat (.int .i64) c],[] => ⟨_,N39 a b c,fun (t : Int) => (dI t,[]),[],none⟩
  | _,_ => Ans.no
theorem Nv3 : Sound Tryd.prog 5 Nac := by
  refine fn_sound' (C := Nb9) (c := bodyOf Tryd.f5) (cok_of tys_ok (allc Ngn (allc Npw alln)) (allc Tryd.call19 (allc Tryd.call20 alln)) (by kernel_rfl)) Tryd.func5 (by kernel_rfl) LL Ncc ?_
  intro avs H r H' h
  unfold Nac at h
  split at h
  · refine Awp.cast ?_ ?_ ?_ (Nn5 _ _ _ h) <;> kernel_rfl
  · simp [Ans.no,Ans.run] at h

def N11 : Ann := (.seq (.leaf [0]) (.seq (.leaf [0,3]) (.seq (.seq (.leaf [0,3,4]) (.block (.loop (.seq (.seq (.leaf [0,3,4,11]) (.cond (.leaf [0,3,4]) (.leaf [3]))) (.seq (.block (.leaf [0,3,4])) (.leaf [0,3,4])))))) (.seq (.leaf [2]) (.leaf [2])))))
noncomputable def N3j : Ctx := ⟨tlook tys,olook [],ioF,0,false,[]⟩
theorem Nug (a : List Int) : Link N3j LL (Code.seq (cq [0] (bodyOf Tryd.f25)) (cq [0,1] (bodyOf Tryd.f25))) (Ann.seq (aq [0] N11) (aq [0,1] N11)) ⟨mkE 22 0 [(0,dL a)],[]⟩ (N6w a) (fun (t : (List Int)) => (Exit.normal,⟨mkE 22 0 [(0,dL a),(3,.slc 0)],[some (sI t)]⟩)) := .of fun K h => by
  simp only [N6w,wpW] at h
  exact .of (by kernel_rfl) h
theorem Npn (a b : List Int) : Link N3j LL (cq [0,0,1,1] (bodyOf Tryd.f25)) (aq [0,0,1,1] N11) ⟨mkE 22 0 [(0,dL a),(3,.slc 0)],[some (sI b)]⟩ (N5a) (fun (t : Unit) => (Exit.normal,⟨mkE 22 0 [(0,dL a),(3,.slc 0),(4,dI 0)],[some (sI b)]⟩)) := .of fun K h => by
  simp only [N5a,wpW] at h
  exact .of (by kernel_rfl) h
theorem Nsa (a : List Int) (b : Int) (c : List Int) : Link N3j LL (cq [0,0,1,0,1,1] (bodyOf Tryd.f25)) (aq [0,0,1,0,1,1] N11) ⟨mkE 22 0 [(0,dL a),(3,.slc 0),(4,dI b)],[some (sI c)]⟩ (N4a a b c) (Sum.elim (fun (t : Int × (List Int)) => (Exit.normal,⟨mkE 22 0 [(0,dL a),(3,.slc 0),(4,dI t.1)],[some (sI t.2)]⟩)) (fun (t : (List Int)) => ((Exit.exit 0),⟨mkE 22 0 [(3,.slc 0)],[some (sI t)]⟩))) := .of fun K h => by
  simp only [N4a,wpW] at h
  exact .of (by kernel_rfl) h
theorem Nnl (a : List Int) : Link N3j LL (cq [1,1,1] (bodyOf Tryd.f25)) (aq [1,1,1] N11) ⟨mkE 22 0 [(3,.slc 0)],[some (sI a)]⟩ (N6u a) (fun (t : (List Int)) => (Exit.ret,⟨mkE 22 0 [(2,.slc 0)],[some (sI t)]⟩)) := .of fun K h => by
  simp only [N6u,wpW] at h
  exact .of (by kernel_rfl) h
theorem Nrk (b : List Int) {r : AV} {H' : Heap} (h : (Ans.mk _ (N26 b) (fun (t : (List Int)) => (.slc 0,[some (sI t)])) [] none).run = some (r,H')) : Awp N3j LL (bodyOf Tryd.f25) N11 ⟨mkE 22 0 [(0,dL b)],[]⟩ (Ret (tlook tys) Tryd.f25.results.toList r H') :=
  ret_of' (Link.cast (by kernel_rfl) (by kernel_rfl) (link_group (c := (cq [0,1] (bodyOf Tryd.f25))) (a := (aq [0,1] N11)) [(cq [0] (bodyOf Tryd.f25))] [(aq [0] N11)] rfl (link_seq (Nug b) (fun (t : (List Int)) => (link_seq (link_seq (Npn b t) (fun (t20 : Unit) => (link_block (fin2 := (fun (t20 : (List Int)) => (Exit.normal,⟨mkE 22 0 [(3,.slc 0)],[some (sI t20)]⟩))) (id := 0) (link_loop (mk := fun (s : Int × (List Int)) => ⟨mkE 22 0 [(0,dL b),(3,.slc 0),(4,dI s.1)],[some (sI s.2)]⟩) (fin := (fun (t20 : (List Int)) => ((Exit.exit 0),⟨mkE 22 0 [(3,.slc 0)],[some (sI t20)]⟩))) (by
  rintro t20 f K h
  · exact h) (fun s => link_map (Nsa b s.1 s.2) (Sum.elim (fun (t20 : Int × (List Int)) => Sum.inl (t20.1,t20.2)) (fun (t20 : (List Int)) => Sum.inr t20)) (by
  rintro (t20 | t20)
  · kernel_rfl
  · kernel_rfl)) (0,t)) (fun (t20 : (List Int)) => t20) (by
  rintro t20 K h
  · exact Eq.mp (by kernel_rfl) h)))) (fun (t20 : (List Int)) => (Nnl t20))))))) (by unfold N26; kernel_rfl) (by
  intro t
  exact ret_mk [.slc 0] (by kernel_rfl) (by kernel_rfl) (by kernel_rfl) (by kernel_rfl)) h
def N70 : Fun := fun avs H =>
  match avs,H with
  | [.dat (.list (.int .i64)) a],[] => ⟨_,N26 a,fun (t : (List Int)) => (.slc 0,[some (sI t)]),[],none⟩
  | _,_ => Ans.no
theorem Ndg : Sound Tryd.prog 25 N70 := by
  refine fn_sound' (C := N3j) (c := bodyOf Tryd.f25) (cok_of tys_ok (alln) (alln) (by kernel_rfl)) Tryd.func25 (by kernel_rfl) LL N11 ?_
  intro avs H r H' h
  unfold N70 at h
  split at h
  · refine Awp.cast ?_ ?_ ?_ (Nrk _ h) <;> kernel_rfl
  · simp [Ans.no,Ans.run] at h

def N10 : Ann := (.seq (.leaf [0]) (.seq (.leaf [0,3]) (.seq (.seq (.leaf [0,3,4]) (.block (.loop (.seq (.seq (.leaf [0,3,4,11]) (.cond (.leaf [0,3,4]) (.leaf [3]))) (.seq (.block (.leaf [0,3,4])) (.leaf [0,3,4])))))) (.seq (.leaf [2]) (.leaf [2])))))
noncomputable def N3g : Ctx := ⟨tlook tys,olook [(25,N70)],ioF,0,true,[]⟩
theorem Non (a : List (List Int)) : Link N3g LL (Code.seq (cq [0] (bodyOf Tryd.f26)) (cq [0,1] (bodyOf Tryd.f26))) (Ann.seq (aq [0] N10) (aq [0,1] N10)) ⟨mkE 23 0 [(0,.dat (.list (.list (.int .i64))) a)],[]⟩ (N6z a) (fun (t : (List (List Int))) => (Exit.normal,⟨mkE 23 0 [(0,.dat (.list (.list (.int .i64))) a),(3,.slc 0)],[some (.nest (.int .i64) t 0 [])]⟩)) := .of fun K h => by
  simp only [N6z,wpW] at h
  exact .of (by kernel_rfl) h
theorem Nje (a b : List (List Int)) : Link N3g LL (cq [0,0,1,1] (bodyOf Tryd.f26)) (aq [0,0,1,1] N10) ⟨mkE 23 0 [(0,.dat (.list (.list (.int .i64))) a),(3,.slc 0)],[some (.nest (.int .i64) b 0 [])]⟩ (N68) (fun (t : Unit) => (Exit.normal,⟨mkE 23 0 [(0,.dat (.list (.list (.int .i64))) a),(3,.slc 0),(4,dI 0)],[some (.nest (.int .i64) b 0 [])]⟩)) := .of fun K h => by
  simp only [N68,wpW] at h
  exact .of (by kernel_rfl) h
theorem Nt8 (a : List (List Int)) (b : Int) (c : List (List Int)) : Link N3g LL (cq [0,0,1,0,1,1] (bodyOf Tryd.f26)) (aq [0,0,1,0,1,1] N10) ⟨mkE 23 0 [(0,.dat (.list (.list (.int .i64))) a),(3,.slc 0),(4,dI b)],[some (.nest (.int .i64) c 0 [])]⟩ (N2w a b c) (Sum.elim (fun (t : Int × (List (List Int))) => (Exit.normal,⟨mkE 23 0 [(0,.dat (.list (.list (.int .i64))) a),(3,.slc 0),(4,dI t.1)],[some (.nest (.int .i64) t.2 0 [])]⟩)) (fun (t : (List (List Int))) => ((Exit.exit 0),⟨mkE 23 0 [(3,.slc 0)],[some (.nest (.int .i64) t 0 [])]⟩))) := .of fun K h => by
  simp only [N2w,wpW] at h
  exact .of (by kernel_rfl) h
theorem Nqr (a : List (List Int)) : Link N3g LL (cq [1,1,1] (bodyOf Tryd.f26)) (aq [1,1,1] N10) ⟨mkE 23 0 [(3,.slc 0)],[some (.nest (.int .i64) a 0 [])]⟩ (N84 a) (fun (t : (List (List Int))) => (Exit.ret,⟨mkE 23 0 [(2,.slc 0)],[some (.nest (.int .i64) t 0 [])]⟩)) := .of fun K h => by
  simp only [N84,wpW] at h
  exact .of (by kernel_rfl) h
theorem Nop (b : List (List Int)) {r : AV} {H' : Heap} (h : (Ans.mk _ (N1u b) (fun (t : (List (List Int))) => (.slc 0,[some (.nest (.int .i64) t 0 [])])) [] none).run = some (r,H')) : Awp N3g LL (bodyOf Tryd.f26) N10 ⟨mkE 23 0 [(0,.dat (.list (.list (.int .i64))) b)],[]⟩ (Ret (tlook tys) Tryd.f26.results.toList r H') :=
  ret_of' (Link.cast (by kernel_rfl) (by kernel_rfl) (link_group (c := (cq [0,1] (bodyOf Tryd.f26))) (a := (aq [0,1] N10)) [(cq [0] (bodyOf Tryd.f26))] [(aq [0] N10)] rfl (link_seq (Non b) (fun (t : (List (List Int))) => (link_seq (link_seq (Nje b t) (fun (t21 : Unit) => (link_block (fin2 := (fun (t21 : (List (List Int))) => (Exit.normal,⟨mkE 23 0 [(3,.slc 0)],[some (.nest (.int .i64) t21 0 [])]⟩))) (id := 0) (link_loop (mk := fun (s : Int × (List (List Int))) => ⟨mkE 23 0 [(0,.dat (.list (.list (.int .i64))) b),(3,.slc 0),(4,dI s.1)],[some (.nest (.int .i64) s.2 0 [])]⟩) (fin := (fun (t21 : (List (List Int))) => ((Exit.exit 0),⟨mkE 23 0 [(3,.slc 0)],[some (.nest (.int .i64) t21 0 [])]⟩))) (by
  rintro t21 f K h
  · exact h) (fun s => link_map (Nt8 b s.1 s.2) (Sum.elim (fun (t21 : Int × (List (List Int))) => Sum.inl (t21.1,t21.2)) (fun (t21 : (List (List Int))) => Sum.inr t21)) (by
  rintro (t21 | t21)
  · kernel_rfl
  · kernel_rfl)) (0,t)) (fun (t21 : (List (List Int))) => t21) (by
  rintro t21 K h
  · exact Eq.mp (by kernel_rfl) h)))) (fun (t21 : (List (List Int))) => (Nqr t21))))))) (by unfold N1u; kernel_rfl) (by
  intro t
  exact ret_mk [.slc 0] (by kernel_rfl) (by kernel_rfl) (by kernel_rfl) (by kernel_rfl)) h
def Ndc : Fun := fun avs H =>
  match avs,H with
  | [.dat (.list (.list (.int .i64))) a],[] => ⟨_,N1u a,fun (t : (List (List Int))) => (.slc 0,[some (.nest (.int .i64) t 0 [])]),[],none⟩
  | _,_ => Ans.no
theorem Njv : Sound Tryd.prog 26 Ndc := by
  refine fn_sound' (C := N3g) (c := bodyOf Tryd.f26) (cok_of tys_ok (allc Ndg alln) (allc Tryd.call25 alln) (by kernel_rfl)) Tryd.func26 (by kernel_rfl) LL N10 ?_
  intro avs H r H' h
  unfold Ndc at h
  split at h
  · refine Awp.cast ?_ ?_ ?_ (Nop _ h) <;> kernel_rfl
  · simp [Ans.no,Ans.run] at h

def Nd2 : Ann := (.seq (.leaf [1,2]) (.seq (.leaf [1,2,3]) (.seq (.leaf [1,2,3]) (.seq (.leaf [2,3]) (.seq (.leaf [2]) (.leaf [2]))))))
noncomputable def Nca : Ctx := ⟨tlook tys,olook [(25,N70),(26,Ndc)],ioF,0,true,[]⟩
theorem Nq7 (a : List Int) (b : List (List Int)) : Link Nca LL (bodyOf Tryd.f7) Nd2 ⟨mkE 13 0 [(0,.agg [dL a,.dat (.list (.list (.int .i64))) b])],[]⟩ (N6c a b) (fun (t : (List Int) × (List (List Int))) => (Exit.ret,⟨mkE 13 0 [(2,.ptr 0 0)],[some (.box [.slc 1,.slc 2]),some (sI t.1),some (.nest (.int .i64) t.2 0 [])]⟩)) := .of fun K h => by
  simp only [N6c,wpW] at h
  exact .of (by kernel_rfl) h
theorem Nrc (a : List Int) (b : List (List Int)) {r : AV} {H' : Heap} (h : (Ans.mk _ (N12 a b) (fun (t : (List Int) × (List (List Int))) => (.agg [.slc 1,.slc 2],[some (.box [.slc 1,.slc 2]),some (sI t.1),some (.nest (.int .i64) t.2 0 [])])) [] none).run = some (r,H')) : Awp Nca LL (bodyOf Tryd.f7) Nd2 ⟨mkE 13 0 [(0,.agg [dL a,.dat (.list (.list (.int .i64))) b])],[]⟩ (Ret (tlook tys) Tryd.f7.results.toList r H') :=
  ret_of' (Nq7 a b) (by unfold N12; kernel_rfl) (by
  intro t
  exact ret_mk [.agg [.slc 1,.slc 2]] (by kernel_rfl) (by kernel_rfl) (by kernel_rfl) (by kernel_rfl)) h
def Nbg : Fun := fun avs H =>
  match avs,H with
  | [.agg [.dat (.list (.int .i64)) a,.dat (.list (.list (.int .i64))) b]],[] => ⟨_,N12 a b,fun (t : (List Int) × (List (List Int))) => (.agg [.slc 1,.slc 2],[some (.box [.slc 1,.slc 2]),some (sI t.1),some (.nest (.int .i64) t.2 0 [])]),[],none⟩
  | _,_ => Ans.no
theorem Nqv : Sound Tryd.prog 7 Nbg := by
  refine fn_sound' (C := Nca) (c := bodyOf Tryd.f7) (cok_of tys_ok (allc Ndg (allc Njv alln)) (allc Tryd.call25 (allc Tryd.call26 alln)) (by kernel_rfl)) Tryd.func7 (by kernel_rfl) LL Nd2 ?_
  intro avs H r H' h
  unfold Nbg at h
  split at h
  · refine Awp.cast ?_ ?_ ?_ (Nrc _ _ h) <;> kernel_rfl
  · simp [Ans.no,Ans.run] at h

def N9r : Ann := (.seq (.leaf [1,2]) (.seq (.leaf [1,2,3]) (.seq (.leaf [1,2,3]) (.seq (.leaf [1,2,3]) (.seq (.leaf [2,3]) (.seq (.leaf [2]) (.leaf [2])))))))
noncomputable def Nby : Ctx := ⟨tlook tys,olook [],ioF,0,false,[]⟩
theorem Nw7 (a b c : Int) : Link Nby LL (bodyOf Tryd.f8) N9r ⟨mkE 14 0 [(0,.agg [dI a,dI b,dI c])],[]⟩ (N7p) (fun (t : Unit) => (Exit.ret,⟨mkE 14 0 [(2,.ptr 0 0)],[some (.box [dI a,dI b,dI c])]⟩)) := .of fun K h => by
  simp only [N7p,wpW] at h
  exact .of (by kernel_rfl) h
theorem Njz (a b c : Int) {r : AV} {H' : Heap} (h : (Ans.mk _ (N1d a b c) (fun (t : Unit) => (.agg [dI a,dI b,dI c],[some (.box [dI a,dI b,dI c])])) [] none).run = some (r,H')) : Awp Nby LL (bodyOf Tryd.f8) N9r ⟨mkE 14 0 [(0,.agg [dI a,dI b,dI c])],[]⟩ (Ret (tlook tys) Tryd.f8.results.toList r H') :=
  ret_of' (Nw7 a b c) (by unfold N1d; kernel_rfl) (by
  intro t
  exact ret_mk [.agg [dI a,dI b,dI c]] (by kernel_rfl) (by kernel_rfl) (by kernel_rfl) (by kernel_rfl)) h
def Nb3 : Fun := fun avs H =>
  match avs,H with
  | [.agg [.dat (.int .i64) a,.dat (.int .i64) b,.dat (.int .i64) c]],[] => ⟨_,N1d a b c,fun (t : Unit) => (.agg [dI a,dI b,dI c],[some (.box [dI a,dI b,dI c])]),[],none⟩
  | _,_ => Ans.no
theorem Npa : Sound Tryd.prog 8 Nb3 := by
  refine fn_sound' (C := Nby) (c := bodyOf Tryd.f8) (cok_of tys_ok (alln) (alln) (by kernel_rfl)) Tryd.func8 (by kernel_rfl) LL N9r ?_
  intro avs H r H' h
  unfold Nb3 at h
  split at h
  · refine Awp.cast ?_ ?_ ?_ (Njz _ _ _ h) <;> kernel_rfl
  · simp [Ans.no,Ans.run] at h

def Nd7 : Ann := (.seq (.leaf [0,1,2]) (.seq (.leaf [6]) (.leaf [6])))
noncomputable def Ncz : Ctx := ⟨tlook tys,olook [],ioF,0,false,[]⟩
theorem Npz (a b c : Int) : Link Ncz LL (bodyOf Tryd.f39) Nd7 ⟨mkE 15 0 [(0,dI a),(1,dI b),(2,dI c)],[]⟩ (N7j a b c) (fun (t : Bool) => (Exit.ret,⟨mkE 15 0 [(6,dB t)],[]⟩)) := .of fun K h => by
  simp only [N7j,wpW] at h
  exact .of (by kernel_rfl) h
theorem Ns7 (a b c : Int) {r : AV} {H' : Heap} (h : (Ans.mk _ (Nd a b c) (fun (t : Bool) => (dB t,[])) [] none).run = some (r,H')) : Awp Ncz LL (bodyOf Tryd.f39) Nd7 ⟨mkE 15 0 [(0,dI a),(1,dI b),(2,dI c)],[]⟩ (Ret (tlook tys) Tryd.f39.results.toList r H') :=
  ret_of' (Npz a b c) (by unfold Nd; kernel_rfl) (by
  intro t
  exact ret_mk [dB t] (by kernel_rfl) (by kernel_rfl) (by kernel_rfl) (by kernel_rfl)) h
def N55 : Fun := fun avs H =>
  match avs,H with
  | [.dat (.int .i64) a,.dat (.int .i64) b,.dat (.int .i64) c],[] => ⟨_,Nd a b c,fun (t : Bool) => (dB t,[]),[],none⟩
  | _,_ => Ans.no
theorem Naw : Sound Tryd.prog 39 N55 := by
  refine fn_sound' (C := Ncz) (c := bodyOf Tryd.f39) (cok_of tys_ok (alln) (alln) (by kernel_rfl)) Tryd.func39 (by kernel_rfl) LL Nd7 ?_
  intro avs H r H' h
  unfold N55 at h
  split at h
  · refine Awp.cast ?_ ?_ ?_ (Ns7 _ _ _ h) <;> kernel_rfl
  · simp [Ans.no,Ans.run] at h

def N0 : Ann := (.seq (.leaf [0]) (.seq (.leaf [0,3]) (.seq (.seq (.leaf [0,3,12]) (.cond (.seq (.leaf [2]) (.leaf [2])) (.leaf [0,3]))) (.seq (.leaf [0,3,4]) (.seq (.seq (.leaf [0,3,4,5]) (.block (.loop (.seq (.seq (.leaf [0,3,4,5,15]) (.cond (.leaf [0,3,4,5]) (.leaf [4]))) (.seq (.block (.seq (.seq (.leaf [0,3,4,5,33]) (.cond (.seq (.leaf [2]) (.leaf [2])) (.leaf [0,3,4,5]))) (.seq (.seq (.leaf [0,3,4,5,38]) (.cond (.leaf [0,3,4,5]) (.leaf [0,3,4,5]))) (.seq (.leaf [0,3,4,5,6]) (.seq (.seq (.leaf [0,3,4,5,6,7]) (.block (.loop (.seq (.seq (.leaf [0,3,4,5,6,7,49]) (.cond (.leaf [0,3,4,5,6,7]) (.leaf [0,3,4,5,6]))) (.seq (.block (.seq (.leaf [0,3,4,5,6,7]) (.seq (.leaf [0,3,4,5,6,7,60]) (.cond (.seq (.leaf [2]) (.leaf [2])) (.leaf [0,3,4,5,6,7]))))) (.leaf [0,3,4,5,6,7])))))) (.seq (.leaf [0,3,4,5,62]) (.cond (.seq (.leaf [2]) (.leaf [2])) (.leaf [0,3,4,5])))))))) (.leaf [0,3,4,5])))))) (.seq (.leaf [2]) (.leaf [2])))))))
noncomputable def Nc : Ctx := ⟨tlook tys,olook [(39,N55)],ioF,0,false,[]⟩
theorem Nmu (a : List Int) : Link Nc LL (Code.seq (cq [0] (bodyOf Tryd.f24)) (Code.seq (cq [0,1] (bodyOf Tryd.f24)) (Code.seq (cq [0,1,1] (bodyOf Tryd.f24)) (cq [0,1,1,1] (bodyOf Tryd.f24))))) (Ann.seq (aq [0] N0) (Ann.seq (aq [0,1] N0) (Ann.seq (aq [0,1,1] N0) (aq [0,1,1,1] N0)))) ⟨mkE 65 0 [(0,dL a)],[]⟩ (N6g a) (Sum.elim (fun (t : Int) => (Exit.normal,⟨mkE 65 0 [(0,dL a),(3,dI t),(4,dI 0)],[]⟩)) (fun (t : Bool) => (Exit.ret,⟨mkE 65 0 [(2,dB t)],[]⟩))) := .of fun K h => by
  simp only [N6g,wpW] at h
  exact .of (by kernel_rfl) h
theorem No6 (a : List Int) (b : Int) : Link Nc LL (cq [0,0,1,1,1,1] (bodyOf Tryd.f24)) (aq [0,0,1,1,1,1] N0) ⟨mkE 65 0 [(0,dL a),(3,dI b),(4,dI 0)],[]⟩ (N8n) (fun (t : Unit) => (Exit.normal,⟨mkE 65 0 [(0,dL a),(3,dI b),(4,dI 0),(5,dI 0)],[]⟩)) := .of fun K h => by
  simp only [N8n,wpW] at h
  exact .of (by kernel_rfl) h
theorem Nmm (a : List Int) (b c d : Int) : Link Nc LL (cq [0,0,0,1,0,1,1,1,1] (bodyOf Tryd.f24)) (aq [0,0,0,1,0,1,1,1,1] N0) ⟨mkE 65 0 [(0,dL a),(3,dI b),(4,dI c),(5,dI d)],[]⟩ (N4w b c d) (Sum.elim (fun (t : Unit) => (Exit.normal,⟨mkE 65 0 [(0,dL a),(3,dI b),(4,dI c),(5,dI d)],[]⟩)) (fun (t : Int) => ((Exit.exit 0),⟨mkE 65 0 [(4,dI t)],[]⟩))) := .of fun K h => by
  simp only [N4w,wpW] at h
  exact .of (by kernel_rfl) h
theorem Nmz (a : List Int) (b c d : Int) : Link Nc LL (Code.seq (cq [0,0,0,1,0,0,1,0,1,1,1,1] (bodyOf Tryd.f24)) (Code.seq (cq [0,1,0,0,1,0,0,1,0,1,1,1,1] (bodyOf Tryd.f24)) (cq [0,1,1,0,0,1,0,0,1,0,1,1,1,1] (bodyOf Tryd.f24)))) (Ann.seq (aq [0,0,0,1,0,0,1,0,1,1,1,1] N0) (Ann.seq (aq [0,1,0,0,1,0,0,1,0,1,1,1,1] N0) (aq [0,1,1,0,0,1,0,0,1,0,1,1,1,1] N0))) ⟨mkE 65 0 [(0,dL a),(3,dI b),(4,dI c),(5,dI d)],[]⟩ (N7z a b c d) (Sum.elim (fun (t : Int × Int) => (Exit.normal,⟨mkE 65 0 [(0,dL a),(3,dI b),(4,dI t.1),(5,dI d),(6,dI t.2)],[]⟩)) (fun (t : Bool) => (Exit.ret,⟨mkE 65 0 [(2,dB t)],[]⟩))) := .of fun K h => by
  simp only [N7z,wpW] at h
  exact .of (by kernel_rfl) h
theorem Nme (a : List Int) (b c d g : Int) : Link Nc LL (cq [0,0,1,1,1,0,0,1,0,0,1,0,1,1,1,1] (bodyOf Tryd.f24)) (aq [0,0,1,1,1,0,0,1,0,0,1,0,1,1,1,1] N0) ⟨mkE 65 0 [(0,dL a),(3,dI b),(4,dI c),(5,dI d),(6,dI g)],[]⟩ (N80) (fun (t : Unit) => (Exit.normal,⟨mkE 65 0 [(0,dL a),(3,dI b),(4,dI c),(5,dI d),(6,dI g),(7,dI 0)],[]⟩)) := .of fun K h => by
  simp only [N80,wpW] at h
  exact .of (by kernel_rfl) h
theorem Nt6 (a : List Int) (b c d g i : Int) : Link Nc LL (cq [0,0,1,0,1,1,1,0,0,1,0,0,1,0,1,1,1,1] (bodyOf Tryd.f24)) (aq [0,0,1,0,1,1,1,0,0,1,0,0,1,0,1,1,1,1] N0) ⟨mkE 65 0 [(0,dL a),(3,dI b),(4,dI c),(5,dI d),(6,dI g),(7,dI i)],[]⟩ (N4s a b g i) (Sum.elim (fun (t : Int × Int) => (Exit.normal,⟨mkE 65 0 [(0,dL a),(3,dI b),(4,dI c),(5,dI d),(6,dI t.1),(7,dI t.2)],[]⟩)) (Sum.elim (fun (t : Bool) => (Exit.ret,⟨mkE 65 0 [(2,dB t)],[]⟩)) (fun (t : Int) => ((Exit.exit 2),⟨mkE 65 0 [(0,dL a),(3,dI b),(4,dI c),(5,dI d),(6,dI t)],[]⟩)))) := .of fun K h => by
  simp only [N4s,wpW] at h
  exact .of (by kernel_rfl) h
theorem Nij (a : List Int) (b c d g : Int) : Link Nc LL (cq [1,1,1,1,0,0,1,0,0,1,0,1,1,1,1] (bodyOf Tryd.f24)) (aq [1,1,1,1,0,0,1,0,0,1,0,1,1,1,1] N0) ⟨mkE 65 0 [(0,dL a),(3,dI b),(4,dI c),(5,dI d),(6,dI g)],[]⟩ (N59 g) (Sum.elim (fun (t : Unit) => (Exit.normal,⟨mkE 65 0 [(0,dL a),(3,dI b),(4,dI c),(5,dI d)],[]⟩)) (fun (t : Bool) => (Exit.ret,⟨mkE 65 0 [(2,dB t)],[]⟩))) := .of fun K h => by
  simp only [N59,wpW] at h
  exact .of (by kernel_rfl) h
theorem Nsf (a : List Int) (b c d : Int) : Link Nc LL (cq [1,1,0,0,1,0,1,1,1,1] (bodyOf Tryd.f24)) (aq [1,1,0,0,1,0,1,1,1,1] N0) ⟨mkE 65 0 [(0,dL a),(3,dI b),(4,dI c),(5,dI d)],[]⟩ (N6o d) (fun (t : Int) => (Exit.normal,⟨mkE 65 0 [(0,dL a),(3,dI b),(4,dI c),(5,dI t)],[]⟩)) := .of fun K h => by
  simp only [N6o,wpW] at h
  exact .of (by kernel_rfl) h
theorem Nk3 (a : Int) : Link Nc LL (cq [1,1,1,1,1] (bodyOf Tryd.f24)) (aq [1,1,1,1,1] N0) ⟨mkE 65 0 [(4,dI a)],[]⟩ (N8d a) (fun (t : Bool) => (Exit.ret,⟨mkE 65 0 [(2,dB t)],[]⟩)) := .of fun K h => by
  simp only [N8d,wpW] at h
  exact .of (by kernel_rfl) h
theorem Nr8 (b : List Int) {r : AV} {H' : Heap} (h : (Ans.mk _ (N6 b) (fun (t : Bool) => (dB t,[])) [] none).run = some (r,H')) : Awp Nc LL (bodyOf Tryd.f24) N0 ⟨mkE 65 0 [(0,dL b)],[]⟩ (Ret (tlook tys) Tryd.f24.results.toList r H') :=
  ret_of' (Link.cast (by kernel_rfl) (by kernel_rfl) (link_group (c := (cq [0,1,1,1] (bodyOf Tryd.f24))) (a := (aq [0,1,1,1] N0)) [(cq [0] (bodyOf Tryd.f24)),(cq [0,1] (bodyOf Tryd.f24)),(cq [0,1,1] (bodyOf Tryd.f24))] [(aq [0] N0),(aq [0,1] N0),(aq [0,1,1] N0)] rfl (link_seq2 (Nmu b) (fun (t : Int) => (link_seq2 (link_seq (No6 b t) (fun (t23 : Unit) => (link_block (fin2 := (Sum.elim (fun (t23 : Int) => (Exit.normal,⟨mkE 65 0 [(4,dI t23)],[]⟩)) (fun (t23 : Bool) => (Exit.ret,⟨mkE 65 0 [(2,dB t23)],[]⟩)))) (id := 0) (link_loop (mk := fun (s : Int × Int) => ⟨mkE 65 0 [(0,dL b),(3,dI t),(4,dI s.1),(5,dI s.2)],[]⟩) (fin := (Sum.elim (fun (t23 : Bool) => (Exit.ret,⟨mkE 65 0 [(2,dB t23)],[]⟩)) (fun (t23 : Int) => ((Exit.exit 0),⟨mkE 65 0 [(4,dI t23)],[]⟩)))) (by
  rintro (t23 | t23) f K h
  · exact h
  · exact h) (fun s => link_map (link_seq2 (Nmm b t s.1 s.2) (fun (t36 : Unit) => (link_map (fin2 := (Sum.elim (fun (t36 : Int × Int) => (Exit.normal,⟨mkE 65 0 [(0,dL b),(3,dI t),(4,dI t36.1),(5,dI t36.2)],[]⟩)) (Sum.elim (fun (t36 : Bool) => (Exit.ret,⟨mkE 65 0 [(2,dB t36)],[]⟩)) (fun (t36 : Int) => ((Exit.exit 0),⟨mkE 65 0 [(4,dI t36)],[]⟩))))) (link_seq2 (link_block (fin2 := (Sum.elim (fun (t36 : Int) => (Exit.normal,⟨mkE 65 0 [(0,dL b),(3,dI t),(4,dI t36),(5,dI s.2)],[]⟩)) (fun (t36 : Bool) => (Exit.ret,⟨mkE 65 0 [(2,dB t36)],[]⟩)))) (id := 1) (link_group (c := (cq [0,1,1,0,0,1,0,0,1,0,1,1,1,1] (bodyOf Tryd.f24))) (a := (aq [0,1,1,0,0,1,0,0,1,0,1,1,1,1] N0)) [(cq [0,0,0,1,0,0,1,0,1,1,1,1] (bodyOf Tryd.f24)),(cq [0,1,0,0,1,0,0,1,0,1,1,1,1] (bodyOf Tryd.f24))] [(aq [0,0,0,1,0,0,1,0,1,1,1,1] N0),(aq [0,1,0,0,1,0,0,1,0,1,1,1,1] N0)] rfl (link_seq2 (Nmz b t s.1 s.2) (fun (t36 : Int × Int) => (link_map (fin2 := (Sum.elim (fun (t36 : Int) => (Exit.normal,⟨mkE 65 0 [(0,dL b),(3,dI t),(4,dI t36),(5,dI s.2)],[]⟩)) (fun (t36 : Bool) => (Exit.ret,⟨mkE 65 0 [(2,dB t36)],[]⟩)))) (link_seq2 (link_seq (Nme b t t36.1 s.2 t36.2) (fun (t22 : Unit) => (link_block (fin2 := (Sum.elim (fun (t22 : Int) => (Exit.normal,⟨mkE 65 0 [(0,dL b),(3,dI t),(4,dI t36.1),(5,dI s.2),(6,dI t22)],[]⟩)) (fun (t22 : Bool) => (Exit.ret,⟨mkE 65 0 [(2,dB t22)],[]⟩)))) (id := 2) (link_loop (mk := fun (s35 : Int × Int) => ⟨mkE 65 0 [(0,dL b),(3,dI t),(4,dI t36.1),(5,dI s.2),(6,dI s35.1),(7,dI s35.2)],[]⟩) (fin := (Sum.elim (fun (t22 : Bool) => (Exit.ret,⟨mkE 65 0 [(2,dB t22)],[]⟩)) (fun (t22 : Int) => ((Exit.exit 2),⟨mkE 65 0 [(0,dL b),(3,dI t),(4,dI t36.1),(5,dI s.2),(6,dI t22)],[]⟩)))) (by
  rintro (t22 | t22) f K h
  · exact h
  · exact h) (fun s35 => link_map (Nt6 b t t36.1 s.2 s35.1 s35.2) (Sum.elim (fun (t22 : Int × Int) => Sum.inl (t22.1,t22.2)) (Sum.elim (fun (t22 : Bool) => Sum.inr (Sum.inl t22)) (fun (t22 : Int) => Sum.inr (Sum.inr t22)))) (by
  rintro (t22 | t22 | t22)
  · kernel_rfl
  · kernel_rfl
  · kernel_rfl)) (t36.2,0)) (Sum.elim (fun (t22 : Bool) => (Sum.inr t22)) (fun (t22 : Int) => (Sum.inl t22))) (by
  rintro (t22 | t22) K h
  · exact Eq.mp (by kernel_rfl) h
  · exact Eq.mp (by kernel_rfl) h)))) (fun (t22 : Int) => (Nij b t t36.1 s.2 t22)) (fun (t22 : Bool) => (Sum.inr t22)) (by
  rintro t22
  · kernel_rfl) (by
  rintro t22 f K h
  · exact h)) (Sum.elim (fun (u : Unit) => (Sum.inl t36.1)) (fun (u : Bool) => (Sum.inr u))) (by
  rintro (t36 | t36)
  · kernel_rfl
  · kernel_rfl))) (fun (t36 : Bool) => (Sum.inr t36)) (by
  rintro t36
  · kernel_rfl) (by
  rintro t36 f K h
  · exact h))) (Sum.elim (fun (t36 : Int) => (Sum.inl t36)) (fun (t36 : Bool) => (Sum.inr t36))) (by
  rintro (t36 | t36) K h
  · exact Eq.mp (by kernel_rfl) h
  · exact Eq.mp (by kernel_rfl) h)) (fun (t36 : Int) => (link_map (fin2 := (Sum.elim (fun (t36 : Int × Int) => (Exit.normal,⟨mkE 65 0 [(0,dL b),(3,dI t),(4,dI t36.1),(5,dI t36.2)],[]⟩)) (fun (t36 : Bool) => (Exit.ret,⟨mkE 65 0 [(2,dB t36)],[]⟩)))) (Nsf b t t36 s.2) (fun (u : Int) => (Sum.inl (t36,u))) (by
  rintro t36
  · kernel_rfl))) (fun (t36 : Bool) => (Sum.inr t36)) (by
  rintro t36
  · kernel_rfl) (by
  rintro t36 f K h
  · exact h)) (Sum.elim (fun (t36 : Int × Int) => (Sum.inl (t36.1,t36.2))) (fun (t36 : Bool) => (Sum.inr (Sum.inl t36)))) (by
  rintro (t36 | t36)
  · kernel_rfl
  · kernel_rfl))) (fun (t36 : Int) => (Sum.inr (Sum.inr t36))) (by
  rintro t36
  · kernel_rfl) (by
  rintro t36 f K h
  · exact h)) (Sum.elim (fun (t23 : Int × Int) => Sum.inl (t23.1,t23.2)) (Sum.elim (fun (t23 : Bool) => Sum.inr (Sum.inl t23)) (fun (t23 : Int) => Sum.inr (Sum.inr t23)))) (by
  rintro (t23 | t23 | t23)
  · kernel_rfl
  · kernel_rfl
  · kernel_rfl)) (0,0)) (Sum.elim (fun (t23 : Bool) => (Sum.inr t23)) (fun (t23 : Int) => (Sum.inl t23))) (by
  rintro (t23 | t23) K h
  · exact Eq.mp (by kernel_rfl) h
  · exact Eq.mp (by kernel_rfl) h)))) (fun (t23 : Int) => (Nk3 t23)) (fun (t23 : Bool) => t23) (by
  rintro t23
  · kernel_rfl) (by
  rintro t23 f K h
  · exact h))) (fun (t : Bool) => t) (by
  rintro t
  · kernel_rfl) (by
  rintro t f K h
  · exact h)))) (by unfold N6; kernel_rfl) (by
  intro t
  exact ret_mk [dB t] (by kernel_rfl) (by kernel_rfl) (by kernel_rfl) (by kernel_rfl)) h
def N1j : Fun := fun avs H =>
  match avs,H with
  | [.dat (.list (.int .i64)) a],[] => ⟨_,N6 a,fun (t : Bool) => (dB t,[]),[],none⟩
  | _,_ => Ans.no
theorem N3o : Sound Tryd.prog 24 N1j := by
  refine fn_sound' (C := Nc) (c := bodyOf Tryd.f24) (cok_of tys_ok (allc Naw alln) (allc Tryd.call39 alln) (by kernel_rfl)) Tryd.func24 (by kernel_rfl) LL N0 ?_
  intro avs H r H' h
  unfold N1j at h
  split at h
  · refine Awp.cast ?_ ?_ ?_ (Nr8 _ h) <;> kernel_rfl
  · simp [Ans.no,Ans.run] at h

def N30 : Ann := (.seq (.leaf [1]) (.seq (.seq (.leaf [1,3]) (.block (.loop (.seq (.seq (.leaf [1,3,8]) (.cond (.leaf [1,3]) (.leaf [1]))) (.seq (.block (.seq (.leaf [1,3,17]) (.cond (.seq (.leaf [2]) (.leaf [2])) (.leaf [1,3])))) (.leaf [1,3])))))) (.seq (.leaf [2]) (.leaf [2]))))
noncomputable def N3r : Ctx := ⟨tlook tys,olook [(24,N1j)],ioF,0,false,[]⟩
theorem Nof (a : List Int) (b : List (List Int)) : Link N3r LL (cq [0] (bodyOf Tryd.f21)) (aq [0] N30) ⟨mkE 27 0 [(0,.agg [dL a,.dat (.list (.list (.int .i64))) b])],[]⟩ (N5t) (fun (t : Unit) => (Exit.normal,⟨mkE 27 0 [(1,.ptr 0 0)],[some (.box [dL a,.dat (.list (.list (.int .i64))) b])]⟩)) := .of fun K h => by
  simp only [N5t,wpW] at h
  exact .of (by kernel_rfl) h
theorem Nte (a : List Int) (b : List (List Int)) : Link N3r LL (cq [0,0,1] (bodyOf Tryd.f21)) (aq [0,0,1] N30) ⟨mkE 27 0 [(1,.ptr 0 0)],[some (.box [dL a,.dat (.list (.list (.int .i64))) b])]⟩ (N5d) (fun (t : Unit) => (Exit.normal,⟨mkE 27 0 [(1,.ptr 0 0),(3,dI 0)],[some (.box [dL a,.dat (.list (.list (.int .i64))) b])]⟩)) := .of fun K h => by
  simp only [N5d,wpW] at h
  exact .of (by kernel_rfl) h
theorem Npj (a : Int) (b : List Int) (c : List (List Int)) : Link N3r LL (cq [0,0,1,0,1] (bodyOf Tryd.f21)) (aq [0,0,1,0,1] N30) ⟨mkE 27 0 [(1,.ptr 0 0),(3,dI a)],[some (.box [dL b,.dat (.list (.list (.int .i64))) c])]⟩ (N1q a c) (Sum.elim (fun (t : Int) => (Exit.normal,⟨mkE 27 0 [(1,.ptr 0 0),(3,dI t)],[some (.box [dL b,.dat (.list (.list (.int .i64))) c])]⟩)) (Sum.elim (fun (t : Bool) => (Exit.ret,⟨mkE 27 0 [(2,dB t)],[]⟩)) (fun (t : Unit) => ((Exit.exit 0),⟨mkE 27 0 [(1,.ptr 0 0)],[some (.box [dL b,.dat (.list (.list (.int .i64))) c])]⟩)))) := .of fun K h => by
  simp only [N1q,wpW] at h
  exact .of (by kernel_rfl) h
theorem Noe (a : List Int) (b : List (List Int)) : Link N3r LL (cq [1,1] (bodyOf Tryd.f21)) (aq [1,1] N30) ⟨mkE 27 0 [(1,.ptr 0 0)],[some (.box [dL a,.dat (.list (.list (.int .i64))) b])]⟩ (N7n a b) (fun (t : Bool) => (Exit.ret,⟨mkE 27 0 [(2,dB t)],[]⟩)) := .of fun K h => by
  simp only [N7n,wpW] at h
  exact .of (by kernel_rfl) h
theorem Nk5 (a : List Int) (b : List (List Int)) {r : AV} {H' : Heap} (h : (Ans.mk _ (N20 a b) (fun (t : Bool) => (dB t,[])) [] none).run = some (r,H')) : Awp N3r LL (bodyOf Tryd.f21) N30 ⟨mkE 27 0 [(0,.agg [dL a,.dat (.list (.list (.int .i64))) b])],[]⟩ (Ret (tlook tys) Tryd.f21.results.toList r H') :=
  ret_of' (Link.cast (by kernel_rfl) (by kernel_rfl) (link_seq (Nof a b) (fun (t : Unit) => (link_seq2 (link_seq (Nte a b) (fun (t : Unit) => (link_block (fin2 := (Sum.elim (fun (t : Unit) => (Exit.normal,⟨mkE 27 0 [(1,.ptr 0 0)],[some (.box [dL a,.dat (.list (.list (.int .i64))) b])]⟩)) (fun (t : Bool) => (Exit.ret,⟨mkE 27 0 [(2,dB t)],[]⟩)))) (id := 0) (link_loop (mk := fun (s : Int) => ⟨mkE 27 0 [(1,.ptr 0 0),(3,dI s)],[some (.box [dL a,.dat (.list (.list (.int .i64))) b])]⟩) (fin := (Sum.elim (fun (t : Bool) => (Exit.ret,⟨mkE 27 0 [(2,dB t)],[]⟩)) (fun (t : Unit) => ((Exit.exit 0),⟨mkE 27 0 [(1,.ptr 0 0)],[some (.box [dL a,.dat (.list (.list (.int .i64))) b])]⟩)))) (by
  rintro (t | t) f K h
  · exact h
  · exact h) (fun s => link_map (Npj s a b) (Sum.elim (fun (t : Int) => Sum.inl t) (Sum.elim (fun (t : Bool) => Sum.inr (Sum.inl t)) (fun (t : Unit) => Sum.inr (Sum.inr t)))) (by
  rintro (t | t | t)
  · kernel_rfl
  · kernel_rfl
  · kernel_rfl)) 0) (Sum.elim (fun (t : Bool) => (Sum.inr t)) (fun (t : Unit) => (Sum.inl ()))) (by
  rintro (t | t) K h
  · exact Eq.mp (by kernel_rfl) h
  · exact Eq.mp (by kernel_rfl) h)))) (fun (t : Unit) => (Noe a b)) (fun (t : Bool) => t) (by
  rintro t
  · kernel_rfl) (by
  rintro t f K h
  · exact h))))) (by unfold N20; kernel_rfl) (by
  intro t
  exact ret_mk [dB t] (by kernel_rfl) (by kernel_rfl) (by kernel_rfl) (by kernel_rfl)) h
def N98 : Fun := fun avs H =>
  match avs,H with
  | [.agg [.dat (.list (.int .i64)) a,.dat (.list (.list (.int .i64))) b]],[] => ⟨_,N20 a b,fun (t : Bool) => (dB t,[]),[],none⟩
  | _,_ => Ans.no
theorem Nln : Sound Tryd.prog 21 N98 := by
  refine fn_sound' (C := N3r) (c := bodyOf Tryd.f21) (cok_of tys_ok (allc N3o alln) (allc Tryd.call24 alln) (by kernel_rfl)) Tryd.func21 (by kernel_rfl) LL N30 ?_
  intro avs H r H' h
  unfold N98 at h
  split at h
  · refine Awp.cast ?_ ?_ ?_ (Nk5 _ _ h) <;> kernel_rfl
  · simp [Ans.no,Ans.run] at h

def N18 : Ann := (.seq (.leaf [1,2]) (.seq (.leaf [1,2,3]) (.seq (.seq (.leafF [⟨1,3,true,some 1,some (.int .i64)⟩] [1,2,3,4]) (.block (.loop (.seq (.seq (.leaf [1,2,3,4,14]) (.cond (.leaf [1,2,3,4]) (.leaf [2,3]))) (.seq (.block (.draw [8,2,100010] [0,1,2,3,4,5,6,7,8,9,10,11,12] [] [1,2,3,4])) (.leaf [1,2,3,4])))))) (.seq (.leaf [2]) (.leaf [2])))))
noncomputable def N2q : Ctx := ⟨tlook tys,olook [],ioF,0,true,[]⟩
theorem Nok (a : List Int) (b : List (List Int)) : Link N2q LL (Code.seq (cq [0] (bodyOf Tryd.f22)) (cq [0,1] (bodyOf Tryd.f22))) (Ann.seq (aq [0] N18) (aq [0,1] N18)) ⟨mkE 30 0 [(0,.agg [dL a,.dat (.list (.list (.int .i64))) b])],[]⟩ (N7b a) (fun (t : (List Int)) => (Exit.normal,⟨mkE 30 0 [(1,.ptr 0 0),(2,.ptr 1 0),(3,.ptr 2 0)],[some (.box [dL a,.dat (.list (.list (.int .i64))) b]),some (.box [.nils,.nils]),some (.box [.slc 3,.nils]),some (sI t)]⟩)) := .of fun K h => by
  simp only [N7b,wpW] at h
  exact .of (by kernel_rfl) h
theorem Ntg (a : List Int) (b : List (List Int)) (c : List Int) : Link N2q LL (cq [0,0,1,1] (bodyOf Tryd.f22)) (aq [0,0,1,1] N18) ⟨mkE 30 0 [(1,.ptr 0 0),(2,.ptr 1 0),(3,.ptr 2 0)],[some (.box [dL a,.dat (.list (.list (.int .i64))) b]),some (.box [.nils,.nils]),some (.box [.slc 3,.nils]),some (sI c)]⟩ (N62) (fun (t : Unit) => (Exit.normal,⟨mkE 30 0 [(1,.ptr 0 0),(2,.ptr 1 0),(3,.ptr 2 0),(4,dI 0)],[some (.box [dL a,.dat (.list (.list (.int .i64))) b]),some (.box [.nils,.nils]),some (.box [.slc 3,.slc 4]),some (sI c),some (.nest (.int .i64) ([] : List (List Int)) 0 [])]⟩)) := .of fun K h => by
  simp only [N62,wpW] at h
  exact .of (by kernel_rfl) h
theorem Nvp (a : Int) (b : List Int) (c : List (List Int)) (d : List Int) (g : List (List Int)) : Link N2q LL (cq [0,0,1,0,1,1] (bodyOf Tryd.f22)) (aq [0,0,1,0,1,1] N18) ⟨mkE 30 0 [(1,.ptr 0 0),(2,.ptr 1 0),(3,.ptr 2 0),(4,dI a)],[some (.box [dL b,.dat (.list (.list (.int .i64))) c]),some (.box [.nils,.nils]),some (.box [.slc 3,.slc 4]),some (sI d),some (.nest (.int .i64) g 0 [])]⟩ (N4b a c g) (Sum.elim (fun (t : Int × (List (List Int))) => (Exit.normal,⟨mkE 30 0 [(1,.ptr 0 0),(2,.ptr 1 0),(3,.ptr 2 0),(4,dI t.1)],[some (.box [dL b,.dat (.list (.list (.int .i64))) c]),some (.box [.nils,.nils]),some (.box [.slc 3,.slc 4]),some (sI d),some (.nest (.int .i64) t.2 0 [])]⟩)) (fun (t : (List (List Int))) => ((Exit.exit 0),⟨mkE 30 0 [(2,.ptr 0 0),(3,.ptr 1 0)],[some (.box [.nils,.nils]),some (.box [.slc 2,.slc 3]),some (sI d),some (.nest (.int .i64) t 0 [])]⟩))) := .of fun K h => by
  simp only [N4b,wpW] at h
  exact .of (by kernel_rfl) h
theorem Nkn (a : List Int) (b : List (List Int)) : Link N2q LL (cq [1,1,1] (bodyOf Tryd.f22)) (aq [1,1,1] N18) ⟨mkE 30 0 [(2,.ptr 0 0),(3,.ptr 1 0)],[some (.box [.nils,.nils]),some (.box [.slc 2,.slc 3]),some (sI a),some (.nest (.int .i64) b 0 [])]⟩ (N7r a b) (fun (t : (List Int) × (List (List Int))) => (Exit.ret,⟨mkE 30 0 [(2,.ptr 0 0)],[some (.box [.slc 1,.slc 2]),some (sI t.1),some (.nest (.int .i64) t.2 0 [])]⟩)) := .of fun K h => by
  simp only [N7r,wpW] at h
  exact .of (by kernel_rfl) h
theorem Nio (b : List Int) (d : List (List Int)) {r : AV} {H' : Heap} (h : (Ans.mk _ (N29 b d) (fun (t : (List Int) × (List (List Int))) => (.agg [.slc 1,.slc 2],[some (.box [.slc 1,.slc 2]),some (sI t.1),some (.nest (.int .i64) t.2 0 [])])) [] none).run = some (r,H')) : Awp N2q LL (bodyOf Tryd.f22) N18 ⟨mkE 30 0 [(0,.agg [dL b,.dat (.list (.list (.int .i64))) d])],[]⟩ (Ret (tlook tys) Tryd.f22.results.toList r H') :=
  ret_of' (Link.cast (by kernel_rfl) (by kernel_rfl) (link_group (c := (cq [0,1] (bodyOf Tryd.f22))) (a := (aq [0,1] N18)) [(cq [0] (bodyOf Tryd.f22))] [(aq [0] N18)] rfl (link_seq (Nok b d) (fun (t : (List Int)) => (link_seq (link_seq (Ntg b d t) (fun (t24 : Unit) => (link_block (fin2 := (fun (t24 : (List (List Int))) => (Exit.normal,⟨mkE 30 0 [(2,.ptr 0 0),(3,.ptr 1 0)],[some (.box [.nils,.nils]),some (.box [.slc 2,.slc 3]),some (sI t),some (.nest (.int .i64) t24 0 [])]⟩))) (id := 0) (link_loop (mk := fun (s : Int × (List (List Int))) => ⟨mkE 30 0 [(1,.ptr 0 0),(2,.ptr 1 0),(3,.ptr 2 0),(4,dI s.1)],[some (.box [dL b,.dat (.list (.list (.int .i64))) d]),some (.box [.nils,.nils]),some (.box [.slc 3,.slc 4]),some (sI t),some (.nest (.int .i64) s.2 0 [])]⟩) (fin := (fun (t24 : (List (List Int))) => ((Exit.exit 0),⟨mkE 30 0 [(2,.ptr 0 0),(3,.ptr 1 0)],[some (.box [.nils,.nils]),some (.box [.slc 2,.slc 3]),some (sI t),some (.nest (.int .i64) t24 0 [])]⟩))) (by
  rintro t24 f K h
  · exact h) (fun s => link_map (Nvp s.1 b d t s.2) (Sum.elim (fun (t24 : Int × (List (List Int))) => Sum.inl (t24.1,t24.2)) (fun (t24 : (List (List Int))) => Sum.inr t24)) (by
  rintro (t24 | t24)
  · kernel_rfl
  · kernel_rfl)) (0,([] : List (List Int)))) (fun (t24 : (List (List Int))) => t24) (by
  rintro t24 K h
  · exact Eq.mp (by kernel_rfl) h)))) (fun (t24 : (List (List Int))) => (Nkn t t24))))))) (by unfold N29; kernel_rfl) (by
  intro t
  exact ret_mk [.agg [.slc 1,.slc 2]] (by kernel_rfl) (by kernel_rfl) (by kernel_rfl) (by kernel_rfl)) h
def Nbb : Fun := fun avs H =>
  match avs,H with
  | [.agg [.dat (.list (.int .i64)) a,.dat (.list (.list (.int .i64))) b]],[] => ⟨_,N29 a b,fun (t : (List Int) × (List (List Int))) => (.agg [.slc 1,.slc 2],[some (.box [.slc 1,.slc 2]),some (sI t.1),some (.nest (.int .i64) t.2 0 [])]),[],none⟩
  | _,_ => Ans.no
theorem Nin : Sound Tryd.prog 22 Nbb := by
  refine fn_sound' (C := N2q) (c := bodyOf Tryd.f22) (cok_of tys_ok (alln) (alln) (by kernel_rfl)) Tryd.func22 (by kernel_rfl) LL N18 ?_
  intro avs H r H' h
  unfold Nbb at h
  split at h
  · refine Awp.cast ?_ ?_ ?_ (Nio _ _ h) <;> kernel_rfl
  · simp [Ans.no,Ans.run] at h

def Nh : Ann := (.seq (.leaf [0]) (.seq (.leaf [0,3]) (.seq (.leaf [0,3,4]) (.seq (.seq (.leaf [0,3,4,5]) (.block (.loop (.seq (.seq (.leaf [0,3,4,5,16]) (.cond (.leaf [0,3,4,5]) (.leaf [3]))) (.seq (.block (.seq (.leaf [0,3,4,5,23]) (.cond (.leaf [0,3,4,5]) (.leaf [0,3,4,5])))) (.leaf [0,3,4,5])))))) (.seq (.leaf [2]) (.leaf [2]))))))
noncomputable def N33 : Ctx := ⟨tlook tys,olook [(24,N1j)],ioF,0,false,[]⟩
theorem Nv6 (a : List Int) : Link N33 LL (Code.seq (cq [0] (bodyOf Tryd.f40)) (Code.seq (cq [0,1] (bodyOf Tryd.f40)) (cq [0,1,1] (bodyOf Tryd.f40)))) (Ann.seq (aq [0] Nh) (Ann.seq (aq [0,1] Nh) (aq [0,1,1] Nh))) ⟨mkE 38 0 [(0,dL a)],[]⟩ (N72 a) (fun (t : Int) => (Exit.normal,⟨mkE 38 0 [(0,dL a),(3,.slc 0),(4,dI t)],[some (sI ([] : List Int))]⟩)) := .of fun K h => by
  simp only [N72,wpW] at h
  exact .of (by kernel_rfl) h
theorem Nw2 (a : List Int) (b : Int) : Link N33 LL (cq [0,0,1,1,1] (bodyOf Tryd.f40)) (aq [0,0,1,1,1] Nh) ⟨mkE 38 0 [(0,dL a),(3,.slc 0),(4,dI b)],[some (sI ([] : List Int))]⟩ (N5i b) (fun (t : Int) => (Exit.normal,⟨mkE 38 0 [(0,dL a),(3,.slc 0),(4,dI b),(5,dI t)],[some (sI ([] : List Int))]⟩)) := .of fun K h => by
  simp only [N5i,wpW] at h
  exact .of (by kernel_rfl) h
theorem Not (a : List Int) (b c : Int) (d : List Int) : Link N33 LL (cq [0,0,1,0,1,1,1] (bodyOf Tryd.f40)) (aq [0,0,1,0,1,1,1] Nh) ⟨mkE 38 0 [(0,dL a),(3,.slc 0),(4,dI b),(5,dI c)],[some (sI d)]⟩ (N1f a b c d) (Sum.elim (fun (t : Int × (List Int)) => (Exit.normal,⟨mkE 38 0 [(0,dL a),(3,.slc 0),(4,dI b),(5,dI t.1)],[some (sI t.2)]⟩)) (fun (t : (List Int)) => ((Exit.exit 0),⟨mkE 38 0 [(3,.slc 0)],[some (sI t)]⟩))) := .of fun K h => by
  simp only [N1f,wpW] at h
  exact .of (by kernel_rfl) h
theorem Nnr (a : List Int) : Link N33 LL (cq [1,1,1,1] (bodyOf Tryd.f40)) (aq [1,1,1,1] Nh) ⟨mkE 38 0 [(3,.slc 0)],[some (sI a)]⟩ (N7w a) (fun (t : (List Int)) => (Exit.ret,⟨mkE 38 0 [(2,.slc 0)],[some (sI t)]⟩)) := .of fun K h => by
  simp only [N7w,wpW] at h
  exact .of (by kernel_rfl) h
theorem No1 (b : List Int) {r : AV} {H' : Heap} (h : (Ans.mk _ (Ns b) (fun (t : (List Int)) => (.slc 0,[some (sI t)])) [] none).run = some (r,H')) : Awp N33 LL (bodyOf Tryd.f40) Nh ⟨mkE 38 0 [(0,dL b)],[]⟩ (Ret (tlook tys) Tryd.f40.results.toList r H') :=
  ret_of' (Link.cast (by kernel_rfl) (by kernel_rfl) (link_group (c := (cq [0,1,1] (bodyOf Tryd.f40))) (a := (aq [0,1,1] Nh)) [(cq [0] (bodyOf Tryd.f40)),(cq [0,1] (bodyOf Tryd.f40))] [(aq [0] Nh),(aq [0,1] Nh)] rfl (link_seq (Nv6 b) (fun (t : Int) => (link_seq (link_seq (Nw2 b t) (fun (t25 : Int) => (link_block (fin2 := (fun (t4 : (List Int)) => (Exit.normal,⟨mkE 38 0 [(3,.slc 0)],[some (sI t4)]⟩))) (id := 0) (link_loop (mk := fun (s : Int × (List Int)) => ⟨mkE 38 0 [(0,dL b),(3,.slc 0),(4,dI t),(5,dI s.1)],[some (sI s.2)]⟩) (fin := (fun (t4 : (List Int)) => ((Exit.exit 0),⟨mkE 38 0 [(3,.slc 0)],[some (sI t4)]⟩))) (by
  rintro t4 f K h
  · exact h) (fun s => link_map (Not b t s.1 s.2) (Sum.elim (fun (t4 : Int × (List Int)) => Sum.inl (t4.1,t4.2)) (fun (t4 : (List Int)) => Sum.inr t4)) (by
  rintro (t4 | t4)
  · kernel_rfl
  · kernel_rfl)) (t25,([] : List Int))) (fun (t4 : (List Int)) => t4) (by
  rintro t4 K h
  · exact Eq.mp (by kernel_rfl) h)))) (fun (t25 : (List Int)) => (Nnr t25))))))) (by unfold Ns; kernel_rfl) (by
  intro t
  exact ret_mk [.slc 0] (by kernel_rfl) (by kernel_rfl) (by kernel_rfl) (by kernel_rfl)) h
def Na7 : Fun := fun avs H =>
  match avs,H with
  | [.dat (.list (.int .i64)) a],[] => ⟨_,Ns a,fun (t : (List Int)) => (.slc 0,[some (sI t)]),[],none⟩
  | _,_ => Ans.no
theorem Nrx : Sound Tryd.prog 40 Na7 := by
  refine fn_sound' (C := N33) (c := bodyOf Tryd.f40) (cok_of tys_ok (allc N3o alln) (allc Tryd.call24 alln) (by kernel_rfl)) Tryd.func40 (by kernel_rfl) LL Nh ?_
  intro avs H r H' h
  unfold Na7 at h
  split at h
  · refine Awp.cast ?_ ?_ ?_ (No1 _ h) <;> kernel_rfl
  · simp [Ans.no,Ans.run] at h

def N2n : Ann := (.seq (.leaf [0]) (.seq (.seq (.leaf [0,3]) (.block (.loop (.seq (.seq (.leaf [0,3,11]) (.cond (.leaf [0,3]) (.leaf []))) (.seq (.block (.seq (.leaf [0,3,18]) (.cond (.seq (.leaf [2]) (.leaf [2])) (.leaf [0,3])))) (.leaf [0,3])))))) (.seq (.leaf [2]) (.leaf [2]))))
noncomputable def N44 : Ctx := ⟨tlook tys,olook [(24,N1j)],ioF,0,false,[]⟩
theorem Nta (a : List Int) : Link N44 LL (cq [0] (bodyOf Tryd.f57)) (aq [0] N2n) ⟨mkE 21 0 [(0,dL a)],[]⟩ (N76) (fun (t : Unit) => (Exit.normal,⟨mkE 21 0 [(0,dL a)],[]⟩)) := .of fun K h => by
  simp only [N76,wpW] at h
  exact .of (by kernel_rfl) h
theorem No0 (a : List Int) : Link N44 LL (cq [0,0,1] (bodyOf Tryd.f57)) (aq [0,0,1] N2n) ⟨mkE 21 0 [(0,dL a)],[]⟩ (N5h) (fun (t : Unit) => (Exit.normal,⟨mkE 21 0 [(0,dL a),(3,dI 0)],[]⟩)) := .of fun K h => by
  simp only [N5h,wpW] at h
  exact .of (by kernel_rfl) h
theorem Nsl (a : List Int) (b : Int) : Link N44 LL (cq [0,0,1,0,1] (bodyOf Tryd.f57)) (aq [0,0,1,0,1] N2n) ⟨mkE 21 0 [(0,dL a),(3,dI b)],[]⟩ (N2i a b) (Sum.elim (fun (t : Int) => (Exit.normal,⟨mkE 21 0 [(0,dL a),(3,dI t)],[]⟩)) (Sum.elim (fun (t : Int) => (Exit.ret,⟨mkE 21 0 [(2,dI t)],[]⟩)) (fun (t : Unit) => ((Exit.exit 0),⟨mkE 21 0 [],[]⟩)))) := .of fun K h => by
  simp only [N2i,wpW] at h
  exact .of (by kernel_rfl) h
theorem Nvq : Link N44 LL (cq [1,1] (bodyOf Tryd.f57)) (aq [1,1] N2n) ⟨mkE 21 0 [],[]⟩ (N87) (fun (t : Int) => (Exit.ret,⟨mkE 21 0 [(2,dI t)],[]⟩)) := .of fun K h => by
  simp only [N87,wpW] at h
  exact .of (by kernel_rfl) h
theorem Nvg (a : List Int) {r : AV} {H' : Heap} (h : (Ans.mk _ (N31 a) (fun (t : Int) => (dI t,[])) [] none).run = some (r,H')) : Awp N44 LL (bodyOf Tryd.f57) N2n ⟨mkE 21 0 [(0,dL a)],[]⟩ (Ret (tlook tys) Tryd.f57.results.toList r H') :=
  ret_of' (Link.cast (by kernel_rfl) (by kernel_rfl) (link_seq (Nta a) (fun (t : Unit) => (link_seq2 (link_seq (No0 a) (fun (t : Unit) => (link_block (fin2 := (Sum.elim (fun (t : Unit) => (Exit.normal,⟨mkE 21 0 [],[]⟩)) (fun (t : Int) => (Exit.ret,⟨mkE 21 0 [(2,dI t)],[]⟩)))) (id := 0) (link_loop (mk := fun (s : Int) => ⟨mkE 21 0 [(0,dL a),(3,dI s)],[]⟩) (fin := (Sum.elim (fun (t : Int) => (Exit.ret,⟨mkE 21 0 [(2,dI t)],[]⟩)) (fun (t : Unit) => ((Exit.exit 0),⟨mkE 21 0 [],[]⟩)))) (by
  rintro (t | t) f K h
  · exact h
  · exact h) (fun s => link_map (Nsl a s) (Sum.elim (fun (t : Int) => Sum.inl t) (Sum.elim (fun (t : Int) => Sum.inr (Sum.inl t)) (fun (t : Unit) => Sum.inr (Sum.inr t)))) (by
  rintro (t | t | t)
  · kernel_rfl
  · kernel_rfl
  · kernel_rfl)) 0) (Sum.elim (fun (t : Int) => (Sum.inr t)) (fun (t : Unit) => (Sum.inl ()))) (by
  rintro (t | t) K h
  · exact Eq.mp (by kernel_rfl) h
  · exact Eq.mp (by kernel_rfl) h)))) (fun (t : Unit) => (Nvq)) (fun (t : Int) => t) (by
  rintro t
  · kernel_rfl) (by
  rintro t f K h
  · exact h))))) (by unfold N31; kernel_rfl) (by
  intro t
  exact ret_mk [dI t] (by kernel_rfl) (by kernel_rfl) (by kernel_rfl) (by kernel_rfl)) h
def Naq : Fun := fun avs H =>
  match avs,H with
  | [.dat (.list (.int .i64)) a],[] => ⟨_,N31 a,fun (t : Int) => (dI t,[]),[],none⟩
  | _,_ => Ans.no
theorem Ntq : Sound Tryd.prog 57 Naq := by
  refine fn_sound' (C := N44) (c := bodyOf Tryd.f57) (cok_of tys_ok (allc N3o alln) (allc Tryd.call24 alln) (by kernel_rfl)) Tryd.func57 (by kernel_rfl) LL N2n ?_
  intro avs H r H' h
  unfold Naq at h
  split at h
  · refine Awp.cast ?_ ?_ ?_ (Nvg _ h) <;> kernel_rfl
  · simp [Ans.no,Ans.run] at h

def Na : Ann := (.seq (.leaf [0,1]) (.seq (.leaf [0,1,5]) (.seq (.seq (.leaf [0,1,5,6]) (.block (.loop (.seq (.seq (.leaf [0,1,5,6,11]) (.cond (.leaf [0,1,5,6]) (.leaf [0,1,5]))) (.seq (.block (.seq (.leaf [0,1,5,6,20]) (.cond (.leaf [0,1,5,6]) (.leaf [0,1,5,6])))) (.leaf [0,1,5,6])))))) (.seq (.leaf [0,1,5]) (.seq (.seq (.leaf [0,1,5,7]) (.block (.loop (.seq (.seq (.leaf [0,1,5,7,35]) (.cond (.leaf [0,1,5,7]) (.leaf [5]))) (.seq (.block (.seq (.leaf [0,1,5,7,44]) (.cond (.leaf [0,1,5,7]) (.leaf [0,1,5,7])))) (.leaf [0,1,5,7])))))) (.seq (.leaf [4]) (.leaf [4])))))))
def Ny (n : Nat) : Fun := fun avs H =>
  match avs,H with
  | [.dat (.list (.int .i64)) a,.dat (.int .i64) b],[] => ⟨_,N3 n a b,fun (t : (List Int)) => (.slc 0,[some (sI t)]),[],none⟩
  | _,_ => Ans.no
noncomputable def N16 (n : Nat) : Ctx := ⟨tlook tys,olook [(56,Ny n)],ioF,0,false,[]⟩
theorem Nqt (n : Nat) (a : List Int) (b : Int) : Link (N16 n) LL (Code.seq (cq [0] (bodyOf Tryd.f56)) (cq [0,1] (bodyOf Tryd.f56))) (Ann.seq (aq [0] Na) (aq [0,1] Na)) ⟨mkE 51 0 [(0,dL a),(1,dI b)],[]⟩ (N8r (N3 n)) (fun (t : Unit) => (Exit.normal,⟨mkE 51 0 [(0,dL a),(1,dI b),(5,.slc 0)],[some (sI ([] : List Int))]⟩)) := .of fun K h => by
  simp only [N8r,wpW] at h
  exact .of (by kernel_rfl) h
theorem Niv (n : Nat) (a : List Int) (b : Int) : Link (N16 n) LL (cq [0,0,1,1] (bodyOf Tryd.f56)) (aq [0,0,1,1] Na) ⟨mkE 51 0 [(0,dL a),(1,dI b),(5,.slc 0)],[some (sI ([] : List Int))]⟩ (N73 (N3 n)) (fun (t : Unit) => (Exit.normal,⟨mkE 51 0 [(0,dL a),(1,dI b),(5,.slc 0),(6,dI 1)],[some (sI ([] : List Int))]⟩)) := .of fun K h => by
  simp only [N73,wpW] at h
  exact .of (by kernel_rfl) h
theorem Nnj (n : Nat) (a : List Int) (b c : Int) (d : List Int) : Link (N16 n) LL (cq [0,0,1,0,1,1] (bodyOf Tryd.f56)) (aq [0,0,1,0,1,1] Na) ⟨mkE 51 0 [(0,dL a),(1,dI b),(5,.slc 0),(6,dI c)],[some (sI d)]⟩ (N3l (N3 n) a b c d) (Sum.elim (fun (t : Int × (List Int)) => (Exit.normal,⟨mkE 51 0 [(0,dL a),(1,dI b),(5,.slc 0),(6,dI t.1)],[some (sI t.2)]⟩)) (fun (t : (List Int)) => ((Exit.exit 0),⟨mkE 51 0 [(0,dL a),(1,dI b),(5,.slc 0)],[some (sI t)]⟩))) := .of fun K h => by
  simp only [N3l,wpW] at h
  exact .of (by kernel_rfl) h
theorem Nsz (n : Nat) (a : List Int) (b : Int) (c : List Int) : Link (N16 n) LL (cq [0,1,1,1] (bodyOf Tryd.f56)) (aq [0,1,1,1] Na) ⟨mkE 51 0 [(0,dL a),(1,dI b),(5,.slc 0)],[some (sI c)]⟩ (N6j (N3 n) b c) (fun (t : (List Int)) => (Exit.normal,⟨mkE 51 0 [(0,dL a),(1,dI b),(5,.slc 0)],[some (sI t)]⟩)) := .of fun K h => by
  simp only [N6j,wpW] at h
  exact .of (by kernel_rfl) h
theorem Nod (n : Nat) (a : List Int) (b : Int) (c : List Int) : Link (N16 n) LL (cq [0,0,1,1,1,1] (bodyOf Tryd.f56)) (aq [0,0,1,1,1,1] Na) ⟨mkE 51 0 [(0,dL a),(1,dI b),(5,.slc 0)],[some (sI c)]⟩ (N8b (N3 n) b) (fun (t : Int) => (Exit.normal,⟨mkE 51 0 [(0,dL a),(1,dI b),(5,.slc 0),(7,dI t)],[some (sI c)]⟩)) := .of fun K h => by
  simp only [N8b,wpW] at h
  exact .of (by kernel_rfl) h
theorem Nvl (n : Nat) (a : List Int) (b c : Int) (d : List Int) : Link (N16 n) LL (cq [0,0,1,0,1,1,1,1] (bodyOf Tryd.f56)) (aq [0,0,1,0,1,1,1,1] Na) ⟨mkE 51 0 [(0,dL a),(1,dI b),(5,.slc 0),(7,dI c)],[some (sI d)]⟩ (N3c (N3 n) a b c d) (Sum.elim (fun (t : Int × (List Int)) => (Exit.normal,⟨mkE 51 0 [(0,dL a),(1,dI b),(5,.slc 0),(7,dI t.1)],[some (sI t.2)]⟩)) (fun (t : (List Int)) => ((Exit.exit 2),⟨mkE 51 0 [(5,.slc 0)],[some (sI t)]⟩))) := .of fun K h => by
  simp only [N3c,wpW] at h
  exact .of (by kernel_rfl) h
theorem Nl3 (n : Nat) (a : List Int) : Link (N16 n) LL (cq [1,1,1,1,1] (bodyOf Tryd.f56)) (aq [1,1,1,1,1] Na) ⟨mkE 51 0 [(5,.slc 0)],[some (sI a)]⟩ (N64 (N3 n) a) (fun (t : (List Int)) => (Exit.ret,⟨mkE 51 0 [(4,.slc 0)],[some (sI t)]⟩)) := .of fun K h => by
  simp only [N64,wpW] at h
  exact .of (by kernel_rfl) h
theorem Njn (n : Nat) (b : List Int) (d : Int) {r : AV} {H' : Heap} (h : (Ans.mk _ (N3 (n + 1) b d) (fun (t : (List Int)) => (.slc 0,[some (sI t)])) [] none).run = some (r,H')) : Awp (N16 n) LL (bodyOf Tryd.f56) Na ⟨mkE 51 0 [(0,dL b),(1,dI d)],[]⟩ (Ret (tlook tys) Tryd.f56.results.toList r H') :=
  ret_of' (Link.cast (by kernel_rfl) (by kernel_rfl) (link_group (c := (cq [0,1] (bodyOf Tryd.f56))) (a := (aq [0,1] Na)) [(cq [0] (bodyOf Tryd.f56))] [(aq [0] Na)] rfl (link_seq (Nqt n b d) (fun (t : Unit) => (link_seq (link_seq (Niv n b d) (fun (t : Unit) => (link_block (fin2 := (fun (t : (List Int)) => (Exit.normal,⟨mkE 51 0 [(0,dL b),(1,dI d),(5,.slc 0)],[some (sI t)]⟩))) (id := 0) (link_loop (mk := fun (s : Int × (List Int)) => ⟨mkE 51 0 [(0,dL b),(1,dI d),(5,.slc 0),(6,dI s.1)],[some (sI s.2)]⟩) (fin := (fun (t : (List Int)) => ((Exit.exit 0),⟨mkE 51 0 [(0,dL b),(1,dI d),(5,.slc 0)],[some (sI t)]⟩))) (by
  rintro t f K h
  · exact h) (fun s => link_map (Nnj n b d s.1 s.2) (Sum.elim (fun (t : Int × (List Int)) => Sum.inl (t.1,t.2)) (fun (t : (List Int)) => Sum.inr t)) (by
  rintro (t | t)
  · kernel_rfl
  · kernel_rfl)) (1,([] : List Int))) (fun (t : (List Int)) => t) (by
  rintro t K h
  · exact Eq.mp (by kernel_rfl) h)))) (fun (t : (List Int)) => (link_seq (Nsz n b d t) (fun (t37 : (List Int)) => (link_seq (link_seq (Nod n b d t37) (fun (t26 : Int) => (link_block (fin2 := (fun (t5 : (List Int)) => (Exit.normal,⟨mkE 51 0 [(5,.slc 0)],[some (sI t5)]⟩))) (id := 2) (link_loop (mk := fun (s : Int × (List Int)) => ⟨mkE 51 0 [(0,dL b),(1,dI d),(5,.slc 0),(7,dI s.1)],[some (sI s.2)]⟩) (fin := (fun (t5 : (List Int)) => ((Exit.exit 2),⟨mkE 51 0 [(5,.slc 0)],[some (sI t5)]⟩))) (by
  rintro t5 f K h
  · exact h) (fun s => link_map (Nvl n b d s.1 s.2) (Sum.elim (fun (t5 : Int × (List Int)) => Sum.inl (t5.1,t5.2)) (fun (t5 : (List Int)) => Sum.inr t5)) (by
  rintro (t5 | t5)
  · kernel_rfl
  · kernel_rfl)) (t26,t37)) (fun (t5 : (List Int)) => t5) (by
  rintro t5 K h
  · exact Eq.mp (by kernel_rfl) h)))) (fun (t26 : (List Int)) => (Nl3 n t26))))))))))) (by (show _ = _); kernel_rfl) (by
  intro t
  exact ret_mk [.slc 0] (by kernel_rfl) (by kernel_rfl) (by kernel_rfl) (by kernel_rfl)) h
theorem Nmq (n : Nat) (h56 : Sound Tryd.prog 56 (Ny n)) : Sound Tryd.prog 56 (Ny (n + 1)) := by
  refine fn_sound' (C := N16 n) (c := bodyOf Tryd.f56) (cok_of tys_ok (allc h56 alln) (allc Tryd.call56 alln) (by kernel_rfl)) Tryd.func56 (by kernel_rfl) LL Na ?_
  intro avs H r H' h
  unfold Ny at h
  split at h
  · refine Awp.cast ?_ ?_ ?_ (Njn n _ _ h) <;> kernel_rfl
  · simp [Ans.no,Ans.run] at h
theorem Nlk : Sound Tryd.prog 56 (Ny 0) := by
  intro avs H r H' h
  unfold Ny at h
  split at h
  · simp [N3,N2k,Ans.run] at h
  · simp [Ans.no,Ans.run] at h
theorem Neo : ∀ n,Sound Tryd.prog 56 (Ny n)
  | 0 => Nlk
  | n + 1 => by
    have h56 := Neo n
    exact Nmq n h56
def N85 : Fun := fun avs H =>
  match avs,H with
  | [.dat (.list (.int .i64)) a,.dat (.int .i64) b],[] => ⟨_,N53 a b,fun (t : (List Int)) => (.slc 0,[some (sI t)]),[],none⟩
  | _,_ => Ans.no
theorem Nv0 : Sound Tryd.prog 56 N85 := by
  have e : N85 = Ny RR := by
    funext avs H
    unfold N85 Ny
    split <;> first | rfl | (simp only [N53])
  rw [e]
  exact (Neo RR)

def Nck : Ann := (.seq (.leaf [0]) (.seq (.seq (.leaf [0,5]) (.cond (.seq (.leaf [2]) (.leaf [2])) (.leaf [0]))) (.seq (.leaf [2]) (.leaf [2]))))
noncomputable def Nb5 : Ctx := ⟨tlook tys,olook [(24,N1j),(57,Naq),(56,N85)],ioF,0,false,[]⟩
theorem Nr9 (a : List Int) : Link Nb5 LL (bodyOf Tryd.f49) Nck ⟨mkE 11 0 [(0,dL a)],[]⟩ (N5g a) (fun (t : (List Int)) => (Exit.ret,⟨mkE 11 0 [(2,.slc 0)],[some (sI t)]⟩)) := .of fun K h => by
  simp only [N5g,wpW] at h
  exact .of (by kernel_rfl) h
theorem Nub (a : List Int) {r : AV} {H' : Heap} (h : (Ans.mk _ (N3b a) (fun (t : (List Int)) => (.slc 0,[some (sI t)])) [] none).run = some (r,H')) : Awp Nb5 LL (bodyOf Tryd.f49) Nck ⟨mkE 11 0 [(0,dL a)],[]⟩ (Ret (tlook tys) Tryd.f49.results.toList r H') :=
  ret_of' (Nr9 a) (by unfold N3b; kernel_rfl) (by
  intro t
  exact ret_mk [.slc 0] (by kernel_rfl) (by kernel_rfl) (by kernel_rfl) (by kernel_rfl)) h
def N92 : Fun := fun avs H =>
  match avs,H with
  | [.dat (.list (.int .i64)) a],[] => ⟨_,N3b a,fun (t : (List Int)) => (.slc 0,[some (sI t)]),[],none⟩
  | _,_ => Ans.no
theorem Nqn : Sound Tryd.prog 49 N92 := by
  refine fn_sound' (C := Nb5) (c := bodyOf Tryd.f49) (cok_of tys_ok (allc N3o (allc Ntq (allc Nv0 alln))) (allc Tryd.call24 (allc Tryd.call57 (allc Tryd.call56 alln))) (by kernel_rfl)) Tryd.func49 (by kernel_rfl) LL Nck ?_
  intro avs H r H' h
  unfold N92 at h
  split at h
  · refine Awp.cast ?_ ?_ ?_ (Nub _ h) <;> kernel_rfl
  · simp [Ans.no,Ans.run] at h

def N9 : Ann := (.seq (.leaf [0,1]) (.seq (.seq (.leaf [0,1,5]) (.block (.loop (.seq (.seq (.leaf [0,1,5,10]) (.cond (.leaf [0,1,5]) (.leaf [0,1]))) (.seq (.block (.seq (.seq (.leaf [0,1,5,19]) (.cond (.seq (.leaf [4]) (.leaf [4])) (.leaf [0,1,5]))) (.seq (.leaf [0,1,5,6]) (.block (.loop (.seq (.seq (.leaf [0,1,5,6,22]) (.cond (.leaf [0,1,5,6]) (.leaf [0,1,5]))) (.seq (.block (.seq (.draw [] [0,1,2,3,4,5,6,7,8] [] [0,1,5,6,33]) (.cond (.seq (.leaf [4]) (.leaf [4])) (.leaf [0,1,5,6])))) (.leaf [0,1,5,6])))))))) (.leaf [0,1,5])))))) (.seq (.leaf [4]) (.leaf [4]))))
noncomputable def N1b : Ctx := ⟨tlook tys,olook [(39,N55)],ioF,0,false,[]⟩
theorem Nls (a : List Int) (b : Int) : Link N1b LL (cq [0] (bodyOf Tryd.f55)) (aq [0] N9) ⟨mkE 42 0 [(0,dL a),(1,dI b)],[]⟩ (N5x) (fun (t : Unit) => (Exit.normal,⟨mkE 42 0 [(0,dL a),(1,dI b)],[]⟩)) := .of fun K h => by
  simp only [N5x,wpW] at h
  exact .of (by kernel_rfl) h
theorem Nmn (a : List Int) (b : Int) : Link N1b LL (cq [0,0,1] (bodyOf Tryd.f55)) (aq [0,0,1] N9) ⟨mkE 42 0 [(0,dL a),(1,dI b)],[]⟩ (N5p) (fun (t : Unit) => (Exit.normal,⟨mkE 42 0 [(0,dL a),(1,dI b),(5,dI 0)],[]⟩)) := .of fun K h => by
  simp only [N5p,wpW] at h
  exact .of (by kernel_rfl) h
theorem Nu2 (a : List Int) (b c : Int) : Link N1b LL (cq [0,0,0,1,0,1] (bodyOf Tryd.f55)) (aq [0,0,0,1,0,1] N9) ⟨mkE 42 0 [(0,dL a),(1,dI b),(5,dI c)],[]⟩ (N6p a c) (Sum.elim (fun (t : Unit) => (Exit.normal,⟨mkE 42 0 [(0,dL a),(1,dI b),(5,dI c)],[]⟩)) (fun (t : Unit) => ((Exit.exit 0),⟨mkE 42 0 [(0,dL a),(1,dI b)],[]⟩))) := .of fun K h => by
  simp only [N6p,wpW] at h
  exact .of (by kernel_rfl) h
theorem Nmr (a : List Int) (b c : Int) : Link N1b LL (Code.seq (cq [0,0,0,1,0,0,1,0,1] (bodyOf Tryd.f55)) (cq [0,1,0,0,1,0,0,1,0,1] (bodyOf Tryd.f55))) (Ann.seq (aq [0,0,0,1,0,0,1,0,1] N9) (aq [0,1,0,0,1,0,0,1,0,1] N9)) ⟨mkE 42 0 [(0,dL a),(1,dI b),(5,dI c)],[]⟩ (N67 a b c) (Sum.elim (fun (t : Unit) => (Exit.normal,⟨mkE 42 0 [(0,dL a),(1,dI b),(5,dI c),(6,dI 0)],[]⟩)) (fun (t : Bool) => (Exit.ret,⟨mkE 42 0 [(4,dB t)],[]⟩))) := .of fun K h => by
  simp only [N67,wpW] at h
  exact .of (by kernel_rfl) h
theorem Nm6 (a : List Int) (b c d : Int) : Link N1b LL (cq [0,0,1,1,0,0,1,0,0,1,0,1] (bodyOf Tryd.f55)) (aq [0,0,1,1,0,0,1,0,0,1,0,1] N9) ⟨mkE 42 0 [(0,dL a),(1,dI b),(5,dI c),(6,dI d)],[]⟩ (N4r a c d) (Sum.elim (fun (t : Int) => (Exit.normal,⟨mkE 42 0 [(0,dL a),(1,dI b),(5,dI c),(6,dI t)],[]⟩)) (Sum.elim (fun (t : Bool) => (Exit.ret,⟨mkE 42 0 [(4,dB t)],[]⟩)) (fun (t : Unit) => ((Exit.exit 2),⟨mkE 42 0 [(0,dL a),(1,dI b),(5,dI c)],[]⟩)))) := .of fun K h => by
  simp only [N4r,wpW] at h
  exact .of (by kernel_rfl) h
theorem Ntl (a : List Int) (b c : Int) : Link N1b LL (cq [1,1,0,0,1,0,1] (bodyOf Tryd.f55)) (aq [1,1,0,0,1,0,1] N9) ⟨mkE 42 0 [(0,dL a),(1,dI b),(5,dI c)],[]⟩ (N5r c) (fun (t : Int) => (Exit.normal,⟨mkE 42 0 [(0,dL a),(1,dI b),(5,dI t)],[]⟩)) := .of fun K h => by
  simp only [N5r,wpW] at h
  exact .of (by kernel_rfl) h
theorem Nuh (a : List Int) (b : Int) : Link N1b LL (cq [1,1] (bodyOf Tryd.f55)) (aq [1,1] N9) ⟨mkE 42 0 [(0,dL a),(1,dI b)],[]⟩ (N7h a b) (fun (t : Bool) => (Exit.ret,⟨mkE 42 0 [(4,dB t)],[]⟩)) := .of fun K h => by
  simp only [N7h,wpW] at h
  exact .of (by kernel_rfl) h
theorem Njl (b : List Int) (d : Int) {r : AV} {H' : Heap} (h : (Ans.mk _ (N2m b d) (fun (t : Bool) => (dB t,[])) [] none).run = some (r,H')) : Awp N1b LL (bodyOf Tryd.f55) N9 ⟨mkE 42 0 [(0,dL b),(1,dI d)],[]⟩ (Ret (tlook tys) Tryd.f55.results.toList r H') :=
  ret_of' (Link.cast (by kernel_rfl) (by kernel_rfl) (link_seq (Nls b d) (fun (t : Unit) => (link_seq2 (link_seq (Nmn b d) (fun (t : Unit) => (link_block (fin2 := (Sum.elim (fun (t : Unit) => (Exit.normal,⟨mkE 42 0 [(0,dL b),(1,dI d)],[]⟩)) (fun (t : Bool) => (Exit.ret,⟨mkE 42 0 [(4,dB t)],[]⟩)))) (id := 0) (link_loop (mk := fun (s : Int) => ⟨mkE 42 0 [(0,dL b),(1,dI d),(5,dI s)],[]⟩) (fin := (Sum.elim (fun (t : Bool) => (Exit.ret,⟨mkE 42 0 [(4,dB t)],[]⟩)) (fun (t : Unit) => ((Exit.exit 0),⟨mkE 42 0 [(0,dL b),(1,dI d)],[]⟩)))) (by
  rintro (t | t) f K h
  · exact h
  · exact h) (fun s => link_map (link_seq2 (Nu2 b d s) (fun (t : Unit) => (link_map (fin2 := (Sum.elim (fun (t : Int) => (Exit.normal,⟨mkE 42 0 [(0,dL b),(1,dI d),(5,dI t)],[]⟩)) (Sum.elim (fun (t : Bool) => (Exit.ret,⟨mkE 42 0 [(4,dB t)],[]⟩)) (fun (t : Unit) => ((Exit.exit 0),⟨mkE 42 0 [(0,dL b),(1,dI d)],[]⟩))))) (link_seq2 (link_block (fin2 := (Sum.elim (fun (t : Unit) => (Exit.normal,⟨mkE 42 0 [(0,dL b),(1,dI d),(5,dI s)],[]⟩)) (fun (t : Bool) => (Exit.ret,⟨mkE 42 0 [(4,dB t)],[]⟩)))) (id := 1) (link_group (c := (cq [0,1,0,0,1,0,0,1,0,1] (bodyOf Tryd.f55))) (a := (aq [0,1,0,0,1,0,0,1,0,1] N9)) [(cq [0,0,0,1,0,0,1,0,1] (bodyOf Tryd.f55))] [(aq [0,0,0,1,0,0,1,0,1] N9)] rfl (link_seq2 (Nmr b d s) (fun (t : Unit) => (link_block (fin2 := (Sum.elim (fun (t : Unit) => (Exit.normal,⟨mkE 42 0 [(0,dL b),(1,dI d),(5,dI s)],[]⟩)) (fun (t : Bool) => (Exit.ret,⟨mkE 42 0 [(4,dB t)],[]⟩)))) (id := 2) (link_loop (mk := fun (s27 : Int) => ⟨mkE 42 0 [(0,dL b),(1,dI d),(5,dI s),(6,dI s27)],[]⟩) (fin := (Sum.elim (fun (t : Bool) => (Exit.ret,⟨mkE 42 0 [(4,dB t)],[]⟩)) (fun (t : Unit) => ((Exit.exit 2),⟨mkE 42 0 [(0,dL b),(1,dI d),(5,dI s)],[]⟩)))) (by
  rintro (t | t) f K h
  · exact h
  · exact h) (fun s27 => link_map (Nm6 b d s s27) (Sum.elim (fun (t : Int) => Sum.inl t) (Sum.elim (fun (t : Bool) => Sum.inr (Sum.inl t)) (fun (t : Unit) => Sum.inr (Sum.inr t)))) (by
  rintro (t | t | t)
  · kernel_rfl
  · kernel_rfl
  · kernel_rfl)) 0) (Sum.elim (fun (t : Bool) => (Sum.inr t)) (fun (t : Unit) => (Sum.inl ()))) (by
  rintro (t | t) K h
  · exact Eq.mp (by kernel_rfl) h
  · exact Eq.mp (by kernel_rfl) h))) (fun (t : Bool) => (Sum.inr t)) (by
  rintro t
  · kernel_rfl) (by
  rintro t f K h
  · exact h))) (Sum.elim (fun (t : Unit) => (Sum.inl ())) (fun (t : Bool) => (Sum.inr t))) (by
  rintro (t | t) K h
  · exact Eq.mp (by kernel_rfl) h
  · exact Eq.mp (by kernel_rfl) h)) (fun (t : Unit) => (link_map (fin2 := (Sum.elim (fun (t : Int) => (Exit.normal,⟨mkE 42 0 [(0,dL b),(1,dI d),(5,dI t)],[]⟩)) (fun (t : Bool) => (Exit.ret,⟨mkE 42 0 [(4,dB t)],[]⟩)))) (Ntl b d s) (fun (t : Int) => (Sum.inl t)) (by
  rintro t
  · kernel_rfl))) (fun (t : Bool) => (Sum.inr t)) (by
  rintro t
  · kernel_rfl) (by
  rintro t f K h
  · exact h)) (Sum.elim (fun (t : Int) => (Sum.inl t)) (fun (t : Bool) => (Sum.inr (Sum.inl t)))) (by
  rintro (t | t)
  · kernel_rfl
  · kernel_rfl))) (fun (t : Unit) => (Sum.inr (Sum.inr t))) (by
  rintro t
  · kernel_rfl) (by
  rintro t f K h
  · exact h)) (Sum.elim (fun (t : Int) => Sum.inl t) (Sum.elim (fun (t : Bool) => Sum.inr (Sum.inl t)) (fun (t : Unit) => Sum.inr (Sum.inr t)))) (by
  rintro (t | t | t)
  · kernel_rfl
  · kernel_rfl
  · kernel_rfl)) 0) (Sum.elim (fun (t : Bool) => (Sum.inr t)) (fun (t : Unit) => (Sum.inl ()))) (by
  rintro (t | t) K h
  · exact Eq.mp (by kernel_rfl) h
  · exact Eq.mp (by kernel_rfl) h)))) (fun (t : Unit) => (Nuh b d)) (fun (t : Bool) => t) (by
  rintro t
  · kernel_rfl) (by
  rintro t f K h
  · exact h))))) (by unfold N2m; kernel_rfl) (by
  intro t
  exact ret_mk [dB t] (by kernel_rfl) (by kernel_rfl) (by kernel_rfl) (by kernel_rfl)) h
def Nb2 : Fun := fun avs H =>
  match avs,H with
  | [.dat (.list (.int .i64)) a,.dat (.int .i64) b],[] => ⟨_,N2m a b,fun (t : Bool) => (dB t,[]),[],none⟩
  | _,_ => Ans.no
theorem Nol : Sound Tryd.prog 55 Nb2 := by
  refine fn_sound' (C := N1b) (c := bodyOf Tryd.f55) (cok_of tys_ok (allc Naw alln) (allc Tryd.call39 alln) (by kernel_rfl)) Tryd.func55 (by kernel_rfl) LL N9 ?_
  intro avs H r H' h
  unfold Nb2 at h
  split at h
  · refine Awp.cast ?_ ?_ ?_ (Njl _ _ h) <;> kernel_rfl
  · simp [Ans.no,Ans.run] at h

def N4 : Ann := (.seq (.leaf [0,1]) (.seq (.seq (.leaf [0,1,19]) (.cond (.seq (.leaf [4,5]) (.leaf [4,5])) (.leaf [0,1]))) (.seq (.leaf [0,1,6]) (.seq (.seq (.leaf [0,1,6,7]) (.block (.loop (.seq (.seq (.leaf [0,1,6,7,28]) (.cond (.leaf [0,1,6,7]) (.leaf [0,1,6]))) (.seq (.block (.leaf [0,1,6,7])) (.leaf [0,1,6,7])))))) (.seq (.leaf [0,1,6,8]) (.seq (.seq (.leaf [0,1,6,8,9]) (.block (.loop (.seq (.seq (.leaf [0,1,6,8,9,43]) (.cond (.leaf [0,1,6,8,9]) (.leaf [8]))) (.seq (.block (.leaf [0,1,6,8,9])) (.leaf [0,1,6,8,9])))))) (.seq (.leaf [4,5]) (.leaf [4,5]))))))))
noncomputable def N15 : Ctx := ⟨tlook tys,olook [(24,N1j),(55,Nb2)],ioF,0,false,[]⟩
theorem Nrn (a b : List Int) : Link N15 LL (Code.seq (cq [0] (bodyOf Tryd.f48)) (Code.seq (cq [0,1] (bodyOf Tryd.f48)) (cq [0,1,1] (bodyOf Tryd.f48)))) (Ann.seq (aq [0] N4) (Ann.seq (aq [0,1] N4) (aq [0,1,1] N4))) ⟨mkE 61 0 [(0,dL a),(1,dL b)],[]⟩ (N8m a b) (Sum.elim (fun (t : (List Int)) => (Exit.normal,⟨mkE 61 0 [(0,dL a),(1,dL b),(6,.slc 0)],[some (sI t)]⟩)) (fun (t : Bool × (List Int)) => (Exit.ret,⟨mkE 61 0 [(4,.slc 0),(5,dB t.1)],[some (sI t.2)]⟩))) := .of fun K h => by
  simp only [N8m,wpW] at h
  exact .of (by kernel_rfl) h
theorem Np2 (a b c : List Int) : Link N15 LL (cq [0,0,1,1,1] (bodyOf Tryd.f48)) (aq [0,0,1,1,1] N4) ⟨mkE 61 0 [(0,dL a),(1,dL b),(6,.slc 0)],[some (sI c)]⟩ (N60) (fun (t : Unit) => (Exit.normal,⟨mkE 61 0 [(0,dL a),(1,dL b),(6,.slc 0),(7,dI 0)],[some (sI c)]⟩)) := .of fun K h => by
  simp only [N60,wpW] at h
  exact .of (by kernel_rfl) h
theorem Nlw (a b : List Int) (c : Int) (d : List Int) : Link N15 LL (cq [0,0,1,0,1,1,1] (bodyOf Tryd.f48)) (aq [0,0,1,0,1,1,1] N4) ⟨mkE 61 0 [(0,dL a),(1,dL b),(6,.slc 0),(7,dI c)],[some (sI d)]⟩ (N8o b c d) (Sum.elim (fun (t : Int × (List Int)) => (Exit.normal,⟨mkE 61 0 [(0,dL a),(1,dL b),(6,.slc 0),(7,dI t.1)],[some (sI t.2)]⟩)) (fun (t : (List Int)) => ((Exit.exit 0),⟨mkE 61 0 [(0,dL a),(1,dL b),(6,.slc 0)],[some (sI t)]⟩))) := .of fun K h => by
  simp only [N8o,wpW] at h
  exact .of (by kernel_rfl) h
theorem Njb (a b c : List Int) : Link N15 LL (cq [0,1,1,1,1] (bodyOf Tryd.f48)) (aq [0,1,1,1,1] N4) ⟨mkE 61 0 [(0,dL a),(1,dL b),(6,.slc 0)],[some (sI c)]⟩ (N6v) (fun (t : Unit) => (Exit.normal,⟨mkE 61 0 [(0,dL a),(1,dL b),(6,.slc 0),(8,.slc 1)],[some (sI c),some (sI ([] : List Int))]⟩)) := .of fun K h => by
  simp only [N6v,wpW] at h
  exact .of (by kernel_rfl) h
theorem Nqg (a b c : List Int) : Link N15 LL (cq [0,0,1,1,1,1,1] (bodyOf Tryd.f48)) (aq [0,0,1,1,1,1,1] N4) ⟨mkE 61 0 [(0,dL a),(1,dL b),(6,.slc 0),(8,.slc 1)],[some (sI c),some (sI ([] : List Int))]⟩ (N8s) (fun (t : Unit) => (Exit.normal,⟨mkE 61 0 [(0,dL a),(1,dL b),(6,.slc 0),(8,.slc 1),(9,dI 0)],[some (sI c),some (sI ([] : List Int))]⟩)) := .of fun K h => by
  simp only [N8s,wpW] at h
  exact .of (by kernel_rfl) h
theorem Nrl (a b : List Int) (c : Int) (d g : List Int) : Link N15 LL (cq [0,0,1,0,1,1,1,1,1] (bodyOf Tryd.f48)) (aq [0,0,1,0,1,1,1,1,1] N4) ⟨mkE 61 0 [(0,dL a),(1,dL b),(6,.slc 0),(8,.slc 1),(9,dI c)],[some (sI d),some (sI g)]⟩ (N4n a b c d g) (Sum.elim (fun (t : Int × (List Int)) => (Exit.normal,⟨mkE 61 0 [(0,dL a),(1,dL b),(6,.slc 0),(8,.slc 1),(9,dI t.1)],[some (sI d),some (sI t.2)]⟩)) (fun (t : (List Int)) => ((Exit.exit 2),⟨mkE 61 0 [(8,.slc 0)],[some (sI t)]⟩))) := .of fun K h => by
  simp only [N4n,wpW] at h
  exact .of (by kernel_rfl) h
theorem Nju (a : List Int) : Link N15 LL (cq [1,1,1,1,1,1] (bodyOf Tryd.f48)) (aq [1,1,1,1,1,1] N4) ⟨mkE 61 0 [(8,.slc 0)],[some (sI a)]⟩ (N7q a) (fun (t : Bool × (List Int)) => (Exit.ret,⟨mkE 61 0 [(4,.slc 0),(5,dB t.1)],[some (sI t.2)]⟩)) := .of fun K h => by
  simp only [N7q,wpW] at h
  exact .of (by kernel_rfl) h
theorem Npf (b d : List Int) {r : AV} {H' : Heap} (h : (Ans.mk _ (N38 b d) (fun (t : Bool × (List Int)) => (.tup [.slc 0,dB t.1],[some (sI t.2)])) [] none).run = some (r,H')) : Awp N15 LL (bodyOf Tryd.f48) N4 ⟨mkE 61 0 [(0,dL b),(1,dL d)],[]⟩ (Ret (tlook tys) Tryd.f48.results.toList r H') :=
  ret_of' (Link.cast (by kernel_rfl) (by kernel_rfl) (link_group (c := (cq [0,1,1] (bodyOf Tryd.f48))) (a := (aq [0,1,1] N4)) [(cq [0] (bodyOf Tryd.f48)),(cq [0,1] (bodyOf Tryd.f48))] [(aq [0] N4),(aq [0,1] N4)] rfl (link_seq2 (Nrn b d) (fun (t : (List Int)) => (link_seq (link_seq (Np2 b d t) (fun (t28 : Unit) => (link_block (fin2 := (fun (t28 : (List Int)) => (Exit.normal,⟨mkE 61 0 [(0,dL b),(1,dL d),(6,.slc 0)],[some (sI t28)]⟩))) (id := 0) (link_loop (mk := fun (s : Int × (List Int)) => ⟨mkE 61 0 [(0,dL b),(1,dL d),(6,.slc 0),(7,dI s.1)],[some (sI s.2)]⟩) (fin := (fun (t28 : (List Int)) => ((Exit.exit 0),⟨mkE 61 0 [(0,dL b),(1,dL d),(6,.slc 0)],[some (sI t28)]⟩))) (by
  rintro t28 f K h
  · exact h) (fun s => link_map (Nlw b d s.1 s.2) (Sum.elim (fun (t28 : Int × (List Int)) => Sum.inl (t28.1,t28.2)) (fun (t28 : (List Int)) => Sum.inr t28)) (by
  rintro (t28 | t28)
  · kernel_rfl
  · kernel_rfl)) (0,t)) (fun (t28 : (List Int)) => t28) (by
  rintro t28 K h
  · exact Eq.mp (by kernel_rfl) h)))) (fun (t28 : (List Int)) => (link_seq (Njb b d t28) (fun (t : Unit) => (link_seq (link_seq (Nqg b d t28) (fun (t : Unit) => (link_block (fin2 := (fun (t : (List Int)) => (Exit.normal,⟨mkE 61 0 [(8,.slc 0)],[some (sI t)]⟩))) (id := 2) (link_loop (mk := fun (s : Int × (List Int)) => ⟨mkE 61 0 [(0,dL b),(1,dL d),(6,.slc 0),(8,.slc 1),(9,dI s.1)],[some (sI t28),some (sI s.2)]⟩) (fin := (fun (t : (List Int)) => ((Exit.exit 2),⟨mkE 61 0 [(8,.slc 0)],[some (sI t)]⟩))) (by
  rintro t f K h
  · exact h) (fun s => link_map (Nrl b d s.1 t28 s.2) (Sum.elim (fun (t : Int × (List Int)) => Sum.inl (t.1,t.2)) (fun (t : (List Int)) => Sum.inr t)) (by
  rintro (t | t)
  · kernel_rfl
  · kernel_rfl)) (0,([] : List Int))) (fun (t : (List Int)) => t) (by
  rintro t K h
  · exact Eq.mp (by kernel_rfl) h)))) (fun (t : (List Int)) => (Nju t)))))))) (fun (t : Bool × (List Int)) => t) (by
  rintro t
  · kernel_rfl) (by
  rintro t f K h
  · exact h)))) (by unfold N38; kernel_rfl) (by
  intro t
  exact ret_mk [.slc 0,dB t.1] (by kernel_rfl) (by kernel_rfl) (by kernel_rfl) (by kernel_rfl)) h
def N8w : Fun := fun avs H =>
  match avs,H with
  | [.dat (.list (.int .i64)) a,.dat (.list (.int .i64)) b],[] => ⟨_,N38 a b,fun (t : Bool × (List Int)) => (.tup [.slc 0,dB t.1],[some (sI t.2)]),[],none⟩
  | _,_ => Ans.no
theorem Nqc : Sound Tryd.prog 48 N8w := by
  refine fn_sound' (C := N15) (c := bodyOf Tryd.f48) (cok_of tys_ok (allc N3o (allc Nol alln)) (allc Tryd.call24 (allc Tryd.call55 alln)) (by kernel_rfl)) Tryd.func48 (by kernel_rfl) LL N4 ?_
  intro avs H r H' h
  unfold N8w at h
  split at h
  · refine Awp.cast ?_ ?_ ?_ (Npf _ _ h) <;> kernel_rfl
  · simp [Ans.no,Ans.run] at h

def Nci : Ann := (.seq (.leaf [0]) (.seq (.leaf [3]) (.seq (.leaf [2]) (.leaf [2]))))
noncomputable def Nc4 : Ctx := ⟨tlook tys,olook [(49,N92),(48,N8w)],ioF,0,false,[]⟩
theorem Nk8 (a : List Int) : Link Nc4 LL (bodyOf Tryd.f41) Nci ⟨mkE 13 0 [(0,dL a)],[]⟩ (N61 a) (fun (t : (List Int)) => (Exit.ret,⟨mkE 13 0 [(2,.slc 0)],[some (sI t)]⟩)) := .of fun K h => by
  simp only [N61,wpW] at h
  exact .of (by kernel_rfl) h
theorem Nw9 (a : List Int) {r : AV} {H' : Heap} (h : (Ans.mk _ (N1g a) (fun (t : (List Int)) => (.slc 0,[some (sI t)])) [] none).run = some (r,H')) : Awp Nc4 LL (bodyOf Tryd.f41) Nci ⟨mkE 13 0 [(0,dL a)],[]⟩ (Ret (tlook tys) Tryd.f41.results.toList r H') :=
  ret_of' (Nk8 a) (by unfold N1g; kernel_rfl) (by
  intro t
  exact ret_mk [.slc 0] (by kernel_rfl) (by kernel_rfl) (by kernel_rfl) (by kernel_rfl)) h
def Nap : Fun := fun avs H =>
  match avs,H with
  | [.dat (.list (.int .i64)) a],[] => ⟨_,N1g a,fun (t : (List Int)) => (.slc 0,[some (sI t)]),[],none⟩
  | _,_ => Ans.no
theorem Nvv : Sound Tryd.prog 41 Nap := by
  refine fn_sound' (C := Nc4) (c := bodyOf Tryd.f41) (cok_of tys_ok (allc Nqn (allc Nqc alln)) (allc Tryd.call49 (allc Tryd.call48 alln)) (by kernel_rfl)) Tryd.func41 (by kernel_rfl) LL Nci ?_
  intro avs H r H' h
  unfold Nap at h
  split at h
  · refine Awp.cast ?_ ?_ ?_ (Nw9 _ h) <;> kernel_rfl
  · simp [Ans.no,Ans.run] at h

def N9a : Ann := (.seq (.leaf [0,3]) (.seq (.leaf [0,3,5]) (.seq (.block (.seq (.leaf [0,3,5,9]) (.cond (.seq (.leaf [5]) (.seq (.leaf [4]) (.leafF [⟨0,4,true,none,none⟩] [4]))) (.seq (.leaf [0,3,5,28]) (.cond (.seq (.leaf [4]) (.leafF [⟨0,4,true,none,none⟩] [4])) (.seq (.leaf [0,3,5,39]) (.cond (.seq (.leaf [4]) (.leaf [4])) (.seq (.leaf [0,3,48]) (.cond (.seq (.leaf [4]) (.leafF [⟨0,4,true,none,none⟩] [4])) (.seq (.leaf [0,54]) (.cond (.seq (.leaf [4]) (.leafF [⟨0,4,true,none,none⟩] [4])) (.leaf [])))))))))))) (.seq (.leaf [4]) (.leafF [⟨0,4,true,none,none⟩] [4])))))
noncomputable def N9y : Ctx := ⟨tlook tys,olook [(39,N55),(40,Na7),(41,Nap)],ioF,0,false,[]⟩
theorem Ns2 (a : List Int) (b c d : Int) : Link N9y LL (bodyOf Tryd.f23) N9a ⟨mkE 61 0 [(0,dL a),(1,.agg [dI b,dI c,dI d])],[]⟩ (N4e a b c d) (fun (t : Nat × (List Int)) => (Exit.ret,⟨mkE 61 0 [(4,.win 0 0 t.1)],[some (sI t.2)]⟩)) := .of fun K h => by
  simp only [N4e,wpW] at h
  exact .of (by kernel_rfl) h
theorem Npk (a : List Int) (b c d : Int) {r : AV} {H' : Heap} (h : (Ans.mk _ (Nn a b c d) (fun (t : Nat × (List Int)) => (.win 0 0 t.1,[some (sI t.2)])) [] none).run = some (r,H')) : Awp N9y LL (bodyOf Tryd.f23) N9a ⟨mkE 61 0 [(0,dL a),(1,.agg [dI b,dI c,dI d])],[]⟩ (Ret (tlook tys) Tryd.f23.results.toList r H') :=
  ret_of' (Ns2 a b c d) (by unfold Nn; kernel_rfl) (by
  intro t
  exact ret_mk [.win 0 0 t.1] (by kernel_rfl) (by kernel_rfl) (by kernel_rfl) (by kernel_rfl)) h
def Ncj : Fun := fun avs H =>
  match avs,H with
  | [.dat (.list (.int .i64)) a,.agg [.dat (.int .i64) b,.dat (.int .i64) c,.dat (.int .i64) d]],[] => ⟨_,Nn a b c d,fun (t : Nat × (List Int)) => (.win 0 0 t.1,[some (sI t.2)]),[],none⟩
  | _,_ => Ans.no
theorem Nvr : Sound Tryd.prog 23 Ncj := by
  refine fn_sound' (C := N9y) (c := bodyOf Tryd.f23) (cok_of tys_ok (allc Naw (allc Nrx (allc Nvv alln))) (allc Tryd.call39 (allc Tryd.call40 (allc Tryd.call41 alln))) (by kernel_rfl)) Tryd.func23 (by kernel_rfl) LL N9a ?_
  intro avs H r H' h
  unfold Ncj at h
  split at h
  · refine Awp.cast ?_ ?_ ?_ (Npk _ _ _ _ h) <;> kernel_rfl
  · simp [Ans.no,Ans.run] at h

def N2 : Ann := (.seq (.leaf [2,3,4]) (.seq (.seq (.leaf [2,3,4,13]) (.cond (.seq (.leaf [4,5]) (.leafF [⟨0,4,false,some 0,some (.int .i64)⟩,⟨0,4,true,some 1,some (.int .i64)⟩] [4,5])) (.leaf [2,3,4]))) (.seq (.leaf [2,3,4,6]) (.seq (.seq (.leaf [2,3,4,6,25]) (.cond (.seq (.leaf [4,6,7]) (.seq (.leaf [4,6,7]) (.seq (.leaf [4,6]) (.seq (.leaf [4,5]) (.leaf [4,5]))))) (.leaf [2,3,4,6]))) (.seq (.leaf [2,4,6,8]) (.seq (.leaf [2,4,6,8,9]) (.seq (.seq (.leaf [2,4,6,8,9,10]) (.block (.loop (.seq (.seq (.leaf [2,4,6,8,9,10,58]) (.cond (.leaf [2,4,6,8,10]) (.leaf [4,6,8,9]))) (.seq (.block (.draw [] [0,1,2,3,4,5,6,7,8,9,10] [] [2,4,6,8,9,10])) (.leaf [2,4,6,8,9,10])))))) (.seq (.seq (.leaf [4,6,8,76]) (.cond (.seq (.leaf [4,5]) (.leaf [4,5])) (.leaf [4,6,8]))) (.seq (.leaf [4,6,8]) (.seq (.seq (.leaf [4,6,8,88]) (.cond (.leaf [4,6,8]) (.leaf [4,6,8]))) (.seq (.leaf [4,6]) (.seq (.leaf [4,5]) (.leaf [4,5])))))))))))))
noncomputable def N3p : Ctx := ⟨tlook tys,olook [(21,N98),(22,Nbb),(23,Ncj),(24,N1j)],ioF,0,true,[]⟩
theorem Nu7 (a : List Int) (b : List (List Int)) (c d g : Int) : Link N3p LL (Code.seq (cq [0] (bodyOf Tryd.f6)) (Code.seq (cq [0,1] (bodyOf Tryd.f6)) (Code.seq (cq [0,1,1] (bodyOf Tryd.f6)) (Code.seq (cq [0,1,1,1] (bodyOf Tryd.f6)) (Code.seq (cq [0,1,1,1,1] (bodyOf Tryd.f6)) (cq [0,1,1,1,1,1] (bodyOf Tryd.f6))))))) (Ann.seq (aq [0] N2) (Ann.seq (aq [0,1] N2) (Ann.seq (aq [0,1,1] N2) (Ann.seq (aq [0,1,1,1] N2) (Ann.seq (aq [0,1,1,1,1] N2) (aq [0,1,1,1,1,1] N2)))))) ⟨mkE 98 0 [(0,.agg [dL a,.dat (.list (.list (.int .i64))) b]),(1,.agg [dI c,dI d,dI g])],[]⟩ (N66 a b c d g) (Sum.elim (fun (t : Nat × Bool × (List Int) × (List Int) × (List (List Int))) => (Exit.normal,⟨mkE 98 0 [(2,.ptr 0 0),(4,.ptr 1 0),(6,.ptr 2 0),(8,.win 3 0 t.1),(9,dB t.2.1)],[some (.box [dL a,.dat (.list (.list (.int .i64))) b]),some (.box [.nils,.nils]),some (.box [.slc 4,.slc 5]),some (sI t.2.2.1),some (sI t.2.2.2.1),some (.nest (.int .i64) t.2.2.2.2 0 [])]⟩)) (fun (t : Bool × (List Int) × (List (List Int))) => (Exit.ret,⟨mkE 98 0 [(4,.ptr 0 0),(5,dB t.1)],[some (.box [.slc 1,.slc 2]),some (sI t.2.1),some (.nest (.int .i64) t.2.2 0 [])]⟩))) := .of fun K h => by
  simp only [N66,wpW] at h
  exact .of (by kernel_rfl) h
theorem Npr (a : Nat) (b : Bool) (c : List Int) (d : List (List Int)) (g i : List Int) (j : List (List Int)) : Link N3p LL (cq [0,0,1,1,1,1,1,1] (bodyOf Tryd.f6)) (aq [0,0,1,1,1,1,1,1] N2) ⟨mkE 98 0 [(2,.ptr 0 0),(4,.ptr 1 0),(6,.ptr 2 0),(8,.win 3 0 a),(9,dB b)],[some (.box [dL c,.dat (.list (.list (.int .i64))) d]),some (.box [.nils,.nils]),some (.box [.slc 4,.slc 5]),some (sI g),some (sI i),some (.nest (.int .i64) j 0 [])]⟩ (N7k) (fun (t : Unit) => (Exit.normal,⟨mkE 98 0 [(2,.ptr 0 0),(4,.ptr 1 0),(6,.ptr 2 0),(8,.win 3 0 a),(9,dB b),(10,dI 0)],[some (.box [dL c,.dat (.list (.list (.int .i64))) d]),some (.box [.nils,.nils]),some (.box [.slc 4,.slc 5]),some (sI g),some (sI i),some (.nest (.int .i64) j 0 [])]⟩)) := .of fun K h => by
  simp only [N7k,wpW] at h
  exact .of (by kernel_rfl) h
theorem Noz (a : Nat) (b : Bool) (c : Int) (d : List Int) (g : List (List Int)) (i j : List Int) (k : List (List Int)) : Link N3p LL (cq [0,0,1,0,1,1,1,1,1,1] (bodyOf Tryd.f6)) (aq [0,0,1,0,1,1,1,1,1,1] N2) ⟨mkE 98 0 [(2,.ptr 0 0),(4,.ptr 1 0),(6,.ptr 2 0),(8,.win 3 0 a),(9,dB b),(10,dI c)],[some (.box [dL d,.dat (.list (.list (.int .i64))) g]),some (.box [.nils,.nils]),some (.box [.slc 4,.slc 5]),some (sI i),some (sI j),some (.nest (.int .i64) k 0 [])]⟩ (N22 a b c d i) (Sum.elim (fun (t : Bool × Int) => (Exit.normal,⟨mkE 98 0 [(2,.ptr 0 0),(4,.ptr 1 0),(6,.ptr 2 0),(8,.win 3 0 a),(9,dB t.1),(10,dI t.2)],[some (.box [dL d,.dat (.list (.list (.int .i64))) g]),some (.box [.nils,.nils]),some (.box [.slc 4,.slc 5]),some (sI i),some (sI j),some (.nest (.int .i64) k 0 [])]⟩)) (fun (t : Bool) => ((Exit.exit 0),⟨mkE 98 0 [(4,.ptr 0 0),(6,.ptr 1 0),(8,.win 2 0 a),(9,dB t)],[some (.box [.nils,.nils]),some (.box [.slc 3,.slc 4]),some (sI i),some (sI j),some (.nest (.int .i64) k 0 [])]⟩))) := .of fun K h => by
  simp only [N22,wpW] at h
  exact .of (by kernel_rfl) h
theorem Nq3 (a : Nat) (b : Bool) (c d : List Int) (g : List (List Int)) : Link N3p LL (cq [1,1,1,1,1,1,1] (bodyOf Tryd.f6)) (aq [1,1,1,1,1,1,1] N2) ⟨mkE 98 0 [(4,.ptr 0 0),(6,.ptr 1 0),(8,.win 2 0 a),(9,dB b)],[some (.box [.nils,.nils]),some (.box [.slc 3,.slc 4]),some (sI c),some (sI d),some (.nest (.int .i64) g 0 [])]⟩ (N6h a b c d g) (fun (t : Bool × (List Int) × (List (List Int))) => (Exit.ret,⟨mkE 98 0 [(4,.ptr 0 0),(5,dB t.1)],[some (.box [.slc 1,.slc 2]),some (sI t.2.1),some (.nest (.int .i64) t.2.2 0 [])]⟩)) := .of fun K h => by
  simp only [N6h,wpW] at h
  exact .of (by kernel_rfl) h
theorem No7 (b : List Int) (d : List (List Int)) (g i j : Int) {r : AV} {H' : Heap} (h : (Ans.mk _ (N1t b d g i j) (fun (t : Bool × (List Int) × (List (List Int))) => (.tup [.agg [.slc 1,.slc 2],dB t.1],[some (.box [.slc 1,.slc 2]),some (sI t.2.1),some (.nest (.int .i64) t.2.2 0 [])])) [] none).run = some (r,H')) : Awp N3p LL (bodyOf Tryd.f6) N2 ⟨mkE 98 0 [(0,.agg [dL b,.dat (.list (.list (.int .i64))) d]),(1,.agg [dI g,dI i,dI j])],[]⟩ (Ret (tlook tys) Tryd.f6.results.toList r H') :=
  ret_of' (Link.cast (by kernel_rfl) (by kernel_rfl) (link_group (c := (cq [0,1,1,1,1,1] (bodyOf Tryd.f6))) (a := (aq [0,1,1,1,1,1] N2)) [(cq [0] (bodyOf Tryd.f6)),(cq [0,1] (bodyOf Tryd.f6)),(cq [0,1,1] (bodyOf Tryd.f6)),(cq [0,1,1,1] (bodyOf Tryd.f6)),(cq [0,1,1,1,1] (bodyOf Tryd.f6))] [(aq [0] N2),(aq [0,1] N2),(aq [0,1,1] N2),(aq [0,1,1,1] N2),(aq [0,1,1,1,1] N2)] rfl (link_seq2 (Nu7 b d g i j) (fun (t : Nat × Bool × (List Int) × (List Int) × (List (List Int))) => (link_seq (link_seq (Npr t.1 t.2.1 b d t.2.2.1 t.2.2.2.1 t.2.2.2.2) (fun (t29 : Unit) => (link_block (fin2 := (fun (t29 : Bool) => (Exit.normal,⟨mkE 98 0 [(4,.ptr 0 0),(6,.ptr 1 0),(8,.win 2 0 t.1),(9,dB t29)],[some (.box [.nils,.nils]),some (.box [.slc 3,.slc 4]),some (sI t.2.2.1),some (sI t.2.2.2.1),some (.nest (.int .i64) t.2.2.2.2 0 [])]⟩))) (id := 0) (link_loop (mk := fun (s : Bool × Int) => ⟨mkE 98 0 [(2,.ptr 0 0),(4,.ptr 1 0),(6,.ptr 2 0),(8,.win 3 0 t.1),(9,dB s.1),(10,dI s.2)],[some (.box [dL b,.dat (.list (.list (.int .i64))) d]),some (.box [.nils,.nils]),some (.box [.slc 4,.slc 5]),some (sI t.2.2.1),some (sI t.2.2.2.1),some (.nest (.int .i64) t.2.2.2.2 0 [])]⟩) (fin := (fun (t29 : Bool) => ((Exit.exit 0),⟨mkE 98 0 [(4,.ptr 0 0),(6,.ptr 1 0),(8,.win 2 0 t.1),(9,dB t29)],[some (.box [.nils,.nils]),some (.box [.slc 3,.slc 4]),some (sI t.2.2.1),some (sI t.2.2.2.1),some (.nest (.int .i64) t.2.2.2.2 0 [])]⟩))) (by
  rintro t29 f K h
  · exact h) (fun s => link_map (Noz t.1 s.1 s.2 b d t.2.2.1 t.2.2.2.1 t.2.2.2.2) (Sum.elim (fun (t29 : Bool × Int) => Sum.inl (t29.1,t29.2)) (fun (t29 : Bool) => Sum.inr t29)) (by
  rintro (t29 | t29)
  · kernel_rfl
  · kernel_rfl)) (t.2.1,0)) (fun (t29 : Bool) => t29) (by
  rintro t29 K h
  · exact Eq.mp (by kernel_rfl) h)))) (fun (t29 : Bool) => (Nq3 t.1 t29 t.2.2.1 t.2.2.2.1 t.2.2.2.2)))) (fun (t : Bool × (List Int) × (List (List Int))) => t) (by
  rintro t
  · kernel_rfl) (by
  rintro t f K h
  · exact h)))) (by unfold N1t; kernel_rfl) (by
  intro t
  exact ret_mk [.agg [.slc 1,.slc 2],dB t.1] (by kernel_rfl) (by kernel_rfl) (by kernel_rfl) (by kernel_rfl)) h
def N9b : Fun := fun avs H =>
  match avs,H with
  | [.agg [.dat (.list (.int .i64)) a,.dat (.list (.list (.int .i64))) b],.agg [.dat (.int .i64) c,.dat (.int .i64) d,.dat (.int .i64) g]],[] => ⟨_,N1t a b c d g,fun (t : Bool × (List Int) × (List (List Int))) => (.tup [.agg [.slc 1,.slc 2],dB t.1],[some (.box [.slc 1,.slc 2]),some (sI t.2.1),some (.nest (.int .i64) t.2.2 0 [])]),[],none⟩
  | _,_ => Ans.no
theorem Nr1 : Sound Tryd.prog 6 N9b := by
  refine fn_sound' (C := N3p) (c := bodyOf Tryd.f6) (cok_of tys_ok (allc Nln (allc Nin (allc Nvr (allc N3o alln)))) (allc Tryd.call21 (allc Tryd.call22 (allc Tryd.call23 (allc Tryd.call24 alln)))) (by kernel_rfl)) Tryd.func6 (by kernel_rfl) LL N2 ?_
  intro avs H r H' h
  unfold N9b at h
  split at h
  · refine Awp.cast ?_ ?_ ?_ (No7 _ _ _ _ _ h) <;> kernel_rfl
  · simp [Ans.no,Ans.run] at h

def N17 : Ann := (.seq (.leaf [0]) (.seq (.leaf [0,3]) (.seq (.seq (.leaf [0,3,6,7,8]) (.block (.loop (.seq (.leaf [0,3,6,7,8,9]) (.seq (.cond (.leaf [0,3,6,7,8]) (.leaf [3])) (.seq (.block (.seq (.leaf [0,3,5,6,7,8]) (.seq (.seq (.leaf [0,3,5,6,7,8,19]) (.cond (.seq (.leaf [2]) (.leaf [2])) (.leaf [0,3,5,6,7,8]))) (.seq (.leaf [0,3,6,7,8,21]) (.cond (.leaf [0,3,6,7,8]) (.leaf [0,3,6,7,8])))))) (.leaf [0,3,6,7,8]))))))) (.seq (.leaf [2]) (.leaf [2])))))
noncomputable def N2p : Ctx := ⟨tlook tys,olook [],ioF,0,false,[]⟩
theorem Nlp (a : List Int) : Link N2p LL (Code.seq (cq [0] (bodyOf Tryd.f50)) (cq [0,1] (bodyOf Tryd.f50))) (Ann.seq (aq [0] N17) (aq [0,1] N17)) ⟨mkE 27 0 [(0,dL a)],[]⟩ (N8g) (fun (t : Unit) => (Exit.normal,⟨mkE 27 0 [(0,dL a),(3,dI 0)],[]⟩)) := .of fun K h => by
  simp only [N8g,wpW] at h
  exact .of (by kernel_rfl) h
theorem Npe (a : List Int) : Link N2p LL (cq [0,0,1,1] (bodyOf Tryd.f50)) (aq [0,0,1,1] N17) ⟨mkE 27 0 [(0,dL a),(3,dI 0)],[]⟩ (N5o a) (fun (t : Int) => (Exit.normal,⟨mkE 27 0 [(0,dL a),(3,dI 0),(6,dL a),(7,dI t),(8,dI 0)],[]⟩)) := .of fun K h => by
  simp only [N5o,wpW] at h
  exact .of (by kernel_rfl) h
theorem Npd (a : List Int) (b c d : Int) : Link N2p LL (cq [0,0,1,0,1,1] (bodyOf Tryd.f50)) (aq [0,0,1,0,1,1] N17) ⟨mkE 27 0 [(0,dL a),(3,dI b),(6,dL a),(7,dI c),(8,dI d)],[]⟩ (N3s a b c d) (Sum.elim (fun (t : Int × Int) => (Exit.normal,⟨mkE 27 0 [(0,dL a),(3,dI t.1),(6,dL a),(7,dI c),(8,dI t.2)],[]⟩)) (Sum.elim (fun (t : Bool) => (Exit.ret,⟨mkE 27 0 [(2,dB t)],[]⟩)) (fun (t : Int) => ((Exit.exit 0),⟨mkE 27 0 [(3,dI t)],[]⟩)))) := .of fun K h => by
  simp only [N3s,wpW] at h
  exact .of (by kernel_rfl) h
theorem Nqs (a : Int) : Link N2p LL (cq [1,1,1] (bodyOf Tryd.f50)) (aq [1,1,1] N17) ⟨mkE 27 0 [(3,dI a)],[]⟩ (N5s a) (fun (t : Bool) => (Exit.ret,⟨mkE 27 0 [(2,dB t)],[]⟩)) := .of fun K h => by
  simp only [N5s,wpW] at h
  exact .of (by kernel_rfl) h
theorem Nui (b : List Int) {r : AV} {H' : Heap} (h : (Ans.mk _ (N3y b) (fun (t : Bool) => (dB t,[])) [] none).run = some (r,H')) : Awp N2p LL (bodyOf Tryd.f50) N17 ⟨mkE 27 0 [(0,dL b)],[]⟩ (Ret (tlook tys) Tryd.f50.results.toList r H') :=
  ret_of' (Link.cast (by kernel_rfl) (by kernel_rfl) (link_group (c := (cq [0,1] (bodyOf Tryd.f50))) (a := (aq [0,1] N17)) [(cq [0] (bodyOf Tryd.f50))] [(aq [0] N17)] rfl (link_seq (Nlp b) (fun (t : Unit) => (link_seq2 (link_seq (Npe b) (fun (t : Int) => (link_block (fin2 := (Sum.elim (fun (t7 : Int) => (Exit.normal,⟨mkE 27 0 [(3,dI t7)],[]⟩)) (fun (t7 : Bool) => (Exit.ret,⟨mkE 27 0 [(2,dB t7)],[]⟩)))) (id := 0) (link_loop (mk := fun (s : Int × Int) => ⟨mkE 27 0 [(0,dL b),(3,dI s.1),(6,dL b),(7,dI t),(8,dI s.2)],[]⟩) (fin := (Sum.elim (fun (t7 : Bool) => (Exit.ret,⟨mkE 27 0 [(2,dB t7)],[]⟩)) (fun (t7 : Int) => ((Exit.exit 0),⟨mkE 27 0 [(3,dI t7)],[]⟩)))) (by
  rintro (t7 | t7) f K h
  · exact h
  · exact h) (fun s => link_map (Npd b s.1 t s.2) (Sum.elim (fun (t7 : Int × Int) => Sum.inl (t7.1,t7.2)) (Sum.elim (fun (t7 : Bool) => Sum.inr (Sum.inl t7)) (fun (t7 : Int) => Sum.inr (Sum.inr t7)))) (by
  rintro (t7 | t7 | t7)
  · kernel_rfl
  · kernel_rfl
  · kernel_rfl)) (0,0)) (Sum.elim (fun (t7 : Bool) => (Sum.inr t7)) (fun (t7 : Int) => (Sum.inl t7))) (by
  rintro (t7 | t7) K h
  · exact Eq.mp (by kernel_rfl) h
  · exact Eq.mp (by kernel_rfl) h)))) (fun (t : Int) => (Nqs t)) (fun (t : Bool) => t) (by
  rintro t
  · kernel_rfl) (by
  rintro t f K h
  · exact h)))))) (by unfold N3y; kernel_rfl) (by
  intro t
  exact ret_mk [dB t] (by kernel_rfl) (by kernel_rfl) (by kernel_rfl) (by kernel_rfl)) h
def N8v : Fun := fun avs H =>
  match avs,H with
  | [.dat (.list (.int .i64)) a],[] => ⟨_,N3y a,fun (t : Bool) => (dB t,[]),[],none⟩
  | _,_ => Ans.no
theorem Nt4 : Sound Tryd.prog 50 N8v := by
  refine fn_sound' (C := N2p) (c := bodyOf Tryd.f50) (cok_of tys_ok (alln) (alln) (by kernel_rfl)) Tryd.func50 (by kernel_rfl) LL N17 ?_
  intro avs H r H' h
  unfold N8v at h
  split at h
  · refine Awp.cast ?_ ?_ ?_ (Nui _ h) <;> kernel_rfl
  · simp [Ans.no,Ans.run] at h

def Ncl : Ann := (.seq (.leaf [0]) (.seq (.draw [] [0,1,2,3,4,5,6,7,8,9,10,11] [] [0,3]) (.seq (.seq (.leaf [0,3,16]) (.cond (.seq (.leaf [2]) (.leaf [2])) (.leaf [0,3]))) (.seq (.leaf [0]) (.seq (.leaf []) (.seq (.leaf [2]) (.leaf [2])))))))
noncomputable def Nc0 : Ctx := ⟨tlook tys,olook [],ioF,1,false,[]⟩
theorem Nu6 (a : List Int) (b c : Int) : Link Nc0 LL (bodyOf Tryd.f58) Ncl ⟨mkE 28 0 [(0,.ptr 0 0)],[some (.box [dL a,dI b,dI c])]⟩ (N6f a b c) (fun (t : Bool × Int × Int) => (Exit.ret,⟨mkE 28 0 [(2,dB t.1)],[some (.box [dL a,dI t.2.1,dI t.2.2])]⟩)) := .of fun K h => by
  simp only [N6f,wpW] at h
  exact .of (by kernel_rfl) h
theorem Nsh (a : List Int) (b c : Int) {r : AV} {H' : Heap} (h : (Ans.mk _ (N1o a b c) (fun (t : Bool × Int × Int) => (dB t.1,[some (.box [dL a,dI t.2.1,dI t.2.2])])) [] none).run = some (r,H')) : Awp Nc0 LL (bodyOf Tryd.f58) Ncl ⟨mkE 28 0 [(0,.ptr 0 0)],[some (.box [dL a,dI b,dI c])]⟩ (Ret (tlook tys) Tryd.f58.results.toList r H') :=
  ret_of' (Nu6 a b c) (by unfold N1o; kernel_rfl) (by
  intro t
  exact ret_mk [dB t.1] (by kernel_rfl) (by kernel_rfl) (by kernel_rfl) (by kernel_rfl)) h
def N5u : Fun := fun avs H =>
  match avs,H with
  | [.ptr 0 0],[some (.box [.dat (.list (.int .i64)) a,.dat (.int .i64) b,.dat (.int .i64) c])] => ⟨_,N1o a b c,fun (t : Bool × Int × Int) => (dB t.1,[some (.box [dL a,dI t.2.1,dI t.2.2])]),[],none⟩
  | _,_ => Ans.no
theorem Nhx : Sound Tryd.prog 58 N5u := by
  refine fn_sound' (C := Nc0) (c := bodyOf Tryd.f58) (cok_of tys_ok (alln) (alln) (by kernel_rfl)) Tryd.func58 (by kernel_rfl) LL Ncl ?_
  intro avs H r H' h
  unfold N5u at h
  split at h
  · refine Awp.cast ?_ ?_ ?_ (Nsh _ _ _ h) <;> kernel_rfl
  · simp [Ans.no,Ans.run] at h

def N1i : Ann := (.seq (.leaf [0,1]) (.seq (.leaf [0,6]) (.seq (.block (.loop (.seq (.seq (.leaf [0,6,10]) (.cond (.leaf [0,6]) (.leaf [6]))) (.block (.seq (.leaf [0,6,15]) (.cond (.seq (.leaf [4,5]) (.leaf [4,5])) (.leaf [0,6]))))))) (.seq (.leaf [4,5]) (.leaf [4,5])))))
noncomputable def N51 : Ctx := ⟨tlook tys,olook [(58,N5u)],ioF,0,false,[]⟩
theorem Nrh (a : List Int) (b : Int) : Link N51 LL (Code.seq (cq [0] (bodyOf Tryd.f51)) (cq [0,1] (bodyOf Tryd.f51))) (Ann.seq (aq [0] N1i) (aq [0,1] N1i)) ⟨mkE 18 0 [(0,dL a),(1,dI b)],[]⟩ (N7x) (fun (t : Unit) => (Exit.normal,⟨mkE 18 0 [(0,dL a),(6,.ptr 0 0)],[some (.box [dL a,dI b,dI 0])]⟩)) := .of fun K h => by
  simp only [N7x,wpW] at h
  exact .of (by kernel_rfl) h
theorem Njw (a : List Int) (b c : Int) : Link N51 LL (cq [0,0,0,1,1] (bodyOf Tryd.f51)) (aq [0,0,0,1,1] N1i) ⟨mkE 18 0 [(0,dL a),(6,.ptr 0 0)],[some (.box [dL a,dI b,dI c])]⟩ (N4m a b c) (Sum.elim (fun (t : Int × Int) => (Exit.normal,⟨mkE 18 0 [(0,dL a),(6,.ptr 0 0)],[some (.box [dL a,dI t.1,dI t.2])]⟩)) (Sum.elim (fun (t : Int × Bool) => (Exit.ret,⟨mkE 18 0 [(4,dI t.1),(5,dB t.2)],[]⟩)) (fun (t : Int × Int) => ((Exit.exit 0),⟨mkE 18 0 [(6,.ptr 0 0)],[some (.box [dL a,dI t.1,dI t.2])]⟩)))) := .of fun K h => by
  simp only [N4m,wpW] at h
  exact .of (by kernel_rfl) h
theorem Ntb (a : List Int) (b c : Int) : Link N51 LL (cq [1,1,1] (bodyOf Tryd.f51)) (aq [1,1,1] N1i) ⟨mkE 18 0 [(6,.ptr 0 0)],[some (.box [dL a,dI b,dI c])]⟩ (N8i c) (fun (t : Int × Bool) => (Exit.ret,⟨mkE 18 0 [(4,dI t.1),(5,dB t.2)],[]⟩)) := .of fun K h => by
  simp only [N8i,wpW] at h
  exact .of (by kernel_rfl) h
theorem Nkt (b : List Int) (d : Int) {r : AV} {H' : Heap} (h : (Ans.mk _ (N2t b d) (fun (t : Int × Bool) => (.tup [dI t.1,dB t.2],[])) [] none).run = some (r,H')) : Awp N51 LL (bodyOf Tryd.f51) N1i ⟨mkE 18 0 [(0,dL b),(1,dI d)],[]⟩ (Ret (tlook tys) Tryd.f51.results.toList r H') :=
  ret_of' (Link.cast (by kernel_rfl) (by kernel_rfl) (link_group (c := (cq [0,1] (bodyOf Tryd.f51))) (a := (aq [0,1] N1i)) [(cq [0] (bodyOf Tryd.f51))] [(aq [0] N1i)] rfl (link_seq (Nrh b d) (fun (t : Unit) => (link_seq2 (link_block (fin2 := (Sum.elim (fun (t : Int × Int) => (Exit.normal,⟨mkE 18 0 [(6,.ptr 0 0)],[some (.box [dL b,dI t.1,dI t.2])]⟩)) (fun (t : Int × Bool) => (Exit.ret,⟨mkE 18 0 [(4,dI t.1),(5,dB t.2)],[]⟩)))) (id := 0) (link_loop (mk := fun (s : Int × Int) => ⟨mkE 18 0 [(0,dL b),(6,.ptr 0 0)],[some (.box [dL b,dI s.1,dI s.2])]⟩) (fin := (Sum.elim (fun (t : Int × Bool) => (Exit.ret,⟨mkE 18 0 [(4,dI t.1),(5,dB t.2)],[]⟩)) (fun (t : Int × Int) => ((Exit.exit 0),⟨mkE 18 0 [(6,.ptr 0 0)],[some (.box [dL b,dI t.1,dI t.2])]⟩)))) (by
  rintro (t | t) f K h
  · exact h
  · exact h) (fun s => link_map (Njw b s.1 s.2) (Sum.elim (fun (t : Int × Int) => Sum.inl (t.1,t.2)) (Sum.elim (fun (t : Int × Bool) => Sum.inr (Sum.inl t)) (fun (t : Int × Int) => Sum.inr (Sum.inr t)))) (by
  rintro (t | t | t)
  · kernel_rfl
  · kernel_rfl
  · kernel_rfl)) (d,0)) (Sum.elim (fun (t : Int × Bool) => (Sum.inr t)) (fun (t : Int × Int) => (Sum.inl (t.1,t.2)))) (by
  rintro (t | t) K h
  · exact Eq.mp (by kernel_rfl) h
  · exact Eq.mp (by kernel_rfl) h)) (fun (t : Int × Int) => (Ntb b t.1 t.2)) (fun (t : Int × Bool) => t) (by
  rintro t
  · kernel_rfl) (by
  rintro t f K h
  · exact h)))))) (by unfold N2t; kernel_rfl) (by
  intro t
  exact ret_mk [dI t.1,dB t.2] (by kernel_rfl) (by kernel_rfl) (by kernel_rfl) (by kernel_rfl)) h
def Nde : Fun := fun avs H =>
  match avs,H with
  | [.dat (.list (.int .i64)) a,.dat (.int .i64) b],[] => ⟨_,N2t a b,fun (t : Int × Bool) => (.tup [dI t.1,dB t.2],[]),[],none⟩
  | _,_ => Ans.no
theorem Nuu : Sound Tryd.prog 51 Nde := by
  refine fn_sound' (C := N51) (c := bodyOf Tryd.f51) (cok_of tys_ok (allc Nhx alln) (allc Tryd.call58 alln) (by kernel_rfl)) Tryd.func51 (by kernel_rfl) LL N1i ?_
  intro avs H r H' h
  unfold Nde at h
  split at h
  · refine Awp.cast ?_ ?_ ?_ (Nkt _ _ h) <;> kernel_rfl
  · simp [Ans.no,Ans.run] at h

def Nu : Ann := (.seq (.leaf [0]) (.seq (.seq (.leaf [0,18]) (.cond (.seq (.leaf [2]) (.leaf [2])) (.leaf [0]))) (.seq (.seq (.leaf [0,20,21]) (.block (.loop (.seq (.leaf [0,20,21,22]) (.seq (.cond (.leaf [0,20,21]) (.leaf [])) (.seq (.block (.seq (.leaf [0,3,20,21]) (.seq (.leaf [0,5,20,21]) (.seq (.leaf [0,20,21,32]) (.cond (.seq (.leaf [2]) (.leaf [2])) (.leaf [0,20,21])))))) (.leaf [0,20,21]))))))) (.seq (.leaf [2]) (.leaf [2])))))
noncomputable def N48 : Ctx := ⟨tlook tys,olook [(50,N8v),(51,Nde)],ioF,0,false,[]⟩
theorem Ns8 (a : List Int) : Link N48 LL (Code.seq (cq [0] (bodyOf Tryd.f42)) (cq [0,1] (bodyOf Tryd.f42))) (Ann.seq (aq [0] Nu) (aq [0,1] Nu)) ⟨mkE 34 0 [(0,dL a)],[]⟩ (N7l a) (Sum.elim (fun (t : Unit) => (Exit.normal,⟨mkE 34 0 [(0,dL a)],[]⟩)) (fun (t : Bool) => (Exit.ret,⟨mkE 34 0 [(2,dB t)],[]⟩))) := .of fun K h => by
  simp only [N7l,wpW] at h
  exact .of (by kernel_rfl) h
theorem Nix (a : List Int) : Link N48 LL (cq [0,0,1,1] (bodyOf Tryd.f42)) (aq [0,0,1,1] Nu) ⟨mkE 34 0 [(0,dL a)],[]⟩ (N7m a) (fun (t : Int) => (Exit.normal,⟨mkE 34 0 [(0,dL a),(20,dI t),(21,dI 0)],[]⟩)) := .of fun K h => by
  simp only [N7m,wpW] at h
  exact .of (by kernel_rfl) h
theorem No3 (a : List Int) (b c : Int) : Link N48 LL (cq [0,0,1,0,1,1] (bodyOf Tryd.f42)) (aq [0,0,1,0,1,1] Nu) ⟨mkE 34 0 [(0,dL a),(20,dI b),(21,dI c)],[]⟩ (N2v a b c) (Sum.elim (fun (t : Int) => (Exit.normal,⟨mkE 34 0 [(0,dL a),(20,dI b),(21,dI t)],[]⟩)) (Sum.elim (fun (t : Bool) => (Exit.ret,⟨mkE 34 0 [(2,dB t)],[]⟩)) (fun (t : Unit) => ((Exit.exit 0),⟨mkE 34 0 [],[]⟩)))) := .of fun K h => by
  simp only [N2v,wpW] at h
  exact .of (by kernel_rfl) h
theorem Nv1 : Link N48 LL (cq [1,1,1] (bodyOf Tryd.f42)) (aq [1,1,1] Nu) ⟨mkE 34 0 [],[]⟩ (Naz) (fun (t : Bool) => (Exit.ret,⟨mkE 34 0 [(2,dB t)],[]⟩)) := .of fun K h => by
  simp only [Naz,wpW] at h
  exact .of (by kernel_rfl) h
theorem Nut (b : List Int) {r : AV} {H' : Heap} (h : (Ans.mk _ (N5 b) (fun (t : Bool) => (dB t,[])) [] none).run = some (r,H')) : Awp N48 LL (bodyOf Tryd.f42) Nu ⟨mkE 34 0 [(0,dL b)],[]⟩ (Ret (tlook tys) Tryd.f42.results.toList r H') :=
  ret_of' (Link.cast (by kernel_rfl) (by kernel_rfl) (link_group (c := (cq [0,1] (bodyOf Tryd.f42))) (a := (aq [0,1] Nu)) [(cq [0] (bodyOf Tryd.f42))] [(aq [0] Nu)] rfl (link_seq2 (Ns8 b) (fun (t : Unit) => (link_seq2 (link_seq (Nix b) (fun (t : Int) => (link_block (fin2 := (Sum.elim (fun (t8 : Unit) => (Exit.normal,⟨mkE 34 0 [],[]⟩)) (fun (t8 : Bool) => (Exit.ret,⟨mkE 34 0 [(2,dB t8)],[]⟩)))) (id := 0) (link_loop (mk := fun (s : Int) => ⟨mkE 34 0 [(0,dL b),(20,dI t),(21,dI s)],[]⟩) (fin := (Sum.elim (fun (t8 : Bool) => (Exit.ret,⟨mkE 34 0 [(2,dB t8)],[]⟩)) (fun (t8 : Unit) => ((Exit.exit 0),⟨mkE 34 0 [],[]⟩)))) (by
  rintro (t8 | t8) f K h
  · exact h
  · exact h) (fun s => link_map (No3 b t s) (Sum.elim (fun (t8 : Int) => Sum.inl t8) (Sum.elim (fun (t8 : Bool) => Sum.inr (Sum.inl t8)) (fun (t8 : Unit) => Sum.inr (Sum.inr t8)))) (by
  rintro (t8 | t8 | t8)
  · kernel_rfl
  · kernel_rfl
  · kernel_rfl)) 0) (Sum.elim (fun (t8 : Bool) => (Sum.inr t8)) (fun (t8 : Unit) => (Sum.inl ()))) (by
  rintro (t8 | t8) K h
  · exact Eq.mp (by kernel_rfl) h
  · exact Eq.mp (by kernel_rfl) h)))) (fun (t : Unit) => (Nv1)) (fun (t : Bool) => t) (by
  rintro t
  · kernel_rfl) (by
  rintro t f K h
  · exact h))) (fun (t : Bool) => t) (by
  rintro t
  · kernel_rfl) (by
  rintro t f K h
  · exact h)))) (by unfold N5; kernel_rfl) (by
  intro t
  exact ret_mk [dB t] (by kernel_rfl) (by kernel_rfl) (by kernel_rfl) (by kernel_rfl)) h
def N14 : Fun := fun avs H =>
  match avs,H with
  | [.dat (.list (.int .i64)) a],[] => ⟨_,N5 a,fun (t : Bool) => (dB t,[]),[],none⟩
  | _,_ => Ans.no
theorem N2e : Sound Tryd.prog 42 N14 := by
  refine fn_sound' (C := N48) (c := bodyOf Tryd.f42) (cok_of tys_ok (allc Nt4 (allc Nuu alln)) (allc Tryd.call50 (allc Tryd.call51 alln)) (by kernel_rfl)) Tryd.func42 (by kernel_rfl) LL Nu ?_
  intro avs H r H' h
  unfold N14 at h
  split at h
  · refine Awp.cast ?_ ?_ ?_ (Nut _ h) <;> kernel_rfl
  · simp [Ans.no,Ans.run] at h

def N1a : Ann := (.seq (.leaf [1]) (.seq (.seq (.leaf [1,14]) (.cond (.seq (.leaf [2]) (.leaf [2])) (.leaf [1]))) (.seq (.seq (.leaf [16,17,18]) (.block (.loop (.seq (.leaf [16,17,18,19]) (.seq (.cond (.leaf [16,17,18]) (.leaf [])) (.seq (.block (.seq (.leaf [4,16,17,18]) (.seq (.leaf [16,17,18,24]) (.cond (.seq (.leaf [2]) (.leaf [2])) (.leaf [16,17,18]))))) (.leaf [16,17,18]))))))) (.seq (.leaf [2]) (.leaf [2])))))
noncomputable def N3x : Ctx := ⟨tlook tys,olook [(42,N14)],ioF,0,false,[]⟩
theorem Nor (a : List Int) (b : List (List Int)) : Link N3x LL (Code.seq (cq [0] (bodyOf Tryd.f27)) (cq [0,1] (bodyOf Tryd.f27))) (Ann.seq (aq [0] N1a) (aq [0,1] N1a)) ⟨mkE 26 0 [(0,.agg [dL a,.dat (.list (.list (.int .i64))) b])],[]⟩ (N5n a b) (Sum.elim (fun (t : Unit) => (Exit.normal,⟨mkE 26 0 [(1,.ptr 0 0)],[some (.box [dL a,.dat (.list (.list (.int .i64))) b])]⟩)) (fun (t : Bool) => (Exit.ret,⟨mkE 26 0 [(2,dB t)],[]⟩))) := .of fun K h => by
  simp only [N5n,wpW] at h
  exact .of (by kernel_rfl) h
theorem Nl5 (a : List Int) (b : List (List Int)) : Link N3x LL (cq [0,0,1,1] (bodyOf Tryd.f27)) (aq [0,0,1,1] N1a) ⟨mkE 26 0 [(1,.ptr 0 0)],[some (.box [dL a,.dat (.list (.list (.int .i64))) b])]⟩ (N7e b) (fun (t : Int) => (Exit.normal,⟨mkE 26 0 [(16,.dat (.list (.list (.int .i64))) b),(17,dI t),(18,dI 0)],[]⟩)) := .of fun K h => by
  simp only [N7e,wpW] at h
  exact .of (by kernel_rfl) h
theorem Nja (a : List (List Int)) (b c : Int) : Link N3x LL (cq [0,0,1,0,1,1] (bodyOf Tryd.f27)) (aq [0,0,1,0,1,1] N1a) ⟨mkE 26 0 [(16,.dat (.list (.list (.int .i64))) a),(17,dI b),(18,dI c)],[]⟩ (N2g a b c) (Sum.elim (fun (t : Int) => (Exit.normal,⟨mkE 26 0 [(16,.dat (.list (.list (.int .i64))) a),(17,dI b),(18,dI t)],[]⟩)) (Sum.elim (fun (t : Bool) => (Exit.ret,⟨mkE 26 0 [(2,dB t)],[]⟩)) (fun (t : Unit) => ((Exit.exit 0),⟨mkE 26 0 [],[]⟩)))) := .of fun K h => by
  simp only [N2g,wpW] at h
  exact .of (by kernel_rfl) h
theorem Nne : Link N3x LL (cq [1,1,1] (bodyOf Tryd.f27)) (aq [1,1,1] N1a) ⟨mkE 26 0 [],[]⟩ (Nco) (fun (t : Bool) => (Exit.ret,⟨mkE 26 0 [(2,dB t)],[]⟩)) := .of fun K h => by
  simp only [Nco,wpW] at h
  exact .of (by kernel_rfl) h
theorem Nqo (b : List Int) (d : List (List Int)) {r : AV} {H' : Heap} (h : (Ans.mk _ (N2f b d) (fun (t : Bool) => (dB t,[])) [] none).run = some (r,H')) : Awp N3x LL (bodyOf Tryd.f27) N1a ⟨mkE 26 0 [(0,.agg [dL b,.dat (.list (.list (.int .i64))) d])],[]⟩ (Ret (tlook tys) Tryd.f27.results.toList r H') :=
  ret_of' (Link.cast (by kernel_rfl) (by kernel_rfl) (link_group (c := (cq [0,1] (bodyOf Tryd.f27))) (a := (aq [0,1] N1a)) [(cq [0] (bodyOf Tryd.f27))] [(aq [0] N1a)] rfl (link_seq2 (Nor b d) (fun (t : Unit) => (link_seq2 (link_seq (Nl5 b d) (fun (t : Int) => (link_block (fin2 := (Sum.elim (fun (t9 : Unit) => (Exit.normal,⟨mkE 26 0 [],[]⟩)) (fun (t9 : Bool) => (Exit.ret,⟨mkE 26 0 [(2,dB t9)],[]⟩)))) (id := 0) (link_loop (mk := fun (s : Int) => ⟨mkE 26 0 [(16,.dat (.list (.list (.int .i64))) d),(17,dI t),(18,dI s)],[]⟩) (fin := (Sum.elim (fun (t9 : Bool) => (Exit.ret,⟨mkE 26 0 [(2,dB t9)],[]⟩)) (fun (t9 : Unit) => ((Exit.exit 0),⟨mkE 26 0 [],[]⟩)))) (by
  rintro (t9 | t9) f K h
  · exact h
  · exact h) (fun s => link_map (Nja d t s) (Sum.elim (fun (t9 : Int) => Sum.inl t9) (Sum.elim (fun (t9 : Bool) => Sum.inr (Sum.inl t9)) (fun (t9 : Unit) => Sum.inr (Sum.inr t9)))) (by
  rintro (t9 | t9 | t9)
  · kernel_rfl
  · kernel_rfl
  · kernel_rfl)) 0) (Sum.elim (fun (t9 : Bool) => (Sum.inr t9)) (fun (t9 : Unit) => (Sum.inl ()))) (by
  rintro (t9 | t9) K h
  · exact Eq.mp (by kernel_rfl) h
  · exact Eq.mp (by kernel_rfl) h)))) (fun (t : Unit) => (Nne)) (fun (t : Bool) => t) (by
  rintro t
  · kernel_rfl) (by
  rintro t f K h
  · exact h))) (fun (t : Bool) => t) (by
  rintro t
  · kernel_rfl) (by
  rintro t f K h
  · exact h)))) (by unfold N2f; kernel_rfl) (by
  intro t
  exact ret_mk [dB t] (by kernel_rfl) (by kernel_rfl) (by kernel_rfl) (by kernel_rfl)) h
def Nbx : Fun := fun avs H =>
  match avs,H with
  | [.agg [.dat (.list (.int .i64)) a,.dat (.list (.list (.int .i64))) b]],[] => ⟨_,N2f a b,fun (t : Bool) => (dB t,[]),[],none⟩
  | _,_ => Ans.no
theorem Ntx : Sound Tryd.prog 27 Nbx := by
  refine fn_sound' (C := N3x) (c := bodyOf Tryd.f27) (cok_of tys_ok (allc N2e alln) (allc Tryd.call42 alln) (by kernel_rfl)) Tryd.func27 (by kernel_rfl) LL N1a ?_
  intro avs H r H' h
  unfold Nbx at h
  split at h
  · refine Awp.cast ?_ ?_ ?_ (Nqo _ _ h) <;> kernel_rfl
  · simp [Ans.no,Ans.run] at h

def N9u : Ann := (.seq (.leaf [0]) (.seq (.seq (.leaf [3]) (.block (.seq (.leaf [3,4]) (.cond (.seq (.leaf [2]) (.leaf [2])) (.seq (.leaf [6]) (.cond (.seq (.leaf [2]) (.leaf [2])) (.leaf []))))))) (.seq (.leaf [2]) (.leaf [2]))))
noncomputable def Nda : Ctx := ⟨tlook tys,olook [],ioF,0,false,[]⟩
theorem Nos (a : Int) : Link Nda LL (bodyOf Tryd.f43) N9u ⟨mkE 8 0 [(0,dI a)],[]⟩ (N6m a) (fun (t : Int) => (Exit.ret,⟨mkE 8 0 [(2,dI t)],[]⟩)) := .of fun K h => by
  simp only [N6m,wpW] at h
  exact .of (by kernel_rfl) h
theorem Nll (a : Int) {r : AV} {H' : Heap} (h : (Ans.mk _ (N4y a) (fun (t : Int) => (dI t,[])) [] none).run = some (r,H')) : Awp Nda LL (bodyOf Tryd.f43) N9u ⟨mkE 8 0 [(0,dI a)],[]⟩ (Ret (tlook tys) Tryd.f43.results.toList r H') :=
  ret_of' (Nos a) (by unfold N4y; kernel_rfl) (by
  intro t
  exact ret_mk [dI t] (by kernel_rfl) (by kernel_rfl) (by kernel_rfl) (by kernel_rfl)) h
def N9q : Fun := fun avs H =>
  match avs,H with
  | [.dat (.int .i64) a],[] => ⟨_,N4y a,fun (t : Int) => (dI t,[]),[],none⟩
  | _,_ => Ans.no
theorem Nuv : Sound Tryd.prog 43 N9q := by
  refine fn_sound' (C := Nda) (c := bodyOf Tryd.f43) (cok_of tys_ok (alln) (alln) (by kernel_rfl)) Tryd.func43 (by kernel_rfl) LL N9u ?_
  intro avs H r H' h
  unfold N9q at h
  split at h
  · refine Awp.cast ?_ ?_ ?_ (Nll _ h) <;> kernel_rfl
  · simp [Ans.no,Ans.run] at h

def Na5 : Ann := (.seq (.leaf [1]) (.seq (.leaf [1,3]) (.seq (.leaf [2]) (.leaf [2]))))
noncomputable def Nag : Ctx := ⟨tlook tys,olook [(43,N9q)],ioF,0,false,[]⟩
theorem Nuy (a b c : Int) : Link Nag LL (bodyOf Tryd.f28) Na5 ⟨mkE 23 0 [(0,.agg [dI a,dI b,dI c])],[]⟩ (N8j a b c) (fun (t : Bool) => (Exit.ret,⟨mkE 23 0 [(2,dB t)],[]⟩)) := .of fun K h => by
  simp only [N8j,wpW] at h
  exact .of (by kernel_rfl) h
theorem Nn3 (a b c : Int) {r : AV} {H' : Heap} (h : (Ans.mk _ (N2u a b c) (fun (t : Bool) => (dB t,[])) [] none).run = some (r,H')) : Awp Nag LL (bodyOf Tryd.f28) Na5 ⟨mkE 23 0 [(0,.agg [dI a,dI b,dI c])],[]⟩ (Ret (tlook tys) Tryd.f28.results.toList r H') :=
  ret_of' (Nuy a b c) (by unfold N2u; kernel_rfl) (by
  intro t
  exact ret_mk [dB t] (by kernel_rfl) (by kernel_rfl) (by kernel_rfl) (by kernel_rfl)) h
def Nbu : Fun := fun avs H =>
  match avs,H with
  | [.agg [.dat (.int .i64) a,.dat (.int .i64) b,.dat (.int .i64) c]],[] => ⟨_,N2u a b c,fun (t : Bool) => (dB t,[]),[],none⟩
  | _,_ => Ans.no
theorem Nm4 : Sound Tryd.prog 28 Nbu := by
  refine fn_sound' (C := Nag) (c := bodyOf Tryd.f28) (cok_of tys_ok (allc Nuv alln) (allc Tryd.call43 alln) (by kernel_rfl)) Tryd.func28 (by kernel_rfl) LL Na5 ?_
  intro avs H r H' h
  unfold Nbu at h
  split at h
  · refine Awp.cast ?_ ?_ ?_ (Nn3 _ _ _ h) <;> kernel_rfl
  · simp [Ans.no,Ans.run] at h

def ren_slices_Clone_int_int : Go.Shelf.Ren := ⟨fun | 41 => 44 | n => n,fun | 4 => 4 | 22 => 22 | 23 => 3 | n => n,fun n => n⟩
theorem lay_slices_Clone_int_int : SlLaysE0.n41 Tryd.prog ren_slices_Clone_int_int := {
  mixed := by kernel_rfl
  f41 := ⟨Tryd.f44.name,by kernel_rfl,Tryd.func44.trans (congrArg some (by kernel_rfl))⟩
  t4 := Tryd.underlying4
  a4 := Tryd.isAgg4
  z4 := Tryd.sizeOf4
  v4 := Tryd.zeroValue4
  t22 := Tryd.underlying22
  a22 := Tryd.isAgg22
  z22 := Tryd.sizeOf22
  v22 := Tryd.zeroValue22 }
def Naj : Fun := F_cloneD
theorem Nf9 : Sound Tryd.prog 44 Naj := cloneD_sound lay_slices_Clone_int_int (infoOf (Tryd.prog.info? 3)) (.int .i64 0) 8 (by kernel_rfl) (by kernel_rfl) (by kernel_rfl) (by kernel_rfl) (by kernel_rfl) (by decide) Tryd.sizeOf3

def Nm : Ann := (.seq (.leaf [0,1,4]) (.seq (.leaf [1,4,5]) (.seq (.seq (.leafF [⟨3,5,true,some 1,some (.int .i64)⟩] [4,5,11,12,13]) (.block (.loop (.seq (.leaf [4,5,11,12,13,14]) (.seq (.cond (.leaf [4,5,11,12,13]) (.leaf [4,5])) (.seq (.block (.seq (.leaf [4,5,7,11,12,13]) (.draw [3,100005] [0,1,2,3,4,5,6,7] [] [4,5,11,12,13]))) (.leaf [4,5,11,12,13]))))))) (.seq (.leaf [4]) (.leaf [4])))))
noncomputable def N4c : Ctx := ⟨tlook tys,olook [(44,Naj)],ioF,0,true,[]⟩
theorem Nnw (a : List Int) (b : List (List Int)) : Link N4c LL (Code.seq (cq [0] (bodyOf Tryd.f29)) (cq [0,1] (bodyOf Tryd.f29))) (Ann.seq (aq [0] Nm) (aq [0,1] Nm)) ⟨mkE 26 0 [(0,dL a),(1,.dat (.list (.list (.int .i64))) b)],[]⟩ (N6s a) (fun (t : (List Int)) => (Exit.normal,⟨mkE 26 0 [(1,.dat (.list (.list (.int .i64))) b),(4,.ptr 0 0),(5,.ptr 1 0)],[some (.box [.nils,.nils]),some (.box [.slc 2,.nils]),some (sI t)]⟩)) := .of fun K h => by
  simp only [N6s,wpW] at h
  exact .of (by kernel_rfl) h
theorem Nnn (a : List (List Int)) (b : List Int) : Link N4c LL (cq [0,0,1,1] (bodyOf Tryd.f29)) (aq [0,0,1,1] Nm) ⟨mkE 26 0 [(1,.dat (.list (.list (.int .i64))) a),(4,.ptr 0 0),(5,.ptr 1 0)],[some (.box [.nils,.nils]),some (.box [.slc 2,.nils]),some (sI b)]⟩ (N6y a) (fun (t : Int) => (Exit.normal,⟨mkE 26 0 [(4,.ptr 0 0),(5,.ptr 1 0),(11,.dat (.list (.list (.int .i64))) a),(12,dI t),(13,dI 0)],[some (.box [.nils,.nils]),some (.box [.slc 2,.slc 3]),some (sI b),some (.nest (.int .i64) ([] : List (List Int)) 0 [])]⟩)) := .of fun K h => by
  simp only [N6y,wpW] at h
  exact .of (by kernel_rfl) h
theorem Npp (a : List (List Int)) (b c : Int) (d : List Int) (g : List (List Int)) : Link N4c LL (cq [0,0,1,0,1,1] (bodyOf Tryd.f29)) (aq [0,0,1,0,1,1] Nm) ⟨mkE 26 0 [(4,.ptr 0 0),(5,.ptr 1 0),(11,.dat (.list (.list (.int .i64))) a),(12,dI b),(13,dI c)],[some (.box [.nils,.nils]),some (.box [.slc 2,.slc 3]),some (sI d),some (.nest (.int .i64) g 0 [])]⟩ (N45 a b c g) (Sum.elim (fun (t : Int × (List (List Int))) => (Exit.normal,⟨mkE 26 0 [(4,.ptr 0 0),(5,.ptr 1 0),(11,.dat (.list (.list (.int .i64))) a),(12,dI b),(13,dI t.1)],[some (.box [.nils,.nils]),some (.box [.slc 2,.slc 3]),some (sI d),some (.nest (.int .i64) t.2 0 [])]⟩)) (fun (t : (List (List Int))) => ((Exit.exit 0),⟨mkE 26 0 [(4,.ptr 0 0),(5,.ptr 1 0)],[some (.box [.nils,.nils]),some (.box [.slc 2,.slc 3]),some (sI d),some (.nest (.int .i64) t 0 [])]⟩))) := .of fun K h => by
  simp only [N45,wpW] at h
  exact .of (by kernel_rfl) h
theorem Nit (a : List Int) (b : List (List Int)) : Link N4c LL (cq [1,1,1] (bodyOf Tryd.f29)) (aq [1,1,1] Nm) ⟨mkE 26 0 [(4,.ptr 0 0),(5,.ptr 1 0)],[some (.box [.nils,.nils]),some (.box [.slc 2,.slc 3]),some (sI a),some (.nest (.int .i64) b 0 [])]⟩ (N8l a b) (fun (t : (List Int) × (List (List Int))) => (Exit.ret,⟨mkE 26 0 [(4,.ptr 0 0)],[some (.box [.slc 1,.slc 2]),some (sI t.1),some (.nest (.int .i64) t.2 0 [])]⟩)) := .of fun K h => by
  simp only [N8l,wpW] at h
  exact .of (by kernel_rfl) h
theorem Npv (b : List Int) (d : List (List Int)) {r : AV} {H' : Heap} (h : (Ans.mk _ (N8 b d) (fun (t : (List Int) × (List (List Int))) => (.agg [.slc 1,.slc 2],[some (.box [.slc 1,.slc 2]),some (sI t.1),some (.nest (.int .i64) t.2 0 [])])) [] none).run = some (r,H')) : Awp N4c LL (bodyOf Tryd.f29) Nm ⟨mkE 26 0 [(0,dL b),(1,.dat (.list (.list (.int .i64))) d)],[]⟩ (Ret (tlook tys) Tryd.f29.results.toList r H') :=
  ret_of' (Link.cast (by kernel_rfl) (by kernel_rfl) (link_group (c := (cq [0,1] (bodyOf Tryd.f29))) (a := (aq [0,1] Nm)) [(cq [0] (bodyOf Tryd.f29))] [(aq [0] Nm)] rfl (link_seq (Nnw b d) (fun (t : (List Int)) => (link_seq (link_seq (Nnn d t) (fun (t30 : Int) => (link_block (fin2 := (fun (t10 : (List (List Int))) => (Exit.normal,⟨mkE 26 0 [(4,.ptr 0 0),(5,.ptr 1 0)],[some (.box [.nils,.nils]),some (.box [.slc 2,.slc 3]),some (sI t),some (.nest (.int .i64) t10 0 [])]⟩))) (id := 0) (link_loop (mk := fun (s : Int × (List (List Int))) => ⟨mkE 26 0 [(4,.ptr 0 0),(5,.ptr 1 0),(11,.dat (.list (.list (.int .i64))) d),(12,dI t30),(13,dI s.1)],[some (.box [.nils,.nils]),some (.box [.slc 2,.slc 3]),some (sI t),some (.nest (.int .i64) s.2 0 [])]⟩) (fin := (fun (t10 : (List (List Int))) => ((Exit.exit 0),⟨mkE 26 0 [(4,.ptr 0 0),(5,.ptr 1 0)],[some (.box [.nils,.nils]),some (.box [.slc 2,.slc 3]),some (sI t),some (.nest (.int .i64) t10 0 [])]⟩))) (by
  rintro t10 f K h
  · exact h) (fun s => link_map (Npp d t30 s.1 t s.2) (Sum.elim (fun (t10 : Int × (List (List Int))) => Sum.inl (t10.1,t10.2)) (fun (t10 : (List (List Int))) => Sum.inr t10)) (by
  rintro (t10 | t10)
  · kernel_rfl
  · kernel_rfl)) (0,([] : List (List Int)))) (fun (t10 : (List (List Int))) => t10) (by
  rintro t10 K h
  · exact Eq.mp (by kernel_rfl) h)))) (fun (t30 : (List (List Int))) => (Nit t t30))))))) (by unfold N8; kernel_rfl) (by
  intro t
  exact ret_mk [.agg [.slc 1,.slc 2]] (by kernel_rfl) (by kernel_rfl) (by kernel_rfl) (by kernel_rfl)) h
def N50 : Fun := fun avs H =>
  match avs,H with
  | [.dat (.list (.int .i64)) a,.dat (.list (.list (.int .i64))) b],[] => ⟨_,N8 a b,fun (t : (List Int) × (List (List Int))) => (.agg [.slc 1,.slc 2],[some (.box [.slc 1,.slc 2]),some (sI t.1),some (.nest (.int .i64) t.2 0 [])]),[],none⟩
  | _,_ => Ans.no
theorem Ncb : Sound Tryd.prog 29 N50 := by
  refine fn_sound' (C := N4c) (c := bodyOf Tryd.f29) (cok_of tys_ok (allc Nf9 alln) (allc Tryd.call44 alln) (by kernel_rfl)) Tryd.func29 (by kernel_rfl) LL Nm ?_
  intro avs H r H' h
  unfold N50 at h
  split at h
  · refine Awp.cast ?_ ?_ ?_ (Npv _ _ h) <;> kernel_rfl
  · simp [Ans.no,Ans.run] at h

def Nbf : Ann := (.seq (.leaf [1,2]) (.seq (.leaf [1,2,4]) (.seq (.seq (.leaf [1,2,4,10]) (.cond (.seq (.leaf [2,3]) (.leaf [2,3])) (.leaf [1,2,4]))) (.seq (.draw [9] [0,1,2,3,4,5,6,7,8,9,10,11] [] [2,3]) (.leaf [2,3])))))
noncomputable def Ncr : Ctx := ⟨tlook tys,olook [(29,N50)],ioF,0,true,[]⟩
theorem Nrw (a : List Int) (b : List (List Int)) : Link Ncr LL (bodyOf Tryd.f30) Nbf ⟨mkE 24 0 [(0,.agg [dL a,.dat (.list (.list (.int .i64))) b])],[]⟩ (N4f a b) (fun (t : Bool × (List Int) × (List (List Int))) => (Exit.ret,⟨mkE 24 0 [(2,.ptr 0 0),(3,dB t.1)],[some (.box [.slc 1,.slc 2]),some (sI t.2.1),some (.nest (.int .i64) t.2.2 0 [])]⟩)) := .of fun K h => by
  simp only [N4f,wpW] at h
  exact .of (by kernel_rfl) h
theorem Nvn (a : List Int) (b : List (List Int)) {r : AV} {H' : Heap} (h : (Ans.mk _ (N1r a b) (fun (t : Bool × (List Int) × (List (List Int))) => (.tup [.agg [.slc 1,.slc 2],dB t.1],[some (.box [.slc 1,.slc 2]),some (sI t.2.1),some (.nest (.int .i64) t.2.2 0 [])])) [] none).run = some (r,H')) : Awp Ncr LL (bodyOf Tryd.f30) Nbf ⟨mkE 24 0 [(0,.agg [dL a,.dat (.list (.list (.int .i64))) b])],[]⟩ (Ret (tlook tys) Tryd.f30.results.toList r H') :=
  ret_of' (Nrw a b) (by unfold N1r; kernel_rfl) (by
  intro t
  exact ret_mk [.agg [.slc 1,.slc 2],dB t.1] (by kernel_rfl) (by kernel_rfl) (by kernel_rfl) (by kernel_rfl)) h
def Nd4 : Fun := fun avs H =>
  match avs,H with
  | [.agg [.dat (.list (.int .i64)) a,.dat (.list (.list (.int .i64))) b]],[] => ⟨_,N1r a b,fun (t : Bool × (List Int) × (List (List Int))) => (.tup [.agg [.slc 1,.slc 2],dB t.1],[some (.box [.slc 1,.slc 2]),some (sI t.2.1),some (.nest (.int .i64) t.2.2 0 [])]),[],none⟩
  | _,_ => Ans.no
theorem Niu : Sound Tryd.prog 30 Nd4 := by
  refine fn_sound' (C := Ncr) (c := bodyOf Tryd.f30) (cok_of tys_ok (allc Ncb alln) (allc Tryd.call29 alln) (by kernel_rfl)) Tryd.func30 (by kernel_rfl) LL Nbf ?_
  intro avs H r H' h
  unfold Nd4 at h
  split at h
  · refine Awp.cast ?_ ?_ ?_ (Nvn _ _ h) <;> kernel_rfl
  · simp [Ans.no,Ans.run] at h

def Na3 : Ann := (.seq (.leaf [0,1]) (.seq (.leaf [4]) (.leaf [4])))
noncomputable def Nbt : Ctx := ⟨tlook tys,olook [(42,N14)],ioF,0,false,[]⟩
theorem Njy (a : List Int) (b : Int) : Link Nbt LL (bodyOf Tryd.f52) Na3 ⟨mkE 17 0 [(0,dL a),(1,dI b)],[]⟩ (N4k a b) (fun (t : Bool) => (Exit.ret,⟨mkE 17 0 [(4,dB t)],[]⟩)) := .of fun K h => by
  simp only [N4k,wpW] at h
  exact .of (by kernel_rfl) h
theorem Nvz (a : List Int) (b : Int) {r : AV} {H' : Heap} (h : (Ans.mk _ (N1v a b) (fun (t : Bool) => (dB t,[])) [] none).run = some (r,H')) : Awp Nbt LL (bodyOf Tryd.f52) Na3 ⟨mkE 17 0 [(0,dL a),(1,dI b)],[]⟩ (Ret (tlook tys) Tryd.f52.results.toList r H') :=
  ret_of' (Njy a b) (by unfold N1v; kernel_rfl) (by
  intro t
  exact ret_mk [dB t] (by kernel_rfl) (by kernel_rfl) (by kernel_rfl) (by kernel_rfl)) h
def N9o : Fun := fun avs H =>
  match avs,H with
  | [.dat (.list (.int .i64)) a,.dat (.int .i64) b],[] => ⟨_,N1v a b,fun (t : Bool) => (dB t,[]),[],none⟩
  | _,_ => Ans.no
theorem Nv8 : Sound Tryd.prog 52 N9o := by
  refine fn_sound' (C := Nbt) (c := bodyOf Tryd.f52) (cok_of tys_ok (allc N2e alln) (allc Tryd.call42 alln) (by kernel_rfl)) Tryd.func52 (by kernel_rfl) LL Na3 ?_
  intro avs H r H' h
  unfold N9o at h
  split at h
  · refine Awp.cast ?_ ?_ ?_ (Nvz _ _ h) <;> kernel_rfl
  · simp [Ans.no,Ans.run] at h

def Nx : Ann := (.seq (.leaf [0]) (.seq (.leaf [0,3]) (.seq (.seq (.leaf [0,3,8,9]) (.block (.loop (.seq (.leaf [0,3,8,9,10]) (.seq (.cond (.leaf [0,3,8,9]) (.leaf [3])) (.seq (.block (.seq (.leaf [0,3,4,8,9]) (.leaf [0,3,8,9]))) (.leaf [0,3,8,9]))))))) (.seq (.leaf [2]) (.leaf [2])))))
noncomputable def N3f : Ctx := ⟨tlook tys,olook [],ioF,0,false,[]⟩
theorem Nt0 (a : Int) : Link N3f LL (Code.seq (cq [0] (bodyOf Tryd.f60)) (cq [0,1] (bodyOf Tryd.f60))) (Ann.seq (aq [0] Nx) (aq [0,1] Nx)) ⟨mkE 20 0 [(0,dI a)],[]⟩ (N5e a) (fun (t : (List Int)) => (Exit.normal,⟨mkE 20 0 [(0,dI a),(3,.slc 0)],[some (sI t)]⟩)) := .of fun K h => by
  simp only [N5e,wpW] at h
  exact .of (by kernel_rfl) h
theorem Nrv (a : Int) (b : List Int) : Link N3f LL (cq [0,0,1,1] (bodyOf Tryd.f60)) (aq [0,0,1,1] Nx) ⟨mkE 20 0 [(0,dI a),(3,.slc 0)],[some (sI b)]⟩ (N6e b) (fun (t : Int) => (Exit.normal,⟨mkE 20 0 [(0,dI a),(3,.slc 0),(8,dI t),(9,dI 0)],[some (sI b)]⟩)) := .of fun K h => by
  simp only [N6e,wpW] at h
  exact .of (by kernel_rfl) h
theorem Ns3 (a b c : Int) (d : List Int) : Link N3f LL (cq [0,0,1,0,1,1] (bodyOf Tryd.f60)) (aq [0,0,1,0,1,1] Nx) ⟨mkE 20 0 [(0,dI a),(3,.slc 0),(8,dI b),(9,dI c)],[some (sI d)]⟩ (N2o a b c d) (Sum.elim (fun (t : Int × (List Int)) => (Exit.normal,⟨mkE 20 0 [(0,dI a),(3,.slc 0),(8,dI b),(9,dI t.1)],[some (sI t.2)]⟩)) (fun (t : (List Int)) => ((Exit.exit 0),⟨mkE 20 0 [(3,.slc 0)],[some (sI t)]⟩))) := .of fun K h => by
  simp only [N2o,wpW] at h
  exact .of (by kernel_rfl) h
theorem Nvd (a : List Int) : Link N3f LL (cq [1,1,1] (bodyOf Tryd.f60)) (aq [1,1,1] Nx) ⟨mkE 20 0 [(3,.slc 0)],[some (sI a)]⟩ (N8c a) (fun (t : (List Int)) => (Exit.ret,⟨mkE 20 0 [(2,.slc 0)],[some (sI t)]⟩)) := .of fun K h => by
  simp only [N8c,wpW] at h
  exact .of (by kernel_rfl) h
theorem Nj2 (b : Int) {r : AV} {H' : Heap} (h : (Ans.mk _ (N2h b) (fun (t : (List Int)) => (.slc 0,[some (sI t)])) [] none).run = some (r,H')) : Awp N3f LL (bodyOf Tryd.f60) Nx ⟨mkE 20 0 [(0,dI b)],[]⟩ (Ret (tlook tys) Tryd.f60.results.toList r H') :=
  ret_of' (Link.cast (by kernel_rfl) (by kernel_rfl) (link_group (c := (cq [0,1] (bodyOf Tryd.f60))) (a := (aq [0,1] Nx)) [(cq [0] (bodyOf Tryd.f60))] [(aq [0] Nx)] rfl (link_seq (Nt0 b) (fun (t : (List Int)) => (link_seq (link_seq (Nrv b t) (fun (t31 : Int) => (link_block (fin2 := (fun (t11 : (List Int)) => (Exit.normal,⟨mkE 20 0 [(3,.slc 0)],[some (sI t11)]⟩))) (id := 0) (link_loop (mk := fun (s : Int × (List Int)) => ⟨mkE 20 0 [(0,dI b),(3,.slc 0),(8,dI t31),(9,dI s.1)],[some (sI s.2)]⟩) (fin := (fun (t11 : (List Int)) => ((Exit.exit 0),⟨mkE 20 0 [(3,.slc 0)],[some (sI t11)]⟩))) (by
  rintro t11 f K h
  · exact h) (fun s => link_map (Ns3 b t31 s.1 s.2) (Sum.elim (fun (t11 : Int × (List Int)) => Sum.inl (t11.1,t11.2)) (fun (t11 : (List Int)) => Sum.inr t11)) (by
  rintro (t11 | t11)
  · kernel_rfl
  · kernel_rfl)) (0,t)) (fun (t11 : (List Int)) => t11) (by
  rintro t11 K h
  · exact Eq.mp (by kernel_rfl) h)))) (fun (t31 : (List Int)) => (Nvd t31))))))) (by unfold N2h; kernel_rfl) (by
  intro t
  exact ret_mk [.slc 0] (by kernel_rfl) (by kernel_rfl) (by kernel_rfl) (by kernel_rfl)) h
def Nai : Fun := fun avs H =>
  match avs,H with
  | [.dat (.int .i64) a],[] => ⟨_,N2h a,fun (t : (List Int)) => (.slc 0,[some (sI t)]),[],none⟩
  | _,_ => Ans.no
theorem Ntw : Sound Tryd.prog 60 Nai := by
  refine fn_sound' (C := N3f) (c := bodyOf Tryd.f60) (cok_of tys_ok (alln) (alln) (by kernel_rfl)) Tryd.func60 (by kernel_rfl) LL Nx ?_
  intro avs H r H' h
  unfold Nai at h
  split at h
  · refine Awp.cast ?_ ?_ ?_ (Nj2 _ h) <;> kernel_rfl
  · simp [Ans.no,Ans.run] at h

def Nf : Ann := (.seq (.leaf [0,1]) (.seq (.seq (.leaf [0,1,19]) (.cond (.seq (.leaf [4]) (.leaf [4])) (.leaf [0,1]))) (.seq (.leaf [0,1,5]) (.seq (.seq (.leaf [1,5,20,21,22]) (.block (.loop (.seq (.leaf [1,5,20,21,22,23]) (.seq (.cond (.leaf [1,5,20,21,22]) (.leaf [])) (.seq (.block (.seq (.leaf [1,5,7,20,21,22]) (.seq (.seq (.leaf [1,5,7,20,21,22,37]) (.cond (.seq (.leaf [4]) (.leaf [4])) (.leaf [1,5,7,20,21,22]))) (.leaf [1,5,20,21,22])))) (.leaf [1,5,20,21,22]))))))) (.seq (.leaf [4]) (.leaf [4]))))))
noncomputable def N35 : Ctx := ⟨tlook tys,olook [],ioF,0,false,[]⟩
theorem Nrj (a : List Int) (b : Int) : Link N35 LL (Code.seq (cq [0] (bodyOf Tryd.f62)) (Code.seq (cq [0,1] (bodyOf Tryd.f62)) (cq [0,1,1] (bodyOf Tryd.f62)))) (Ann.seq (aq [0] Nf) (Ann.seq (aq [0,1] Nf) (aq [0,1,1] Nf))) ⟨mkE 41 0 [(0,dL a),(1,dI b)],[]⟩ (N71 a b) (Sum.elim (fun (t : Unit) => (Exit.normal,⟨mkE 41 0 [(0,dL a),(1,dI b),(5,.ptr 0 0)],[some (.seq .bool (List.replicate 9 false))]⟩)) (fun (t : Bool) => (Exit.ret,⟨mkE 41 0 [(4,dB t)],[]⟩))) := .of fun K h => by
  simp only [N71,wpW] at h
  exact .of (by kernel_rfl) h
theorem Nkk (a : List Int) (b : Int) : Link N35 LL (cq [0,0,1,1,1] (bodyOf Tryd.f62)) (aq [0,0,1,1,1] Nf) ⟨mkE 41 0 [(0,dL a),(1,dI b),(5,.ptr 0 0)],[some (.seq .bool (List.replicate 9 false))]⟩ (N6l a) (fun (t : Int) => (Exit.normal,⟨mkE 41 0 [(1,dI b),(5,.ptr 0 0),(20,dL a),(21,dI t),(22,dI 0)],[some (.seq .bool (List.replicate 9 false))]⟩)) := .of fun K h => by
  simp only [N6l,wpW] at h
  exact .of (by kernel_rfl) h
theorem Nsb (a : Int) (b : List Int) (c d : Int) (g : List Bool) : Link N35 LL (cq [0,0,1,0,1,1,1] (bodyOf Tryd.f62)) (aq [0,0,1,0,1,1,1] Nf) ⟨mkE 41 0 [(1,dI a),(5,.ptr 0 0),(20,dL b),(21,dI c),(22,dI d)],[some (.seq .bool g)]⟩ (N4i a b c d g) (Sum.elim (fun (t : Int × (List Bool)) => (Exit.normal,⟨mkE 41 0 [(1,dI a),(5,.ptr 0 0),(20,dL b),(21,dI c),(22,dI t.1)],[some (.seq .bool t.2)]⟩)) (Sum.elim (fun (t : Bool) => (Exit.ret,⟨mkE 41 0 [(4,dB t)],[]⟩)) (fun (t : Unit) => ((Exit.exit 0),⟨mkE 41 0 [],[]⟩)))) := .of fun K h => by
  simp only [N4i,wpW] at h
  exact .of (by kernel_rfl) h
theorem Nps : Link N35 LL (cq [1,1,1,1] (bodyOf Tryd.f62)) (aq [1,1,1,1] Nf) ⟨mkE 41 0 [],[]⟩ (N6x) (fun (t : Bool) => (Exit.ret,⟨mkE 41 0 [(4,dB t)],[]⟩)) := .of fun K h => by
  simp only [N6x,wpW] at h
  exact .of (by kernel_rfl) h
theorem Nob (b : List Int) (d : Int) {r : AV} {H' : Heap} (h : (Ans.mk _ (N3e b d) (fun (t : Bool) => (dB t,[])) [] none).run = some (r,H')) : Awp N35 LL (bodyOf Tryd.f62) Nf ⟨mkE 41 0 [(0,dL b),(1,dI d)],[]⟩ (Ret (tlook tys) Tryd.f62.results.toList r H') :=
  ret_of' (Link.cast (by kernel_rfl) (by kernel_rfl) (link_group (c := (cq [0,1,1] (bodyOf Tryd.f62))) (a := (aq [0,1,1] Nf)) [(cq [0] (bodyOf Tryd.f62)),(cq [0,1] (bodyOf Tryd.f62))] [(aq [0] Nf),(aq [0,1] Nf)] rfl (link_seq2 (Nrj b d) (fun (t : Unit) => (link_seq2 (link_seq (Nkk b d) (fun (t : Int) => (link_block (fin2 := (Sum.elim (fun (t12 : Unit) => (Exit.normal,⟨mkE 41 0 [],[]⟩)) (fun (t12 : Bool) => (Exit.ret,⟨mkE 41 0 [(4,dB t12)],[]⟩)))) (id := 0) (link_loop (mk := fun (s : Int × (List Bool)) => ⟨mkE 41 0 [(1,dI d),(5,.ptr 0 0),(20,dL b),(21,dI t),(22,dI s.1)],[some (.seq .bool s.2)]⟩) (fin := (Sum.elim (fun (t12 : Bool) => (Exit.ret,⟨mkE 41 0 [(4,dB t12)],[]⟩)) (fun (t12 : Unit) => ((Exit.exit 0),⟨mkE 41 0 [],[]⟩)))) (by
  rintro (t12 | t12) f K h
  · exact h
  · exact h) (fun s => link_map (Nsb d b t s.1 s.2) (Sum.elim (fun (t12 : Int × (List Bool)) => Sum.inl (t12.1,t12.2)) (Sum.elim (fun (t12 : Bool) => Sum.inr (Sum.inl t12)) (fun (t12 : Unit) => Sum.inr (Sum.inr t12)))) (by
  rintro (t12 | t12 | t12)
  · kernel_rfl
  · kernel_rfl
  · kernel_rfl)) (0,(List.replicate 9 false))) (Sum.elim (fun (t12 : Bool) => (Sum.inr t12)) (fun (t12 : Unit) => (Sum.inl ()))) (by
  rintro (t12 | t12) K h
  · exact Eq.mp (by kernel_rfl) h
  · exact Eq.mp (by kernel_rfl) h)))) (fun (t : Unit) => (Nps)) (fun (t : Bool) => t) (by
  rintro t
  · kernel_rfl) (by
  rintro t f K h
  · exact h))) (fun (t : Bool) => t) (by
  rintro t
  · kernel_rfl) (by
  rintro t f K h
  · exact h)))) (by unfold N3e; kernel_rfl) (by
  intro t
  exact ret_mk [dB t] (by kernel_rfl) (by kernel_rfl) (by kernel_rfl) (by kernel_rfl)) h
def Nbh : Fun := fun avs H =>
  match avs,H with
  | [.dat (.list (.int .i64)) a,.dat (.int .i64) b],[] => ⟨_,N3e a b,fun (t : Bool) => (dB t,[]),[],none⟩
  | _,_ => Ans.no
theorem Njx : Sound Tryd.prog 62 Nbh := by
  refine fn_sound' (C := N35) (c := bodyOf Tryd.f62) (cok_of tys_ok (alln) (alln) (by kernel_rfl)) Tryd.func62 (by kernel_rfl) LL Nf ?_
  intro avs H r H' h
  unfold Nbh at h
  split at h
  · refine Awp.cast ?_ ?_ ?_ (Nob _ _ h) <;> kernel_rfl
  · simp [Ans.no,Ans.run] at h

def Nr : Ann := (.seq (.leaf [0]) (.seq (.leaf [0,3]) (.seq (.seq (.leaf [3,10,11,12]) (.block (.loop (.seq (.leaf [3,10,11,12,13]) (.seq (.cond (.leaf [3,10,11,12]) (.leaf [3])) (.seq (.block (.seq (.leaf [3,4,5,10,11,12]) (.leaf [3,10,11,12]))) (.leaf [3,10,11,12]))))))) (.seq (.leaf [2]) (.leaf [2])))))
noncomputable def N3k : Ctx := ⟨tlook tys,olook [],ioF,0,false,[]⟩
theorem Ntr (a : List Int) : Link N3k LL (Code.seq (cq [0] (bodyOf Tryd.f63)) (cq [0,1] (bodyOf Tryd.f63))) (Ann.seq (aq [0] Nr) (aq [0,1] Nr)) ⟨mkE 24 0 [(0,dL a)],[]⟩ (N5l a) (fun (t : (List Int)) => (Exit.normal,⟨mkE 24 0 [(0,dL a),(3,.slc 0)],[some (sI t)]⟩)) := .of fun K h => by
  simp only [N5l,wpW] at h
  exact .of (by kernel_rfl) h
theorem Nr7 (a b : List Int) : Link N3k LL (cq [0,0,1,1] (bodyOf Tryd.f63)) (aq [0,0,1,1] Nr) ⟨mkE 24 0 [(0,dL a),(3,.slc 0)],[some (sI b)]⟩ (N7f a) (fun (t : Int) => (Exit.normal,⟨mkE 24 0 [(3,.slc 0),(10,dL a),(11,dI t),(12,dI 0)],[some (sI b)]⟩)) := .of fun K h => by
  simp only [N7f,wpW] at h
  exact .of (by kernel_rfl) h
theorem Nth (a : List Int) (b c : Int) (d : List Int) : Link N3k LL (cq [0,0,1,0,1,1] (bodyOf Tryd.f63)) (aq [0,0,1,0,1,1] Nr) ⟨mkE 24 0 [(3,.slc 0),(10,dL a),(11,dI b),(12,dI c)],[some (sI d)]⟩ (N3t a b c d) (Sum.elim (fun (t : Int × (List Int)) => (Exit.normal,⟨mkE 24 0 [(3,.slc 0),(10,dL a),(11,dI b),(12,dI t.1)],[some (sI t.2)]⟩)) (fun (t : (List Int)) => ((Exit.exit 0),⟨mkE 24 0 [(3,.slc 0)],[some (sI t)]⟩))) := .of fun K h => by
  simp only [N3t,wpW] at h
  exact .of (by kernel_rfl) h
theorem Nky (a : List Int) : Link N3k LL (cq [1,1,1] (bodyOf Tryd.f63)) (aq [1,1,1] Nr) ⟨mkE 24 0 [(3,.slc 0)],[some (sI a)]⟩ (N8f a) (fun (t : (List Int)) => (Exit.ret,⟨mkE 24 0 [(2,.slc 0)],[some (sI t)]⟩)) := .of fun K h => by
  simp only [N8f,wpW] at h
  exact .of (by kernel_rfl) h
theorem Nlt (b : List Int) {r : AV} {H' : Heap} (h : (Ans.mk _ (N2y b) (fun (t : (List Int)) => (.slc 0,[some (sI t)])) [] none).run = some (r,H')) : Awp N3k LL (bodyOf Tryd.f63) Nr ⟨mkE 24 0 [(0,dL b)],[]⟩ (Ret (tlook tys) Tryd.f63.results.toList r H') :=
  ret_of' (Link.cast (by kernel_rfl) (by kernel_rfl) (link_group (c := (cq [0,1] (bodyOf Tryd.f63))) (a := (aq [0,1] Nr)) [(cq [0] (bodyOf Tryd.f63))] [(aq [0] Nr)] rfl (link_seq (Ntr b) (fun (t : (List Int)) => (link_seq (link_seq (Nr7 b t) (fun (t32 : Int) => (link_block (fin2 := (fun (t13 : (List Int)) => (Exit.normal,⟨mkE 24 0 [(3,.slc 0)],[some (sI t13)]⟩))) (id := 0) (link_loop (mk := fun (s : Int × (List Int)) => ⟨mkE 24 0 [(3,.slc 0),(10,dL b),(11,dI t32),(12,dI s.1)],[some (sI s.2)]⟩) (fin := (fun (t13 : (List Int)) => ((Exit.exit 0),⟨mkE 24 0 [(3,.slc 0)],[some (sI t13)]⟩))) (by
  rintro t13 f K h
  · exact h) (fun s => link_map (Nth b t32 s.1 s.2) (Sum.elim (fun (t13 : Int × (List Int)) => Sum.inl (t13.1,t13.2)) (fun (t13 : (List Int)) => Sum.inr t13)) (by
  rintro (t13 | t13)
  · kernel_rfl
  · kernel_rfl)) (0,t)) (fun (t13 : (List Int)) => t13) (by
  rintro t13 K h
  · exact Eq.mp (by kernel_rfl) h)))) (fun (t32 : (List Int)) => (Nky t32))))))) (by unfold N2y; kernel_rfl) (by
  intro t
  exact ret_mk [.slc 0] (by kernel_rfl) (by kernel_rfl) (by kernel_rfl) (by kernel_rfl)) h
def N8z : Fun := fun avs H =>
  match avs,H with
  | [.dat (.list (.int .i64)) a],[] => ⟨_,N2y a,fun (t : (List Int)) => (.slc 0,[some (sI t)]),[],none⟩
  | _,_ => Ans.no
theorem Nko : Sound Tryd.prog 63 N8z := by
  refine fn_sound' (C := N3k) (c := bodyOf Tryd.f63) (cok_of tys_ok (alln) (alln) (by kernel_rfl)) Tryd.func63 (by kernel_rfl) LL Nr ?_
  intro avs H r H' h
  unfold N8z at h
  split at h
  · refine Awp.cast ?_ ?_ ?_ (Nlt _ h) <;> kernel_rfl
  · simp [Ans.no,Ans.run] at h

def Nae : Ann := (.seq (.leaf [0,1]) (.seq (.leaf [3]) (.leaf [3])))
noncomputable def N9j : Ctx := ⟨tlook tys,olook [],ioF,2,false,[]⟩
theorem Nup (a : Int) (b : List Int) : Link N9j LL (bodyOf Tryd.f65) Nae ⟨mkE 8 0 [(0,dI a),(1,.ptr 0 0)],[some (.box [.slc 1]),some (sI b)]⟩ (N6n a b) (fun (t : Int) => (Exit.ret,⟨mkE 8 0 [(3,dI t)],[some (.box [.slc 1]),some (sI b)]⟩)) := .of fun K h => by
  simp only [N6n,wpW] at h
  exact .of (by kernel_rfl) h
theorem Nts (a : Int) (b : List Int) {r : AV} {H' : Heap} (h : (Ans.mk _ (N3d a b) (fun (t : Int) => (dI t,[some (.box [.slc 1]),some (sI b)])) [] none).run = some (r,H')) : Awp N9j LL (bodyOf Tryd.f65) Nae ⟨mkE 8 0 [(0,dI a),(1,.ptr 0 0)],[some (.box [.slc 1]),some (sI b)]⟩ (Ret (tlook tys) Tryd.f65.results.toList r H') :=
  ret_of' (Nup a b) (by unfold N3d; kernel_rfl) (by
  intro t
  exact ret_mk [dI t] (by kernel_rfl) (by kernel_rfl) (by kernel_rfl) (by kernel_rfl)) h
def Ncm : Fun := fun avs H =>
  match avs,H with
  | [.dat (.int .i64) a,.ptr 0 0],[some (.box [.slc 1]),some (.seq (.int .i64) b)] => ⟨_,N3d a b,fun (t : Int) => (dI t,[some (.box [.slc 1]),some (sI b)]),[],none⟩
  | _,_ => Ans.no
theorem Nib : Sound Tryd.prog 65 Ncm := by
  refine fn_sound' (C := N9j) (c := bodyOf Tryd.f65) (cok_of tys_ok (alln) (alln) (by kernel_rfl)) Tryd.func65 (by kernel_rfl) LL Nae ?_
  intro avs H r H' h
  unfold Ncm at h
  split at h
  · refine Awp.cast ?_ ?_ ?_ (Nts _ _ h) <;> kernel_rfl
  · simp [Ans.no,Ans.run] at h

def Nz : Ann := (.seq (.leaf [0,1,2]) (.seq (.leaf [0,1,2,7]) (.seq (.seq (.leaf [0,2,7,13,14,15]) (.block (.loop (.seq (.leaf [0,2,7,13,14,15,16]) (.seq (.cond (.leaf [0,2,7,13,14,15]) (.leaf [7])) (.seq (.block (.seq (.leaf [0,2,7,8,9,13,14,15]) (.leaf [0,2,7,13,14,15]))) (.leaf [0,2,7,13,14,15]))))))) (.seq (.leaf [6]) (.leaf [6])))))
noncomputable def N2r : Ctx := ⟨tlook tys,olook [(65,Ncm)],ioF,2,false,[]⟩
theorem Npy (a b c : List Int) : Link N2r LL (Code.seq (cq [0] (bodyOf Tryd.f64)) (cq [0,1] (bodyOf Tryd.f64))) (Ann.seq (aq [0] Nz) (aq [0,1] Nz)) ⟨mkE 32 0 [(0,dL a),(1,dL b),(2,.fn 65 [] [.ptr 0 0])],[some (.box [.slc 1]),some (sI c)]⟩ (N79 b) (fun (t : (List Int)) => (Exit.normal,⟨mkE 32 0 [(0,dL a),(1,dL b),(2,.fn 65 [] [.ptr 0 0]),(7,.slc 2)],[some (.box [.slc 1]),some (sI c),some (sI t)]⟩)) := .of fun K h => by
  simp only [N79,wpW] at h
  exact .of (by kernel_rfl) h
theorem Nmf (a b c d : List Int) : Link N2r LL (cq [0,0,1,1] (bodyOf Tryd.f64)) (aq [0,0,1,1] Nz) ⟨mkE 32 0 [(0,dL a),(1,dL b),(2,.fn 65 [] [.ptr 0 0]),(7,.slc 2)],[some (.box [.slc 1]),some (sI c),some (sI d)]⟩ (N5v b) (fun (t : Int) => (Exit.normal,⟨mkE 32 0 [(0,dL a),(2,.fn 65 [] [.ptr 0 0]),(7,.slc 2),(13,dL b),(14,dI t),(15,dI 0)],[some (.box [.slc 1]),some (sI c),some (sI d)]⟩)) := .of fun K h => by
  simp only [N5v,wpW] at h
  exact .of (by kernel_rfl) h
theorem Np5 (a b : List Int) (c d : Int) (g i : List Int) : Link N2r LL (cq [0,0,1,0,1,1] (bodyOf Tryd.f64)) (aq [0,0,1,0,1,1] Nz) ⟨mkE 32 0 [(0,dL a),(2,.fn 65 [] [.ptr 0 0]),(7,.slc 2),(13,dL b),(14,dI c),(15,dI d)],[some (.box [.slc 1]),some (sI g),some (sI i)]⟩ (N56 a b c d g i) (Sum.elim (fun (t : Int × (List Int)) => (Exit.normal,⟨mkE 32 0 [(0,dL a),(2,.fn 65 [] [.ptr 0 0]),(7,.slc 2),(13,dL b),(14,dI c),(15,dI t.1)],[some (.box [.slc 1]),some (sI g),some (sI t.2)]⟩)) (fun (t : (List Int)) => ((Exit.exit 0),⟨mkE 32 0 [(7,.slc 2)],[some (.box [.slc 1]),some (sI g),some (sI t)]⟩))) := .of fun K h => by
  simp only [N56,wpW] at h
  exact .of (by kernel_rfl) h
theorem Nri (a b : List Int) : Link N2r LL (cq [1,1,1] (bodyOf Tryd.f64)) (aq [1,1,1] Nz) ⟨mkE 32 0 [(7,.slc 2)],[some (.box [.slc 1]),some (sI a),some (sI b)]⟩ (N6b b) (fun (t : (List Int)) => (Exit.ret,⟨mkE 32 0 [(6,.slc 2)],[some (.box [.slc 1]),some (sI a),some (sI t)]⟩)) := .of fun K h => by
  simp only [N6b,wpW] at h
  exact .of (by kernel_rfl) h
theorem Nrq (b d g : List Int) {r : AV} {H' : Heap} (h : (Ans.mk _ (N4v b d g) (fun (t : (List Int)) => (.slc 2,[some (.box [.slc 1]),some (sI g),some (sI t)])) [] none).run = some (r,H')) : Awp N2r LL (bodyOf Tryd.f64) Nz ⟨mkE 32 0 [(0,dL b),(1,dL d),(2,.fn 65 [] [.ptr 0 0])],[some (.box [.slc 1]),some (sI g)]⟩ (Ret (tlook tys) Tryd.f64.results.toList r H') :=
  ret_of' (Link.cast (by kernel_rfl) (by kernel_rfl) (link_group (c := (cq [0,1] (bodyOf Tryd.f64))) (a := (aq [0,1] Nz)) [(cq [0] (bodyOf Tryd.f64))] [(aq [0] Nz)] rfl (link_seq (Npy b d g) (fun (t : (List Int)) => (link_seq (link_seq (Nmf b d g t) (fun (t33 : Int) => (link_block (fin2 := (fun (t14 : (List Int)) => (Exit.normal,⟨mkE 32 0 [(7,.slc 2)],[some (.box [.slc 1]),some (sI g),some (sI t14)]⟩))) (id := 0) (link_loop (mk := fun (s : Int × (List Int)) => ⟨mkE 32 0 [(0,dL b),(2,.fn 65 [] [.ptr 0 0]),(7,.slc 2),(13,dL d),(14,dI t33),(15,dI s.1)],[some (.box [.slc 1]),some (sI g),some (sI s.2)]⟩) (fin := (fun (t14 : (List Int)) => ((Exit.exit 0),⟨mkE 32 0 [(7,.slc 2)],[some (.box [.slc 1]),some (sI g),some (sI t14)]⟩))) (by
  rintro t14 f K h
  · exact h) (fun s => link_map (Np5 b d t33 s.1 g s.2) (Sum.elim (fun (t14 : Int × (List Int)) => Sum.inl (t14.1,t14.2)) (fun (t14 : (List Int)) => Sum.inr t14)) (by
  rintro (t14 | t14)
  · kernel_rfl
  · kernel_rfl)) (0,t)) (fun (t14 : (List Int)) => t14) (by
  rintro t14 K h
  · exact Eq.mp (by kernel_rfl) h)))) (fun (t33 : (List Int)) => (Nri g t33))))))) (by unfold N4v; kernel_rfl) (by
  intro t
  exact ret_mk [.slc 2] (by kernel_rfl) (by kernel_rfl) (by kernel_rfl) (by kernel_rfl)) h
def Nce : Fun := fun avs H =>
  match avs,H with
  | [.dat (.list (.int .i64)) a,.dat (.list (.int .i64)) b,.fn 65 [] [.ptr 0 0]],[some (.box [.slc 1]),some (.seq (.int .i64) c)] => ⟨_,N4v a b c,fun (t : (List Int)) => (.slc 2,[some (.box [.slc 1]),some (sI c),some (sI t)]),[],none⟩
  | _,_ => Ans.no
theorem Ni7 : Sound Tryd.prog 64 Nce := by
  refine fn_sound' (C := N2r) (c := bodyOf Tryd.f64) (cok_of tys_ok (allc Nib alln) (allc Tryd.call65 alln) (by kernel_rfl)) Tryd.func64 (by kernel_rfl) LL Nz ?_
  intro avs H r H' h
  unfold Nce at h
  split at h
  · refine Awp.cast ?_ ?_ ?_ (Nrq _ _ _ h) <;> kernel_rfl
  · simp [Ans.no,Ans.run] at h

def Ncq : Ann := (.seq (.leaf [0,1]) (.seq (.seq (.leaf [0,1,16]) (.cond (.seq (.leaf [4,5]) (.leaf [4,5])) (.leaf [0,1]))) (.seq (.leaf [0,1,6]) (.seq (.leaf [4,5]) (.leaf [4,5])))))
noncomputable def Na6 : Ctx := ⟨tlook tys,olook [(42,N14),(62,Nbh),(63,N8z),(64,Nce)],ioF,0,false,[]⟩
theorem Nq1 (a b : List Int) : Link Na6 LL (bodyOf Tryd.f59) Ncq ⟨mkE 23 0 [(0,dL a),(1,dL b)],[]⟩ (N7v a b) (fun (t : Bool × (List Int)) => (Exit.ret,⟨mkE 23 0 [(4,.slc 0),(5,dB t.1)],[some (sI t.2)]⟩)) := .of fun K h => by
  simp only [N7v,wpW] at h
  exact .of (by kernel_rfl) h
theorem Nna (a b : List Int) {r : AV} {H' : Heap} (h : (Ans.mk _ (N1s a b) (fun (t : Bool × (List Int)) => (.tup [.slc 0,dB t.1],[some (sI t.2)])) [] none).run = some (r,H')) : Awp Na6 LL (bodyOf Tryd.f59) Ncq ⟨mkE 23 0 [(0,dL a),(1,dL b)],[]⟩ (Ret (tlook tys) Tryd.f59.results.toList r H') :=
  ret_of' (Nq1 a b) (by unfold N1s; kernel_rfl) (by
  intro t
  exact ret_mk [.slc 0,dB t.1] (by kernel_rfl) (by kernel_rfl) (by kernel_rfl) (by kernel_rfl)) h
def N5c : Fun := fun avs H =>
  match avs,H with
  | [.dat (.list (.int .i64)) a,.dat (.list (.int .i64)) b],[] => ⟨_,N1s a b,fun (t : Bool × (List Int)) => (.tup [.slc 0,dB t.1],[some (sI t.2)]),[],none⟩
  | _,_ => Ans.no
theorem Nf8 : Sound Tryd.prog 59 N5c := by
  refine fn_sound' (C := Na6) (c := bodyOf Tryd.f59) (cok_of tys_ok (allc N2e (allc Njx (allc Nko (allc Ni7 alln)))) (allc Tryd.call42 (allc Tryd.call62 (allc Tryd.call63 (allc Tryd.call64 alln)))) (by kernel_rfl)) Tryd.func59 (by kernel_rfl) LL Ncq ?_
  intro avs H r H' h
  unfold N5c at h
  split at h
  · refine Awp.cast ?_ ?_ ?_ (Nna _ _ h) <;> kernel_rfl
  · simp [Ans.no,Ans.run] at h

def Nc3 : Ann := (.seq (.leaf [0]) (.seq (.seq (.leaf [0,7]) (.cond (.seq (.leaf [2]) (.leaf [2])) (.leaf [0]))) (.seq (.leaf [3]) (.seq (.leaf [2]) (.leaf [2])))))
noncomputable def N91 : Ctx := ⟨tlook tys,olook [(42,N14),(60,Nai),(59,N5c)],ioF,0,false,[]⟩
theorem Ntz (a : List Int) : Link N91 LL (bodyOf Tryd.f53) Nc3 ⟨mkE 17 0 [(0,dL a)],[]⟩ (N4t a) (fun (t : (List Int)) => (Exit.ret,⟨mkE 17 0 [(2,.slc 0)],[some (sI t)]⟩)) := .of fun K h => by
  simp only [N4t,wpW] at h
  exact .of (by kernel_rfl) h
theorem Nkc (a : List Int) {r : AV} {H' : Heap} (h : (Ans.mk _ (N1z a) (fun (t : (List Int)) => (.slc 0,[some (sI t)])) [] none).run = some (r,H')) : Awp N91 LL (bodyOf Tryd.f53) Nc3 ⟨mkE 17 0 [(0,dL a)],[]⟩ (Ret (tlook tys) Tryd.f53.results.toList r H') :=
  ret_of' (Ntz a) (by unfold N1z; kernel_rfl) (by
  intro t
  exact ret_mk [.slc 0] (by kernel_rfl) (by kernel_rfl) (by kernel_rfl) (by kernel_rfl)) h
def Nay : Fun := fun avs H =>
  match avs,H with
  | [.dat (.list (.int .i64)) a],[] => ⟨_,N1z a,fun (t : (List Int)) => (.slc 0,[some (sI t)]),[],none⟩
  | _,_ => Ans.no
theorem Noi : Sound Tryd.prog 53 Nay := by
  refine fn_sound' (C := N91) (c := bodyOf Tryd.f53) (cok_of tys_ok (allc N2e (allc Ntw (allc Nf8 alln))) (allc Tryd.call42 (allc Tryd.call60 (allc Tryd.call59 alln))) (by kernel_rfl)) Tryd.func53 (by kernel_rfl) LL Nc3 ?_
  intro avs H r H' h
  unfold Nay at h
  split at h
  · refine Awp.cast ?_ ?_ ?_ (Nkc _ h) <;> kernel_rfl
  · simp [Ans.no,Ans.run] at h

def Nj : Ann := (.seq (.leaf [0]) (.seq (.seq (.leaf [0,6]) (.cond (.seq (.leaf [2]) (.leaf [2])) (.leaf [0]))) (.seq (.leaf [3]) (.seq (.block (.loop (.seq (.seq (.leaf [3,9]) (.cond (.leaf [3]) (.leaf [3]))) (.block (.leaf [3]))))) (.seq (.leaf [2]) (.leaf [2]))))))
noncomputable def N4g : Ctx := ⟨tlook tys,olook [(42,N14),(58,N5u)],ioF,0,false,[]⟩
theorem Ni8 (a : List Int) : Link N4g LL (Code.seq (cq [0] (bodyOf Tryd.f67)) (Code.seq (cq [0,1] (bodyOf Tryd.f67)) (cq [0,1,1] (bodyOf Tryd.f67)))) (Ann.seq (aq [0] Nj) (Ann.seq (aq [0,1] Nj) (aq [0,1,1] Nj))) ⟨mkE 12 0 [(0,dL a)],[]⟩ (N5z a) (Sum.elim (fun (t : Unit) => (Exit.normal,⟨mkE 12 0 [(3,.ptr 0 0)],[some (.box [dL a,dI 1,dI 0])]⟩)) (fun (t : Int) => (Exit.ret,⟨mkE 12 0 [(2,dI t)],[]⟩))) := .of fun K h => by
  simp only [N5z,wpW] at h
  exact .of (by kernel_rfl) h
theorem Njd (a : List Int) (b c : Int) : Link N4g LL (cq [0,0,0,1,1,1] (bodyOf Tryd.f67)) (aq [0,0,0,1,1,1] Nj) ⟨mkE 12 0 [(3,.ptr 0 0)],[some (.box [dL a,dI b,dI c])]⟩ (N4z a b c) (Sum.elim (fun (t : Int × Int) => (Exit.normal,⟨mkE 12 0 [(3,.ptr 0 0)],[some (.box [dL a,dI t.1,dI t.2])]⟩)) (fun (t : Int × Int) => ((Exit.exit 0),⟨mkE 12 0 [(3,.ptr 0 0)],[some (.box [dL a,dI t.1,dI t.2])]⟩))) := .of fun K h => by
  simp only [N4z,wpW] at h
  exact .of (by kernel_rfl) h
theorem Nvx (a : List Int) (b c : Int) : Link N4g LL (cq [1,1,1,1] (bodyOf Tryd.f67)) (aq [1,1,1,1] Nj) ⟨mkE 12 0 [(3,.ptr 0 0)],[some (.box [dL a,dI b,dI c])]⟩ (N81 b) (fun (t : Int) => (Exit.ret,⟨mkE 12 0 [(2,dI t)],[]⟩)) := .of fun K h => by
  simp only [N81,wpW] at h
  exact .of (by kernel_rfl) h
theorem Nk2 (b : List Int) {r : AV} {H' : Heap} (h : (Ans.mk _ (N3z b) (fun (t : Int) => (dI t,[])) [] none).run = some (r,H')) : Awp N4g LL (bodyOf Tryd.f67) Nj ⟨mkE 12 0 [(0,dL b)],[]⟩ (Ret (tlook tys) Tryd.f67.results.toList r H') :=
  ret_of' (Link.cast (by kernel_rfl) (by kernel_rfl) (link_group (c := (cq [0,1,1] (bodyOf Tryd.f67))) (a := (aq [0,1,1] Nj)) [(cq [0] (bodyOf Tryd.f67)),(cq [0,1] (bodyOf Tryd.f67))] [(aq [0] Nj),(aq [0,1] Nj)] rfl (link_seq2 (Ni8 b) (fun (t : Unit) => (link_seq (link_block (fin2 := (fun (t : Int × Int) => (Exit.normal,⟨mkE 12 0 [(3,.ptr 0 0)],[some (.box [dL b,dI t.1,dI t.2])]⟩))) (id := 0) (link_loop (mk := fun (s : Int × Int) => ⟨mkE 12 0 [(3,.ptr 0 0)],[some (.box [dL b,dI s.1,dI s.2])]⟩) (fin := (fun (t : Int × Int) => ((Exit.exit 0),⟨mkE 12 0 [(3,.ptr 0 0)],[some (.box [dL b,dI t.1,dI t.2])]⟩))) (by
  rintro t f K h
  · exact h) (fun s => link_map (Njd b s.1 s.2) (Sum.elim (fun (t : Int × Int) => Sum.inl (t.1,t.2)) (fun (t : Int × Int) => Sum.inr t)) (by
  rintro (t | t)
  · kernel_rfl
  · kernel_rfl)) (1,0)) (fun (t : Int × Int) => (t.1,t.2)) (by
  rintro t K h
  · exact Eq.mp (by kernel_rfl) h)) (fun (t : Int × Int) => (Nvx b t.1 t.2)))) (fun (t : Int) => t) (by
  rintro t
  · kernel_rfl) (by
  rintro t f K h
  · exact h)))) (by unfold N3z; kernel_rfl) (by
  intro t
  exact ret_mk [dI t] (by kernel_rfl) (by kernel_rfl) (by kernel_rfl) (by kernel_rfl)) h
def Nbj : Fun := fun avs H =>
  match avs,H with
  | [.dat (.list (.int .i64)) a],[] => ⟨_,N3z a,fun (t : Int) => (dI t,[]),[],none⟩
  | _,_ => Ans.no
theorem Nr3 : Sound Tryd.prog 67 Nbj := by
  refine fn_sound' (C := N4g) (c := bodyOf Tryd.f67) (cok_of tys_ok (allc N2e (allc Nhx alln)) (allc Tryd.call42 (allc Tryd.call58 alln)) (by kernel_rfl)) Tryd.func67 (by kernel_rfl) LL Nj ?_
  intro avs H r H' h
  unfold Nbj at h
  split at h
  · refine Awp.cast ?_ ?_ ?_ (Nk2 _ h) <;> kernel_rfl
  · simp [Ans.no,Ans.run] at h

def Na0 : Ann := (.seq (.leaf [0]) (.seq (.leaf [2]) (.leaf [2])))
noncomputable def Nb7 : Ctx := ⟨tlook tys,olook [],ioF,0,false,[]⟩
theorem Nu3 (a : Int) : Link Nb7 LL (bodyOf Tryd.f73) Na0 ⟨mkE 6 0 [(0,dI a)],[]⟩ (Nc9 a) (fun (t : Int) => (Exit.ret,⟨mkE 6 0 [(2,dW t)],[]⟩)) := .of fun K h => by
  simp only [Nc9,wpW] at h
  exact .of (by kernel_rfl) h
theorem Nog (a : Int) {r : AV} {H' : Heap} (h : (Ans.mk _ (N1p a) (fun (t : Int) => (dW t,[])) [] none).run = some (r,H')) : Awp Nb7 LL (bodyOf Tryd.f73) Na0 ⟨mkE 6 0 [(0,dI a)],[]⟩ (Ret (tlook tys) Tryd.f73.results.toList r H') :=
  ret_of' (Nu3 a) (by unfold N1p; kernel_rfl) (by
  intro t
  exact ret_mk [dW t] (by kernel_rfl) (by kernel_rfl) (by kernel_rfl) (by kernel_rfl)) h
def N6t : Fun := fun avs H =>
  match avs,H with
  | [.dat (.int .i64) a],[] => ⟨_,N1p a,fun (t : Int) => (dW t,[]),[],none⟩
  | _,_ => Ans.no
theorem Nec : Sound Tryd.prog 73 N6t := by
  refine fn_sound' (C := Nb7) (c := bodyOf Tryd.f73) (cok_of tys_ok (alln) (alln) (by kernel_rfl)) Tryd.func73 (by kernel_rfl) LL Na0 ?_
  intro avs H r H' h
  unfold N6t at h
  split at h
  · refine Awp.cast ?_ ?_ ?_ (Nog _ h) <;> kernel_rfl
  · simp [Ans.no,Ans.run] at h

def Nv : Ann := (.seq (.leaf [0,1]) (.seq (.leaf [0,1,5]) (.seq (.seq (.leaf [0,1,5,8,9]) (.block (.loop (.seq (.leaf [0,1,5,8,9,10]) (.seq (.cond (.leaf [0,1,5,8,9]) (.leaf [5])) (.seq (.block (.seq (.leaf [0,1,5,6,8,9]) (.seq (.leaf [0,1,5,6,8,9,17]) (.cond (.leaf [0,1,5,8,9]) (.leaf [0,1,5,8,9]))))) (.leaf [0,1,5,8,9]))))))) (.seq (.leaf [4]) (.leaf [4])))))
noncomputable def N36 : Ctx := ⟨tlook tys,olook [(73,N6t)],ioF,0,false,[]⟩
theorem Nom (a : List Int) (b : Int) : Link N36 LL (Code.seq (cq [0] (bodyOf Tryd.f70)) (cq [0,1] (bodyOf Tryd.f70))) (Ann.seq (aq [0] Nv) (aq [0,1] Nv)) ⟨mkE 25 0 [(0,dL a),(1,dI b)],[]⟩ (N89) (fun (t : Unit) => (Exit.normal,⟨mkE 25 0 [(0,dL a),(1,dI b),(5,dW 0)],[]⟩)) := .of fun K h => by
  simp only [N89,wpW] at h
  exact .of (by kernel_rfl) h
theorem Nrf (a : List Int) (b : Int) : Link N36 LL (cq [0,0,1,1] (bodyOf Tryd.f70)) (aq [0,0,1,1] Nv) ⟨mkE 25 0 [(0,dL a),(1,dI b),(5,dW 0)],[]⟩ (N77 a) (fun (t : Int) => (Exit.normal,⟨mkE 25 0 [(0,dL a),(1,dI b),(5,dW 0),(8,dI t),(9,dI 0)],[]⟩)) := .of fun K h => by
  simp only [N77,wpW] at h
  exact .of (by kernel_rfl) h
theorem Nil (a : List Int) (b c d g : Int) : Link N36 LL (cq [0,0,1,0,1,1] (bodyOf Tryd.f70)) (aq [0,0,1,0,1,1] Nv) ⟨mkE 25 0 [(0,dL a),(1,dI b),(5,dW c),(8,dI d),(9,dI g)],[]⟩ (N2z a b c d g) (Sum.elim (fun (t : Int × Int) => (Exit.normal,⟨mkE 25 0 [(0,dL a),(1,dI b),(5,dW t.1),(8,dI d),(9,dI t.2)],[]⟩)) (fun (t : Int) => ((Exit.exit 0),⟨mkE 25 0 [(5,dW t)],[]⟩))) := .of fun K h => by
  simp only [N2z,wpW] at h
  exact .of (by kernel_rfl) h
theorem Nu1 (a : Int) : Link N36 LL (cq [1,1,1] (bodyOf Tryd.f70)) (aq [1,1,1] Nv) ⟨mkE 25 0 [(5,dW a)],[]⟩ (N9c a) (fun (t : Int) => (Exit.ret,⟨mkE 25 0 [(4,dW t)],[]⟩)) := .of fun K h => by
  simp only [N9c,wpW] at h
  exact .of (by kernel_rfl) h
theorem Nnh (b : List Int) (d : Int) {r : AV} {H' : Heap} (h : (Ans.mk _ (N2j b d) (fun (t : Int) => (dW t,[])) [] none).run = some (r,H')) : Awp N36 LL (bodyOf Tryd.f70) Nv ⟨mkE 25 0 [(0,dL b),(1,dI d)],[]⟩ (Ret (tlook tys) Tryd.f70.results.toList r H') :=
  ret_of' (Link.cast (by kernel_rfl) (by kernel_rfl) (link_group (c := (cq [0,1] (bodyOf Tryd.f70))) (a := (aq [0,1] Nv)) [(cq [0] (bodyOf Tryd.f70))] [(aq [0] Nv)] rfl (link_seq (Nom b d) (fun (t : Unit) => (link_seq (link_seq (Nrf b d) (fun (t : Int) => (link_block (fin2 := (fun (t15 : Int) => (Exit.normal,⟨mkE 25 0 [(5,dW t15)],[]⟩))) (id := 0) (link_loop (mk := fun (s : Int × Int) => ⟨mkE 25 0 [(0,dL b),(1,dI d),(5,dW s.1),(8,dI t),(9,dI s.2)],[]⟩) (fin := (fun (t15 : Int) => ((Exit.exit 0),⟨mkE 25 0 [(5,dW t15)],[]⟩))) (by
  rintro t15 f K h
  · exact h) (fun s => link_map (Nil b d s.1 t s.2) (Sum.elim (fun (t15 : Int × Int) => Sum.inl (t15.1,t15.2)) (fun (t15 : Int) => Sum.inr t15)) (by
  rintro (t15 | t15)
  · kernel_rfl
  · kernel_rfl)) (0,0)) (fun (t15 : Int) => t15) (by
  rintro t15 K h
  · exact Eq.mp (by kernel_rfl) h)))) (fun (t : Int) => (Nu1 t))))))) (by unfold N2j; kernel_rfl) (by
  intro t
  exact ret_mk [dW t] (by kernel_rfl) (by kernel_rfl) (by kernel_rfl) (by kernel_rfl)) h
def Nc6 : Fun := fun avs H =>
  match avs,H with
  | [.dat (.list (.int .i64)) a,.dat (.int .i64) b],[] => ⟨_,N2j a b,fun (t : Int) => (dW t,[]),[],none⟩
  | _,_ => Ans.no
theorem Nw3 : Sound Tryd.prog 70 Nc6 := by
  refine fn_sound' (C := N36) (c := bodyOf Tryd.f70) (cok_of tys_ok (allc Nec alln) (allc Tryd.call73 alln) (by kernel_rfl)) Tryd.func70 (by kernel_rfl) LL Nv ?_
  intro avs H r H' h
  unfold Nc6 at h
  split at h
  · refine Awp.cast ?_ ?_ ?_ (Nnh _ _ h) <;> kernel_rfl
  · simp [Ans.no,Ans.run] at h

def Nah : Ann := (.seq (.leaf [0]) (.seq (.leaf [2]) (.leaf [2])))
noncomputable def Nax : Ctx := ⟨tlook tys,olook [(73,N6t)],ioF,0,false,[]⟩
theorem Nv9 (a : Int) : Link Nax LL (bodyOf Tryd.f71) Nah ⟨mkE 6 0 [(0,dI a)],[]⟩ (N9d a) (fun (t : Int) => (Exit.ret,⟨mkE 6 0 [(2,dW t)],[]⟩)) := .of fun K h => by
  simp only [N9d,wpW] at h
  exact .of (by kernel_rfl) h
theorem Nkp (a : Int) {r : AV} {H' : Heap} (h : (Ans.mk _ (N25 a) (fun (t : Int) => (dW t,[])) [] none).run = some (r,H')) : Awp Nax LL (bodyOf Tryd.f71) Nah ⟨mkE 6 0 [(0,dI a)],[]⟩ (Ret (tlook tys) Tryd.f71.results.toList r H') :=
  ret_of' (Nv9 a) (by unfold N25; kernel_rfl) (by
  intro t
  exact ret_mk [dW t] (by kernel_rfl) (by kernel_rfl) (by kernel_rfl) (by kernel_rfl)) h
def N9l : Fun := fun avs H =>
  match avs,H with
  | [.dat (.int .i64) a],[] => ⟨_,N25 a,fun (t : Int) => (dW t,[]),[],none⟩
  | _,_ => Ans.no
theorem Nox : Sound Tryd.prog 71 N9l := by
  refine fn_sound' (C := Nax) (c := bodyOf Tryd.f71) (cok_of tys_ok (allc Nec alln) (allc Tryd.call73 alln) (by kernel_rfl)) Tryd.func71 (by kernel_rfl) LL Nah ?_
  intro avs H r H' h
  unfold N9l at h
  split at h
  · refine Awp.cast ?_ ?_ ?_ (Nkp _ h) <;> kernel_rfl
  · simp [Ans.no,Ans.run] at h

def Nbo : Ann := (.seq (.leaf [0,1]) (.seq (.leaf [1,6]) (.seq (.leaf [4,5]) (.leaf [4,5]))))
noncomputable def Ncd : Ctx := ⟨tlook tys,olook [(70,Nc6),(71,N9l)],ioF,0,false,[]⟩
theorem Niy (a : List Int) (b : Int) : Link Ncd LL (bodyOf Tryd.f68) Nbo ⟨mkE 18 0 [(0,dL a),(1,dI b)],[]⟩ (N4p a b) (fun (t : Int × Int) => (Exit.ret,⟨mkE 18 0 [(4,dW t.1),(5,dW t.2)],[]⟩)) := .of fun K h => by
  simp only [N4p,wpW] at h
  exact .of (by kernel_rfl) h
theorem Nru (a : List Int) (b : Int) {r : AV} {H' : Heap} (h : (Ans.mk _ (N1k a b) (fun (t : Int × Int) => (.tup [dW t.1,dW t.2],[])) [] none).run = some (r,H')) : Awp Ncd LL (bodyOf Tryd.f68) Nbo ⟨mkE 18 0 [(0,dL a),(1,dI b)],[]⟩ (Ret (tlook tys) Tryd.f68.results.toList r H') :=
  ret_of' (Niy a b) (by unfold N1k; kernel_rfl) (by
  intro t
  exact ret_mk [dW t.1,dW t.2] (by kernel_rfl) (by kernel_rfl) (by kernel_rfl) (by kernel_rfl)) h
def Nbw : Fun := fun avs H =>
  match avs,H with
  | [.dat (.list (.int .i64)) a,.dat (.int .i64) b],[] => ⟨_,N1k a b,fun (t : Int × Int) => (.tup [dW t.1,dW t.2],[]),[],none⟩
  | _,_ => Ans.no
theorem Nve : Sound Tryd.prog 68 Nbw := by
  refine fn_sound' (C := Ncd) (c := bodyOf Tryd.f68) (cok_of tys_ok (allc Nw3 (allc Nox alln)) (allc Tryd.call70 (allc Tryd.call71 alln)) (by kernel_rfl)) Tryd.func68 (by kernel_rfl) LL Nbo ?_
  intro avs H r H' h
  unfold Nbw at h
  split at h
  · refine Awp.cast ?_ ?_ ?_ (Nru _ _ h) <;> kernel_rfl
  · simp [Ans.no,Ans.run] at h

def N7 : Ann := (.seq (.leaf [0]) (.seq (.leaf [0]) (.seq (.leaf [0]) (.seq (.leaf [0]) (.seq (.leaf [0]) (.seq (.leaf [0]) (.seq (.leaf [0]) (.seq (.leaf [2]) (.leaf [2])))))))))
noncomputable def Ni : Ctx := ⟨tlook tys,olook [],ioF,0,false,[]⟩
theorem Nrr (a : Int) : Link Ni LL (Code.seq (cq [0] (bodyOf Tryd.f80)) (cq [0,1] (bodyOf Tryd.f80))) (Ann.seq (aq [0] N7) (aq [0,1] N7)) ⟨mkE 35 0 [(0,dW a)],[]⟩ (Nc5 a) (fun (t : Int) => (Exit.normal,⟨mkE 35 0 [(0,dW t)],[]⟩)) := .of fun K h => by
  simp only [Nc5,wpW] at h
  exact .of (by kernel_rfl) h
theorem Nj3 (a : Int) : Link Ni LL (cq [0,1,1] (bodyOf Tryd.f80)) (aq [0,1,1] N7) ⟨mkE 35 0 [(0,dW a)],[]⟩ (Nbz a) (fun (t : Int) => (Exit.normal,⟨mkE 35 0 [(0,dW t)],[]⟩)) := .of fun K h => by
  simp only [Nbz,wpW] at h
  exact .of (by kernel_rfl) h
theorem Nle (a : Int) : Link Ni LL (cq [0,1,1,1] (bodyOf Tryd.f80)) (aq [0,1,1,1] N7) ⟨mkE 35 0 [(0,dW a)],[]⟩ (Na2 a) (fun (t : Int) => (Exit.normal,⟨mkE 35 0 [(0,dW t)],[]⟩)) := .of fun K h => by
  simp only [Na2,wpW] at h
  exact .of (by kernel_rfl) h
theorem Nr2 (a : Int) : Link Ni LL (cq [0,1,1,1,1] (bodyOf Tryd.f80)) (aq [0,1,1,1,1] N7) ⟨mkE 35 0 [(0,dW a)],[]⟩ (Ndd a) (fun (t : Int) => (Exit.normal,⟨mkE 35 0 [(0,dW t)],[]⟩)) := .of fun K h => by
  simp only [Ndd,wpW] at h
  exact .of (by kernel_rfl) h
theorem Nt5 (a : Int) : Link Ni LL (cq [0,1,1,1,1,1] (bodyOf Tryd.f80)) (aq [0,1,1,1,1,1] N7) ⟨mkE 35 0 [(0,dW a)],[]⟩ (N97 a) (fun (t : Int) => (Exit.normal,⟨mkE 35 0 [(0,dW t)],[]⟩)) := .of fun K h => by
  simp only [N97,wpW] at h
  exact .of (by kernel_rfl) h
theorem Nki (a : Int) : Link Ni LL (cq [0,1,1,1,1,1,1] (bodyOf Tryd.f80)) (aq [0,1,1,1,1,1,1] N7) ⟨mkE 35 0 [(0,dW a)],[]⟩ (Nch a) (fun (t : Int) => (Exit.normal,⟨mkE 35 0 [(0,dW t)],[]⟩)) := .of fun K h => by
  simp only [Nch,wpW] at h
  exact .of (by kernel_rfl) h
theorem Nly (a : Int) : Link Ni LL (cq [0,1,1,1,1,1,1,1] (bodyOf Tryd.f80)) (aq [0,1,1,1,1,1,1,1] N7) ⟨mkE 35 0 [(0,dW a)],[]⟩ (N8x a) (fun (t : Int) => (Exit.normal,⟨mkE 35 0 [(2,dI t)],[]⟩)) := .of fun K h => by
  simp only [N8x,wpW] at h
  exact .of (by kernel_rfl) h
theorem Nlu (a : Int) : Link Ni LL (cq [1,1,1,1,1,1,1,1] (bodyOf Tryd.f80)) (aq [1,1,1,1,1,1,1,1] N7) ⟨mkE 35 0 [(2,dI a)],[]⟩ (N9t a) (fun (t : Int) => (Exit.ret,⟨mkE 35 0 [(2,dI t)],[]⟩)) := .of fun K h => by
  simp only [N9t,wpW] at h
  exact .of (by kernel_rfl) h
theorem Nmc (b : Int) {r : AV} {H' : Heap} (h : (Ans.mk _ (N6d b) (fun (t : Int) => (dI t,[])) [] none).run = some (r,H')) : Awp Ni LL (bodyOf Tryd.f80) N7 ⟨mkE 35 0 [(0,dW b)],[]⟩ (Ret (tlook tys) Tryd.f80.results.toList r H') :=
  ret_of' (Link.cast (by kernel_rfl) (by kernel_rfl) (link_group (c := (cq [0,1] (bodyOf Tryd.f80))) (a := (aq [0,1] N7)) [(cq [0] (bodyOf Tryd.f80))] [(aq [0] N7)] rfl (link_seq (Nrr b) (fun (t : Int) => (link_seq (Nj3 t) (fun (t16 : Int) => (link_seq (Nle t16) (fun (t3 : Int) => (link_seq (Nr2 t3) (fun (t : Int) => (link_seq (Nt5 t) (fun (t2 : Int) => (link_seq (Nki t2) (fun (t : Int) => (link_seq (Nly t) (fun (t1 : Int) => (Nlu t1))))))))))))))))) (by unfold N6d; kernel_rfl) (by
  intro t
  exact ret_mk [dI t] (by kernel_rfl) (by kernel_rfl) (by kernel_rfl) (by kernel_rfl)) h
def Nd9 : Fun := fun avs H =>
  match avs,H with
  | [.dat (.int .u64) a],[] => ⟨_,N6d a,fun (t : Int) => (dI t,[]),[],none⟩
  | _,_ => Ans.no
theorem Nqp : Sound Tryd.prog 80 Nd9 := by
  refine fn_sound' (C := Ni) (c := bodyOf Tryd.f80) (cok_of tys_ok (alln) (alln) (by kernel_rfl)) Tryd.func80 (by kernel_rfl) LL N7 ?_
  intro avs H r H' h
  unfold Nd9 at h
  split at h
  · refine Awp.cast ?_ ?_ ?_ (Nmc _ h) <;> kernel_rfl
  · simp [Ans.no,Ans.run] at h

def Ncf : Ann := (.seq (.leaf [0]) (.seq (.cond (.seq (.leaf [2]) (.leaf [2])) (.leaf [0])) (.seq (.leaf [2]) (.leaf [2]))))
noncomputable def Nd5 : Ctx := ⟨tlook tys,olook [(80,Nd9)],ioF,0,false,[]⟩
theorem Nuw (a : Int) : Link Nd5 LL (bodyOf Tryd.f76) Ncf ⟨mkE 8 0 [(0,dW a)],[]⟩ (N9e a) (fun (t : Int) => (Exit.ret,⟨mkE 8 0 [(2,dI t)],[]⟩)) := .of fun K h => by
  simp only [N9e,wpW] at h
  exact .of (by kernel_rfl) h
theorem Nnm (a : Int) {r : AV} {H' : Heap} (h : (Ans.mk _ (N8e a) (fun (t : Int) => (dI t,[])) [] none).run = some (r,H')) : Awp Nd5 LL (bodyOf Tryd.f76) Ncf ⟨mkE 8 0 [(0,dW a)],[]⟩ (Ret (tlook tys) Tryd.f76.results.toList r H') :=
  ret_of' (Nuw a) (by unfold N8e; kernel_rfl) (by
  intro t
  exact ret_mk [dI t] (by kernel_rfl) (by kernel_rfl) (by kernel_rfl) (by kernel_rfl)) h
def Nc1 : Fun := fun avs H =>
  match avs,H with
  | [.dat (.int .u64) a],[] => ⟨_,N8e a,fun (t : Int) => (dI t,[]),[],none⟩
  | _,_ => Ans.no
theorem Nsc : Sound Tryd.prog 76 Nc1 := by
  refine fn_sound' (C := Nd5) (c := bodyOf Tryd.f76) (cok_of tys_ok (allc Nqp alln) (allc Tryd.call80 alln) (by kernel_rfl)) Tryd.func76 (by kernel_rfl) LL Ncf ?_
  intro avs H r H' h
  unfold Nc1 at h
  split at h
  · refine Awp.cast ?_ ?_ ?_ (Nnm _ h) <;> kernel_rfl
  · simp [Ans.no,Ans.run] at h

def Ncx : Ann := (.seq (.leaf [0]) (.seq (.leaf [2]) (.leaf [2])))
noncomputable def Ncu : Ctx := ⟨tlook tys,olook [(76,Nc1)],ioF,0,false,[]⟩
theorem Nqd (a : Int) : Link Ncu LL (bodyOf Tryd.f74) Ncx ⟨mkE 5 0 [(0,dW a)],[]⟩ (Nam a) (fun (t : Int) => (Exit.ret,⟨mkE 5 0 [(2,dI t)],[]⟩)) := .of fun K h => by
  simp only [Nam,wpW] at h
  exact .of (by kernel_rfl) h
theorem Noy (a : Int) {r : AV} {H' : Heap} (h : (Ans.mk _ (N7g a) (fun (t : Int) => (dI t,[])) [] none).run = some (r,H')) : Awp Ncu LL (bodyOf Tryd.f74) Ncx ⟨mkE 5 0 [(0,dW a)],[]⟩ (Ret (tlook tys) Tryd.f74.results.toList r H') :=
  ret_of' (Nqd a) (by unfold N7g; kernel_rfl) (by
  intro t
  exact ret_mk [dI t] (by kernel_rfl) (by kernel_rfl) (by kernel_rfl) (by kernel_rfl)) h
def N9i : Fun := fun avs H =>
  match avs,H with
  | [.dat (.int .u64) a],[] => ⟨_,N7g a,fun (t : Int) => (dI t,[]),[],none⟩
  | _,_ => Ans.no
theorem Nm7 : Sound Tryd.prog 74 N9i := by
  refine fn_sound' (C := Ncu) (c := bodyOf Tryd.f74) (cok_of tys_ok (allc Nsc alln) (allc Tryd.call76 alln) (by kernel_rfl)) Tryd.func74 (by kernel_rfl) LL Ncx ?_
  intro avs H r H' h
  unfold N9i at h
  split at h
  · refine Awp.cast ?_ ?_ ?_ (Noy _ h) <;> kernel_rfl
  · simp [Ans.no,Ans.run] at h

def N9g : Ann := (.seq (.leaf [0]) (.seq (.seq (.leaf [0,4]) (.cond (.seq (.leaf [2]) (.leaf [2])) (.leaf [0]))) (.seq (.leaf [2]) (.leaf [2]))))
noncomputable def N9m : Ctx := ⟨tlook tys,olook [],ioF,0,false,[]⟩
theorem Njk (a : Int) : Link N9m LL (bodyOf Tryd.f78) N9g ⟨mkE 14 0 [(0,dW a)],[]⟩ (N8u a) (fun (t : Int) => (Exit.ret,⟨mkE 14 0 [(2,dI t)],[]⟩)) := .of fun K h => by
  simp only [N8u,wpW] at h
  exact .of (by kernel_rfl) h
theorem Nkd (a : Int) {r : AV} {H' : Heap} (h : (Ans.mk _ (N8q a) (fun (t : Int) => (dI t,[])) [] none).run = some (r,H')) : Awp N9m LL (bodyOf Tryd.f78) N9g ⟨mkE 14 0 [(0,dW a)],[]⟩ (Ret (tlook tys) Tryd.f78.results.toList r H') :=
  ret_of' (Njk a) (by unfold N8q; kernel_rfl) (by
  intro t
  exact ret_mk [dI t] (by kernel_rfl) (by kernel_rfl) (by kernel_rfl) (by kernel_rfl)) h
def Nar : Fun := fun avs H =>
  match avs,H with
  | [.dat (.int .u64) a],[] => ⟨_,N8q a,fun (t : Int) => (dI t,[]),[],none⟩
  | _,_ => Ans.no
theorem Nl4 : Sound Tryd.prog 78 Nar := by
  refine fn_sound' (C := N9m) (c := bodyOf Tryd.f78) (cok_of tys_ok (alln) (alln) (by kernel_rfl)) Tryd.func78 (by kernel_rfl) LL N9g ?_
  intro avs H r H' h
  unfold Nar at h
  split at h
  · refine Awp.cast ?_ ?_ ?_ (Nkd _ h) <;> kernel_rfl
  · simp [Ans.no,Ans.run] at h

def Nbi : Ann := (.seq (.leaf [0]) (.seq (.cond (.seq (.leaf [2]) (.leaf [2])) (.leaf [0])) (.seq (.leaf [2]) (.leaf [2]))))
noncomputable def Nau : Ctx := ⟨tlook tys,olook [(78,Nar)],ioF,0,false,[]⟩
theorem Njs (a : Int) : Link Nau LL (bodyOf Tryd.f75) Nbi ⟨mkE 8 0 [(0,dW a)],[]⟩ (Nas a) (fun (t : Int) => (Exit.ret,⟨mkE 8 0 [(2,dI t)],[]⟩)) := .of fun K h => by
  simp only [Nas,wpW] at h
  exact .of (by kernel_rfl) h
theorem Nks (a : Int) {r : AV} {H' : Heap} (h : (Ans.mk _ (N7t a) (fun (t : Int) => (dI t,[])) [] none).run = some (r,H')) : Awp Nau LL (bodyOf Tryd.f75) Nbi ⟨mkE 8 0 [(0,dW a)],[]⟩ (Ret (tlook tys) Tryd.f75.results.toList r H') :=
  ret_of' (Njs a) (by unfold N7t; kernel_rfl) (by
  intro t
  exact ret_mk [dI t] (by kernel_rfl) (by kernel_rfl) (by kernel_rfl) (by kernel_rfl)) h
def Nc7 : Fun := fun avs H =>
  match avs,H with
  | [.dat (.int .u64) a],[] => ⟨_,N7t a,fun (t : Int) => (dI t,[]),[],none⟩
  | _,_ => Ans.no
theorem Nqu : Sound Tryd.prog 75 Nc7 := by
  refine fn_sound' (C := Nau) (c := bodyOf Tryd.f75) (cok_of tys_ok (allc Nl4 alln) (allc Tryd.call78 alln) (by kernel_rfl)) Tryd.func75 (by kernel_rfl) LL Nbi ?_
  intro avs H r H' h
  unfold Nc7 at h
  split at h
  · refine Awp.cast ?_ ?_ ?_ (Nks _ h) <;> kernel_rfl
  · simp [Ans.no,Ans.run] at h

def Nt : Ann := (.seq (.leaf [0]) (.seq (.leaf [0,3]) (.seq (.seq (.leaf [3,4]) (.block (.loop (.seq (.seq (.leaf [3,4,10]) (.cond (.leaf [3,4]) (.leaf [3]))) (.seq (.block (.leaf [3,4])) (.leaf [3,4])))))) (.seq (.leaf [2]) (.leaf [2])))))
noncomputable def N3n : Ctx := ⟨tlook tys,olook [(74,N9i),(75,Nc7)],ioF,0,false,[]⟩
theorem Nss (a : Int) : Link N3n LL (Code.seq (cq [0] (bodyOf Tryd.f72)) (cq [0,1] (bodyOf Tryd.f72))) (Ann.seq (aq [0] Nt) (aq [0,1] Nt)) ⟨mkE 22 0 [(0,dW a)],[]⟩ (N8y a) (fun (t : (List Int)) => (Exit.normal,⟨mkE 22 0 [(0,dW a),(3,.slc 0)],[some (sI t)]⟩)) := .of fun K h => by
  simp only [N8y,wpW] at h
  exact .of (by kernel_rfl) h
theorem Nvh (a : Int) (b : List Int) : Link N3n LL (cq [0,0,1,1] (bodyOf Tryd.f72)) (aq [0,0,1,1] Nt) ⟨mkE 22 0 [(0,dW a),(3,.slc 0)],[some (sI b)]⟩ (N9n) (fun (t : Unit) => (Exit.normal,⟨mkE 22 0 [(3,.slc 0),(4,dW a)],[some (sI b)]⟩)) := .of fun K h => by
  simp only [N9n,wpW] at h
  exact .of (by kernel_rfl) h
theorem Nsw (a : Int) (b : List Int) : Link N3n LL (cq [0,0,1,0,1,1] (bodyOf Tryd.f72)) (aq [0,0,1,0,1,1] Nt) ⟨mkE 22 0 [(3,.slc 0),(4,dW a)],[some (sI b)]⟩ (Nd6 a b) (Sum.elim (fun (t : Int × (List Int)) => (Exit.normal,⟨mkE 22 0 [(3,.slc 0),(4,dW t.1)],[some (sI t.2)]⟩)) (fun (t : (List Int)) => ((Exit.exit 0),⟨mkE 22 0 [(3,.slc 0)],[some (sI t)]⟩))) := .of fun K h => by
  simp only [Nd6,wpW] at h
  exact .of (by kernel_rfl) h
theorem Nk0 (a : List Int) : Link N3n LL (cq [1,1,1] (bodyOf Tryd.f72)) (aq [1,1,1] Nt) ⟨mkE 22 0 [(3,.slc 0)],[some (sI a)]⟩ (Na4 a) (fun (t : (List Int)) => (Exit.ret,⟨mkE 22 0 [(2,.slc 0)],[some (sI t)]⟩)) := .of fun K h => by
  simp only [Na4,wpW] at h
  exact .of (by kernel_rfl) h
theorem Nnt (b : Int) {r : AV} {H' : Heap} (h : (Ans.mk _ (N32 b) (fun (t : (List Int)) => (.slc 0,[some (sI t)])) [] none).run = some (r,H')) : Awp N3n LL (bodyOf Tryd.f72) Nt ⟨mkE 22 0 [(0,dW b)],[]⟩ (Ret (tlook tys) Tryd.f72.results.toList r H') :=
  ret_of' (Link.cast (by kernel_rfl) (by kernel_rfl) (link_group (c := (cq [0,1] (bodyOf Tryd.f72))) (a := (aq [0,1] Nt)) [(cq [0] (bodyOf Tryd.f72))] [(aq [0] Nt)] rfl (link_seq (Nss b) (fun (t : (List Int)) => (link_seq (link_seq (Nvh b t) (fun (t34 : Unit) => (link_block (fin2 := (fun (t34 : (List Int)) => (Exit.normal,⟨mkE 22 0 [(3,.slc 0)],[some (sI t34)]⟩))) (id := 0) (link_loop (mk := fun (s : Int × (List Int)) => ⟨mkE 22 0 [(3,.slc 0),(4,dW s.1)],[some (sI s.2)]⟩) (fin := (fun (t34 : (List Int)) => ((Exit.exit 0),⟨mkE 22 0 [(3,.slc 0)],[some (sI t34)]⟩))) (by
  rintro t34 f K h
  · exact h) (fun s => link_map (Nsw s.1 s.2) (Sum.elim (fun (t34 : Int × (List Int)) => Sum.inl (t34.1,t34.2)) (fun (t34 : (List Int)) => Sum.inr t34)) (by
  rintro (t34 | t34)
  · kernel_rfl
  · kernel_rfl)) (b,t)) (fun (t34 : (List Int)) => t34) (by
  rintro t34 K h
  · exact Eq.mp (by kernel_rfl) h)))) (fun (t34 : (List Int)) => (Nk0 t34))))))) (by unfold N32; kernel_rfl) (by
  intro t
  exact ret_mk [.slc 0] (by kernel_rfl) (by kernel_rfl) (by kernel_rfl) (by kernel_rfl)) h
def Nbp : Fun := fun avs H =>
  match avs,H with
  | [.dat (.int .u64) a],[] => ⟨_,N32 a,fun (t : (List Int)) => (.slc 0,[some (sI t)]),[],none⟩
  | _,_ => Ans.no
theorem Nu0 : Sound Tryd.prog 72 Nbp := by
  refine fn_sound' (C := N3n) (c := bodyOf Tryd.f72) (cok_of tys_ok (allc Nm7 (allc Nqu alln)) (allc Tryd.call74 (allc Tryd.call75 alln)) (by kernel_rfl)) Tryd.func72 (by kernel_rfl) LL Nt ?_
  intro avs H r H' h
  unfold Nbp at h
  split at h
  · refine Awp.cast ?_ ?_ ?_ (Nnt _ h) <;> kernel_rfl
  · simp [Ans.no,Ans.run] at h

def Nb8 : Ann := (.seq (.leaf [0,1,2]) (.seq (.leaf [0,1,2,7,8]) (.seq (.leaf [0,1,8]) (.seq (.leaf [6]) (.leaf [6])))))
def N49 : Ann := (.seq (.leaf [0,1,2]) (.seq (.seq (.leaf [0,1,10,11,12]) (.block (.loop (.seq (.leaf [0,1,10,11,12,13]) (.seq (.cond (.leaf [0,1,10,11,12]) (.leaf [0])) (.seq (.block (.seq (.leaf [0,1,8,10,11,12]) (.leaf [0,1,10,11,12]))) (.leaf [0,1,10,11,12]))))))) (.seq (.leaf [6]) (.leaf [6]))))
def Nl (n : Nat) : Fun := fun avs H =>
  match avs,H with
  | [.slc 0,.dat (.list (.int .i64)) a,.dat (.int .i64) b],[some (.seq (.int .i64) c)] => ⟨_,Nb n a b c,fun (t : (List Int)) => (.slc 0,[some (sI t)]),[0],none⟩
  | _,_ => Ans.no
def Nk (n : Nat) : Fun := fun avs H =>
  match avs,H with
  | [.slc 0,.dat (.list (.int .i64)) a,.dat (.int .u64) b],[some (.seq (.int .i64) c)] => ⟨_,Np n a b c,fun (t : (List Int)) => (.slc 0,[some (sI t)]),[0],none⟩
  | _,_ => Ans.no
noncomputable def N9v (n : Nat) : Ctx := ⟨tlook tys,olook [(68,Nbw),(69,Nk n)],ioF,1,false,[0]⟩
noncomputable def N2s (n : Nat) : Ctx := ⟨tlook tys,olook [(72,Nbp),(66,Nl n)],ioF,1,false,[0]⟩
theorem Npo (n : Nat) (a : List Int) (b : Int) (c : List Int) : Link (N9v n) LL (bodyOf Tryd.f66) Nb8 ⟨mkE 26 0 [(0,.slc 0),(1,dL a),(2,dI b)],[some (sI c)]⟩ (N4x (Nb n) (Np n) a b c) (fun (t : (List Int)) => (Exit.ret,⟨mkE 26 0 [(6,.slc 0)],[some (sI t)]⟩)) := .of fun K h => by
  simp only [N4x,wpW] at h
  exact .of (by kernel_rfl) h
theorem Nkh (n : Nat) (a : List Int) (b : Int) (c : List Int) {r : AV} {H' : Heap} (h : (Ans.mk _ (Nb (n + 1) a b c) (fun (t : (List Int)) => (.slc 0,[some (sI t)])) [0] none).run = some (r,H')) : Awp (N9v n) LL (bodyOf Tryd.f66) Nb8 ⟨mkE 26 0 [(0,.slc 0),(1,dL a),(2,dI b)],[some (sI c)]⟩ (Ret (tlook tys) Tryd.f66.results.toList r H') :=
  ret_of' (Npo n a b c) (by (show _ = _); kernel_rfl) (by
  intro t
  exact ret_mk [.slc 0] (by kernel_rfl) (by kernel_rfl) (by kernel_rfl) (by kernel_rfl)) h
theorem Nue (n : Nat) (a : List Int) (b : Int) (c : List Int) : Link (N2s n) LL (cq [0] (bodyOf Tryd.f69)) (aq [0] N49) ⟨mkE 22 0 [(0,.slc 0),(1,dL a),(2,dW b)],[some (sI c)]⟩ (N7i (Nb n) (Np n)) (fun (t : Unit) => (Exit.normal,⟨mkE 22 0 [(0,.slc 0),(1,dL a),(2,dW b)],[some (sI c)]⟩)) := .of fun K h => by
  simp only [N7i,wpW] at h
  exact .of (by kernel_rfl) h
theorem Ntj (n : Nat) (a : List Int) (b : Int) (c : List Int) : Link (N2s n) LL (cq [0,0,1] (bodyOf Tryd.f69)) (aq [0,0,1] N49) ⟨mkE 22 0 [(0,.slc 0),(1,dL a),(2,dW b)],[some (sI c)]⟩ (N5f (Nb n) (Np n) b) (fun (t : Int × (List Int)) => (Exit.normal,⟨mkE 22 0 [(0,.slc 0),(1,dL a),(10,.slc 1),(11,dI t.1),(12,dI 0)],[some (sI c),some (sI t.2)]⟩)) := .of fun K h => by
  simp only [N5f,wpW] at h
  exact .of (by kernel_rfl) h
theorem Nvo (n : Nat) (a : List Int) (b c : Int) (d g : List Int) : Link (N2s n) LL (cq [0,0,1,0,1] (bodyOf Tryd.f69)) (aq [0,0,1,0,1] N49) ⟨mkE 22 0 [(0,.slc 0),(1,dL a),(10,.slc 1),(11,dI b),(12,dI c)],[some (sI d),some (sI g)]⟩ (N40 (Nb n) (Np n) a b c d g) (Sum.elim (fun (t : Int × (List Int)) => (Exit.normal,⟨mkE 22 0 [(0,.slc 0),(1,dL a),(10,.slc 1),(11,dI b),(12,dI t.1)],[some (sI t.2),some (sI g)]⟩)) (fun (t : (List Int)) => ((Exit.exit 0),⟨mkE 22 0 [(0,.slc 0)],[some (sI t)]⟩))) := .of fun K h => by
  simp only [N40,wpW] at h
  exact .of (by kernel_rfl) h
theorem Nii (n : Nat) (a : List Int) : Link (N2s n) LL (cq [1,1] (bodyOf Tryd.f69)) (aq [1,1] N49) ⟨mkE 22 0 [(0,.slc 0)],[some (sI a)]⟩ (N69 (Nb n) (Np n) a) (fun (t : (List Int)) => (Exit.ret,⟨mkE 22 0 [(6,.slc 0)],[some (sI t)]⟩)) := .of fun K h => by
  simp only [N69,wpW] at h
  exact .of (by kernel_rfl) h
theorem Nk1 (n : Nat) (a : List Int) (b : Int) (c : List Int) {r : AV} {H' : Heap} (h : (Ans.mk _ (Np (n + 1) a b c) (fun (t : (List Int)) => (.slc 0,[some (sI t)])) [0] none).run = some (r,H')) : Awp (N2s n) LL (bodyOf Tryd.f69) N49 ⟨mkE 22 0 [(0,.slc 0),(1,dL a),(2,dW b)],[some (sI c)]⟩ (Ret (tlook tys) Tryd.f69.results.toList r H') :=
  ret_of' (Link.cast (by kernel_rfl) (by kernel_rfl) (link_seq (Nue n a b c) (fun (t : Unit) => (link_seq (link_seq (Ntj n a b c) (fun (t : Int × (List Int)) => (link_block (fin2 := (fun (t17 : (List Int)) => (Exit.normal,⟨mkE 22 0 [(0,.slc 0)],[some (sI t17)]⟩))) (id := 0) (link_loop (mk := fun (s : Int × (List Int)) => ⟨mkE 22 0 [(0,.slc 0),(1,dL a),(10,.slc 1),(11,dI t.1),(12,dI s.1)],[some (sI s.2),some (sI t.2)]⟩) (fin := (fun (t17 : (List Int)) => ((Exit.exit 0),⟨mkE 22 0 [(0,.slc 0)],[some (sI t17)]⟩))) (by
  rintro t17 f K h
  · exact h) (fun s => link_map (Nvo n a t.1 s.1 s.2 t.2) (Sum.elim (fun (t17 : Int × (List Int)) => Sum.inl (t17.1,t17.2)) (fun (t17 : (List Int)) => Sum.inr t17)) (by
  rintro (t17 | t17)
  · kernel_rfl
  · kernel_rfl)) (0,c)) (fun (t17 : (List Int)) => t17) (by
  rintro t17 K h
  · exact Eq.mp (by kernel_rfl) h)))) (fun (t : (List Int)) => (Nii n t)))))) (by (show _ = _); kernel_rfl) (by
  intro t
  exact ret_mk [.slc 0] (by kernel_rfl) (by kernel_rfl) (by kernel_rfl) (by kernel_rfl)) h
theorem Nuj (n : Nat) (h66 : Sound Tryd.prog 66 (Nl n)) (h69 : Sound Tryd.prog 69 (Nk n)) : Sound Tryd.prog 66 (Nl (n + 1)) := by
  refine fn_sound' (C := N9v n) (c := bodyOf Tryd.f66) (cok_of tys_ok (allc Nve (allc h69 alln)) (allc Tryd.call68 (allc Tryd.call69 alln)) (by kernel_rfl)) Tryd.func66 (by kernel_rfl) LL Nb8 ?_
  intro avs H r H' h
  unfold Nl at h
  split at h
  · refine Awp.cast ?_ ?_ ?_ (Nkh n _ _ _ h) <;> kernel_rfl
  · simp [Ans.no,Ans.run] at h
theorem Nrm : Sound Tryd.prog 66 (Nl 0) := by
  intro avs H r H' h
  unfold Nl at h
  split at h
  · simp [Nb,N1,Ans.run] at h
  · simp [Ans.no,Ans.run] at h
theorem Np6 (n : Nat) (h66 : Sound Tryd.prog 66 (Nl n)) (h69 : Sound Tryd.prog 69 (Nk n)) : Sound Tryd.prog 69 (Nk (n + 1)) := by
  refine fn_sound' (C := N2s n) (c := bodyOf Tryd.f69) (cok_of tys_ok (allc Nu0 (allc h66 alln)) (allc Tryd.call72 (allc Tryd.call66 alln)) (by kernel_rfl)) Tryd.func69 (by kernel_rfl) LL N49 ?_
  intro avs H r H' h
  unfold Nk at h
  split at h
  · refine Awp.cast ?_ ?_ ?_ (Nk1 n _ _ _ h) <;> kernel_rfl
  · simp [Ans.no,Ans.run] at h
theorem Nkx : Sound Tryd.prog 69 (Nk 0) := by
  intro avs H r H' h
  unfold Nk at h
  split at h
  · simp [Np,N1,Ans.run] at h
  · simp [Ans.no,Ans.run] at h
theorem Na9 : ∀ n,Sound Tryd.prog 66 (Nl n) ∧ Sound Tryd.prog 69 (Nk n)
  | 0 => ⟨Nrm,Nkx⟩
  | n + 1 => by
    obtain ⟨h66,h69⟩ := Na9 n
    exact ⟨Nuj n h66 h69,Np6 n h66 h69⟩
def N6a : Fun := fun avs H =>
  match avs,H with
  | [.slc 0,.dat (.list (.int .i64)) a,.dat (.int .i64) b],[some (.seq (.int .i64) c)] => ⟨_,N4l a b c,fun (t : (List Int)) => (.slc 0,[some (sI t)]),[0],none⟩
  | _,_ => Ans.no
theorem Nim : Sound Tryd.prog 66 N6a := by
  have e : N6a = Nl RR := by
    funext avs H
    unfold N6a Nl
    split <;> first | rfl | (simp only [N4l])
  rw [e]
  exact (Na9 RR).1
def Nc2 : Fun := fun avs H =>
  match avs,H with
  | [.slc 0,.dat (.list (.int .i64)) a,.dat (.int .u64) b],[some (.seq (.int .i64) c)] => ⟨_,Ne1 a b c,fun (t : (List Int)) => (.slc 0,[some (sI t)]),[0],none⟩
  | _,_ => Ans.no
theorem Nwc : Sound Tryd.prog 69 Nc2 := by
  have e : Nc2 = Nk RR := by
    funext avs H
    unfold Nc2 Nk
    split <;> first | rfl | (simp only [Ne1])
  rw [e]
  exact (Na9 RR).2

def N9p : Ann := (.seq (.leaf [0]) (.seq (.seq (.leaf [0,5]) (.cond (.seq (.leaf [2]) (.leaf [2])) (.leaf [0]))) (.seq (.draw [5,100006] [0,1,3,4,5,2,6,7] [] [2]) (.leaf [2]))))
noncomputable def Nb4 : Ctx := ⟨tlook tys,olook [(42,N14),(67,Nbj),(66,N6a)],ioF,0,false,[]⟩
theorem Nl2 (a : List Int) : Link Nb4 LL (bodyOf Tryd.f61) N9p ⟨mkE 13 0 [(0,dL a)],[]⟩ (N4h a) (fun (t : (List Int)) => (Exit.ret,⟨mkE 13 0 [(2,.slc 0)],[some (sI t)]⟩)) := .of fun K h => by
  simp only [N4h,wpW] at h
  exact .of (by kernel_rfl) h
theorem Nsd (a : List Int) {r : AV} {H' : Heap} (h : (Ans.mk _ (N1x a) (fun (t : (List Int)) => (.slc 0,[some (sI t)])) [] none).run = some (r,H')) : Awp Nb4 LL (bodyOf Tryd.f61) N9p ⟨mkE 13 0 [(0,dL a)],[]⟩ (Ret (tlook tys) Tryd.f61.results.toList r H') :=
  ret_of' (Nl2 a) (by unfold N1x; kernel_rfl) (by
  intro t
  exact ret_mk [.slc 0] (by kernel_rfl) (by kernel_rfl) (by kernel_rfl) (by kernel_rfl)) h
def Ncv : Fun := fun avs H =>
  match avs,H with
  | [.dat (.list (.int .i64)) a],[] => ⟨_,N1x a,fun (t : (List Int)) => (.slc 0,[some (sI t)]),[],none⟩
  | _,_ => Ans.no
theorem Nn6 : Sound Tryd.prog 61 Ncv := by
  refine fn_sound' (C := Nb4) (c := bodyOf Tryd.f61) (cok_of tys_ok (allc N2e (allc Nr3 (allc Nim alln))) (allc Tryd.call42 (allc Tryd.call67 (allc Tryd.call66 alln))) (by kernel_rfl)) Tryd.func61 (by kernel_rfl) LL N9p ?_
  intro avs H r H' h
  unfold Ncv at h
  split at h
  · refine Awp.cast ?_ ?_ ?_ (Nsd _ h) <;> kernel_rfl
  · simp [Ans.no,Ans.run] at h

def N9h : Ann := (.seq (.leaf [0]) (.seq (.leaf [3]) (.seq (.leaf [2]) (.leaf [2]))))
noncomputable def Naa : Ctx := ⟨tlook tys,olook [(61,Ncv),(59,N5c)],ioF,0,false,[]⟩
theorem Nra (a : List Int) : Link Naa LL (bodyOf Tryd.f54) N9h ⟨mkE 13 0 [(0,dL a)],[]⟩ (N4d a) (fun (t : (List Int)) => (Exit.ret,⟨mkE 13 0 [(2,.slc 0)],[some (sI t)]⟩)) := .of fun K h => by
  simp only [N4d,wpW] at h
  exact .of (by kernel_rfl) h
theorem Nv4 (a : List Int) {r : AV} {H' : Heap} (h : (Ans.mk _ (N24 a) (fun (t : (List Int)) => (.slc 0,[some (sI t)])) [] none).run = some (r,H')) : Awp Naa LL (bodyOf Tryd.f54) N9h ⟨mkE 13 0 [(0,dL a)],[]⟩ (Ret (tlook tys) Tryd.f54.results.toList r H') :=
  ret_of' (Nra a) (by unfold N24; kernel_rfl) (by
  intro t
  exact ret_mk [.slc 0] (by kernel_rfl) (by kernel_rfl) (by kernel_rfl) (by kernel_rfl)) h
def Naf : Fun := fun avs H =>
  match avs,H with
  | [.dat (.list (.int .i64)) a],[] => ⟨_,N24 a,fun (t : (List Int)) => (.slc 0,[some (sI t)]),[],none⟩
  | _,_ => Ans.no
theorem Nl1 : Sound Tryd.prog 54 Naf := by
  refine fn_sound' (C := Naa) (c := bodyOf Tryd.f54) (cok_of tys_ok (allc Nn6 (allc Nf8 alln)) (allc Tryd.call61 (allc Tryd.call59 alln)) (by kernel_rfl)) Tryd.func54 (by kernel_rfl) LL N9h ?_
  intro avs H r H' h
  unfold Naf at h
  split at h
  · refine Awp.cast ?_ ?_ ?_ (Nv4 _ h) <;> kernel_rfl
  · simp [Ans.no,Ans.run] at h

def Nb6 : Ann := (.seq (.leaf [0,3]) (.seq (.seq (.leaf [0,3,7]) (.block (.seq (.leaf [0,3,7,8]) (.cond (.seq (.seq (.leaf [0,3,14]) (.cond (.seq (.leaf [4]) (.leaf [4])) (.leaf [0,3]))) (.seq (.leaf [3,5]) (.seq (.leaf [5]) (.seq (.leaf [4]) (.leaf [4]))))) (.seq (.leaf [0,3,7,25]) (.cond (.seq (.draw [1,4] [0,2,3,4,1,5,6] [] [4]) (.leaf [4])) (.seq (.leaf [0,7,33]) (.cond (.seq (.leaf [4]) (.leaf [4])) (.seq (.leaf [0,7,41]) (.cond (.seq (.leaf [4]) (.leaf [4])) (.seq (.leaf [0,45]) (.cond (.seq (.leaf [4]) (.leaf [4])) (.leaf []))))))))))))) (.seq (.leaf [4]) (.leaf [4]))))
noncomputable def Nbk : Ctx := ⟨tlook tys,olook [(52,N9o),(44,Naj),(53,Nay),(54,Naf)],ioF,0,false,[]⟩
theorem Npx (a : List Int) (b c d : Int) : Link Nbk LL (bodyOf Tryd.f45) Nb6 ⟨mkE 49 0 [(0,dL a),(1,.agg [dI b,dI c,dI d])],[]⟩ (N57 a b c d) (fun (t : (List Int)) => (Exit.ret,⟨mkE 49 0 [(4,.slc 0)],[some (sI t)]⟩)) := .of fun K h => by
  simp only [N57,wpW] at h
  exact .of (by kernel_rfl) h
theorem Nmv (a : List Int) (b c d : Int) {r : AV} {H' : Heap} (h : (Ans.mk _ (N2d a b c d) (fun (t : (List Int)) => (.slc 0,[some (sI t)])) [] none).run = some (r,H')) : Awp Nbk LL (bodyOf Tryd.f45) Nb6 ⟨mkE 49 0 [(0,dL a),(1,.agg [dI b,dI c,dI d])],[]⟩ (Ret (tlook tys) Tryd.f45.results.toList r H') :=
  ret_of' (Npx a b c d) (by unfold N2d; kernel_rfl) (by
  intro t
  exact ret_mk [.slc 0] (by kernel_rfl) (by kernel_rfl) (by kernel_rfl) (by kernel_rfl)) h
def Nbq : Fun := fun avs H =>
  match avs,H with
  | [.dat (.list (.int .i64)) a,.agg [.dat (.int .i64) b,.dat (.int .i64) c,.dat (.int .i64) d]],[] => ⟨_,N2d a b c d,fun (t : (List Int)) => (.slc 0,[some (sI t)]),[],none⟩
  | _,_ => Ans.no
theorem Nsk : Sound Tryd.prog 45 Nbq := by
  refine fn_sound' (C := Nbk) (c := bodyOf Tryd.f45) (cok_of tys_ok (allc Nv8 (allc Nf9 (allc Noi (allc Nl1 alln)))) (allc Tryd.call52 (allc Tryd.call44 (allc Tryd.call53 (allc Tryd.call54 alln)))) (by kernel_rfl)) Tryd.func45 (by kernel_rfl) LL Nb6 ?_
  intro avs H r H' h
  unfold Nbq at h
  split at h
  · refine Awp.cast ?_ ?_ ?_ (Nmv _ _ _ _ h) <;> kernel_rfl
  · simp [Ans.no,Ans.run] at h

def N13 : Ann := (.seq (.leaf [0,1]) (.seq (.seq (.leaf [0,1,10]) (.cond (.seq (.leaf [4]) (.leaf [4])) (.leaf [0,1]))) (.seq (.seq (.leaf [0,1,12,13]) (.block (.loop (.seq (.leaf [0,1,12,13,14]) (.seq (.cond (.leaf [0,1,12,13]) (.leaf [])) (.seq (.block (.seq (.leaf [0,1,5,12,13]) (.seq (.draw [] [0,1,2,3,4,5,6,7,8] [] [0,1,12,13,24]) (.cond (.seq (.leaf [4]) (.leaf [4])) (.leaf [0,1,12,13]))))) (.leaf [0,1,12,13]))))))) (.seq (.leaf [4]) (.leaf [4])))))
noncomputable def N3i : Ctx := ⟨tlook tys,olook [],ioF,0,false,[]⟩
theorem Nnv (a b : List Int) : Link N3i LL (Code.seq (cq [0] (bodyOf Tryd.f46)) (cq [0,1] (bodyOf Tryd.f46))) (Ann.seq (aq [0] N13) (aq [0,1] N13)) ⟨mkE 26 0 [(0,dL a),(1,dL b)],[]⟩ (N65 a b) (Sum.elim (fun (t : Unit) => (Exit.normal,⟨mkE 26 0 [(0,dL a),(1,dL b)],[]⟩)) (fun (t : Bool) => (Exit.ret,⟨mkE 26 0 [(4,dB t)],[]⟩))) := .of fun K h => by
  simp only [N65,wpW] at h
  exact .of (by kernel_rfl) h
theorem Ntd (a b : List Int) : Link N3i LL (cq [0,0,1,1] (bodyOf Tryd.f46)) (aq [0,0,1,1] N13) ⟨mkE 26 0 [(0,dL a),(1,dL b)],[]⟩ (N88 a) (fun (t : Int) => (Exit.normal,⟨mkE 26 0 [(0,dL a),(1,dL b),(12,dI t),(13,dI 0)],[]⟩)) := .of fun K h => by
  simp only [N88,wpW] at h
  exact .of (by kernel_rfl) h
theorem Njq (a b : List Int) (c d : Int) : Link N3i LL (cq [0,0,1,0,1,1] (bodyOf Tryd.f46)) (aq [0,0,1,0,1,1] N13) ⟨mkE 26 0 [(0,dL a),(1,dL b),(12,dI c),(13,dI d)],[]⟩ (N23 a b c d) (Sum.elim (fun (t : Int) => (Exit.normal,⟨mkE 26 0 [(0,dL a),(1,dL b),(12,dI c),(13,dI t)],[]⟩)) (Sum.elim (fun (t : Bool) => (Exit.ret,⟨mkE 26 0 [(4,dB t)],[]⟩)) (fun (t : Unit) => ((Exit.exit 0),⟨mkE 26 0 [],[]⟩)))) := .of fun K h => by
  simp only [N23,wpW] at h
  exact .of (by kernel_rfl) h
theorem Np7 : Link N3i LL (cq [1,1,1] (bodyOf Tryd.f46)) (aq [1,1,1] N13) ⟨mkE 26 0 [],[]⟩ (Nbd) (fun (t : Bool) => (Exit.ret,⟨mkE 26 0 [(4,dB t)],[]⟩)) := .of fun K h => by
  simp only [Nbd,wpW] at h
  exact .of (by kernel_rfl) h
theorem Nvk (b d : List Int) {r : AV} {H' : Heap} (h : (Ans.mk _ (N28 b d) (fun (t : Bool) => (dB t,[])) [] none).run = some (r,H')) : Awp N3i LL (bodyOf Tryd.f46) N13 ⟨mkE 26 0 [(0,dL b),(1,dL d)],[]⟩ (Ret (tlook tys) Tryd.f46.results.toList r H') :=
  ret_of' (Link.cast (by kernel_rfl) (by kernel_rfl) (link_group (c := (cq [0,1] (bodyOf Tryd.f46))) (a := (aq [0,1] N13)) [(cq [0] (bodyOf Tryd.f46))] [(aq [0] N13)] rfl (link_seq2 (Nnv b d) (fun (t : Unit) => (link_seq2 (link_seq (Ntd b d) (fun (t : Int) => (link_block (fin2 := (Sum.elim (fun (t18 : Unit) => (Exit.normal,⟨mkE 26 0 [],[]⟩)) (fun (t18 : Bool) => (Exit.ret,⟨mkE 26 0 [(4,dB t18)],[]⟩)))) (id := 0) (link_loop (mk := fun (s : Int) => ⟨mkE 26 0 [(0,dL b),(1,dL d),(12,dI t),(13,dI s)],[]⟩) (fin := (Sum.elim (fun (t18 : Bool) => (Exit.ret,⟨mkE 26 0 [(4,dB t18)],[]⟩)) (fun (t18 : Unit) => ((Exit.exit 0),⟨mkE 26 0 [],[]⟩)))) (by
  rintro (t18 | t18) f K h
  · exact h
  · exact h) (fun s => link_map (Njq b d t s) (Sum.elim (fun (t18 : Int) => Sum.inl t18) (Sum.elim (fun (t18 : Bool) => Sum.inr (Sum.inl t18)) (fun (t18 : Unit) => Sum.inr (Sum.inr t18)))) (by
  rintro (t18 | t18 | t18)
  · kernel_rfl
  · kernel_rfl
  · kernel_rfl)) 0) (Sum.elim (fun (t18 : Bool) => (Sum.inr t18)) (fun (t18 : Unit) => (Sum.inl ()))) (by
  rintro (t18 | t18) K h
  · exact Eq.mp (by kernel_rfl) h
  · exact Eq.mp (by kernel_rfl) h)))) (fun (t : Unit) => (Np7)) (fun (t : Bool) => t) (by
  rintro t
  · kernel_rfl) (by
  rintro t f K h
  · exact h))) (fun (t : Bool) => t) (by
  rintro t
  · kernel_rfl) (by
  rintro t f K h
  · exact h)))) (by unfold N28; kernel_rfl) (by
  intro t
  exact ret_mk [dB t] (by kernel_rfl) (by kernel_rfl) (by kernel_rfl) (by kernel_rfl)) h
def Na1 : Fun := fun avs H =>
  match avs,H with
  | [.dat (.list (.int .i64)) a,.dat (.list (.int .i64)) b],[] => ⟨_,N28 a b,fun (t : Bool) => (dB t,[]),[],none⟩
  | _,_ => Ans.no
theorem Noo : Sound Tryd.prog 46 Na1 := by
  refine fn_sound' (C := N3i) (c := bodyOf Tryd.f46) (cok_of tys_ok (alln) (alln) (by kernel_rfl)) Tryd.func46 (by kernel_rfl) LL N13 ?_
  intro avs H r H' h
  unfold Na1 at h
  split at h
  · refine Awp.cast ?_ ?_ ?_ (Nvk _ _ h) <;> kernel_rfl
  · simp [Ans.no,Ans.run] at h

def ren_slices_Clone_ints_int : Go.Shelf.Ren := ⟨fun | 41 => 47 | n => n,fun | 4 => 4 | 22 => 23 | 23 => 22 | n => n,fun n => n⟩
theorem lay_slices_Clone_ints_int : SlLaysE0.n41 Tryd.prog ren_slices_Clone_ints_int := {
  mixed := by kernel_rfl
  f41 := ⟨Tryd.f47.name,by kernel_rfl,Tryd.func47.trans (congrArg some (by kernel_rfl))⟩
  t4 := Tryd.underlying4
  a4 := Tryd.isAgg4
  z4 := Tryd.sizeOf4
  v4 := Tryd.zeroValue4
  t22 := Tryd.underlying23
  a22 := Tryd.isAgg23
  z22 := Tryd.sizeOf23
  v22 := Tryd.zeroValue23 }
def Nhp : Fun := F_cloneD
theorem Nud : Sound Tryd.prog 47 Nhp := cloneD_sound lay_slices_Clone_ints_int (infoOf (Tryd.prog.info? 22)) (.slice none 0 0) 24 (by kernel_rfl) (by kernel_rfl) (by kernel_rfl) (by kernel_rfl) (by kernel_rfl) (by decide) Tryd.sizeOf22

def N9w : Ann := (.seq (.leaf [2,3,4]) (.seq (.leaf [2,4,6]) (.seq (.seq (.leaf [2,4,6,20]) (.cond (.seq (.leaf [4,5]) (.leaf [4,5])) (.leaf [2,4,6]))) (.seq (.draw [2,5] [0,1,3,4,5,2,6,7] [] [4,6,7]) (.seq (.leaf [4,5]) (.leaf [4,5]))))))
noncomputable def N9z : Ctx := ⟨tlook tys,olook [(45,Nbq),(42,N14),(29,N50),(46,Na1),(47,Nhp)],ioF,0,true,[]⟩
theorem Nif (a : List Int) (b : List (List Int)) (c d g : Int) : Link N9z LL (bodyOf Tryd.f31) N9w ⟨mkE 41 0 [(0,.agg [dL a,.dat (.list (.list (.int .i64))) b]),(1,.agg [dI c,dI d,dI g])],[]⟩ (N52 a b c d g) (fun (t : Bool × (List Int) × (List (List Int))) => (Exit.ret,⟨mkE 41 0 [(4,.ptr 0 0),(5,dB t.1)],[some (.box [.slc 1,.slc 2]),some (sI t.2.1),some (.nest (.int .i64) t.2.2 0 [])]⟩)) := .of fun K h => by
  simp only [N52,wpW] at h
  exact .of (by kernel_rfl) h
theorem Nkj (a : List Int) (b : List (List Int)) (c d g : Int) {r : AV} {H' : Heap} (h : (Ans.mk _ (N27 a b c d g) (fun (t : Bool × (List Int) × (List (List Int))) => (.tup [.agg [.slc 1,.slc 2],dB t.1],[some (.box [.slc 1,.slc 2]),some (sI t.2.1),some (.nest (.int .i64) t.2.2 0 [])])) [] none).run = some (r,H')) : Awp N9z LL (bodyOf Tryd.f31) N9w ⟨mkE 41 0 [(0,.agg [dL a,.dat (.list (.list (.int .i64))) b]),(1,.agg [dI c,dI d,dI g])],[]⟩ (Ret (tlook tys) Tryd.f31.results.toList r H') :=
  ret_of' (Nif a b c d g) (by unfold N27; kernel_rfl) (by
  intro t
  exact ret_mk [.agg [.slc 1,.slc 2],dB t.1] (by kernel_rfl) (by kernel_rfl) (by kernel_rfl) (by kernel_rfl)) h
def Nbl : Fun := fun avs H =>
  match avs,H with
  | [.agg [.dat (.list (.int .i64)) a,.dat (.list (.list (.int .i64))) b],.agg [.dat (.int .i64) c,.dat (.int .i64) d,.dat (.int .i64) g]],[] => ⟨_,N27 a b c d g,fun (t : Bool × (List Int) × (List (List Int))) => (.tup [.agg [.slc 1,.slc 2],dB t.1],[some (.box [.slc 1,.slc 2]),some (sI t.2.1),some (.nest (.int .i64) t.2.2 0 [])]),[],none⟩
  | _,_ => Ans.no
theorem Nlb : Sound Tryd.prog 31 Nbl := by
  refine fn_sound' (C := N9z) (c := bodyOf Tryd.f31) (cok_of tys_ok (allc Nsk (allc N2e (allc Ncb (allc Noo (allc Nud alln))))) (allc Tryd.call45 (allc Tryd.call42 (allc Tryd.call29 (allc Tryd.call46 (allc Tryd.call47 alln))))) (by kernel_rfl)) Tryd.func31 (by kernel_rfl) LL N9w ?_
  intro avs H r H' h
  unfold Nbl at h
  split at h
  · refine Awp.cast ?_ ?_ ?_ (Nkj _ _ _ _ _ h) <;> kernel_rfl
  · simp [Ans.no,Ans.run] at h

def Nc8 : Ann := (.seq (.leaf [2,3,4]) (.seq (.seq (.leaf [2,3,4,8]) (.cond (.seq (.leaf [4,5]) (.leafF [⟨0,4,false,some 0,some (.int .i64)⟩,⟨0,4,true,some 1,some (.int .i64)⟩] [4,5])) (.leaf [2,3,4]))) (.seq (.seq (.leaf [2,3,4,12]) (.cond (.seq (.leaf [4,5]) (.leaf [4,5])) (.leaf [2,3,4]))) (.seq (.seq (.leaf [2,3,4,20]) (.cond (.seq (.leaf [4,5]) (.leaf [4,5])) (.leaf [2,3,4]))) (.seq (.leaf [4,5]) (.leaf [4,5]))))))
noncomputable def Nd3 : Ctx := ⟨tlook tys,olook [(27,Nbx),(28,Nbu),(29,N50),(30,Nd4),(31,Nbl)],ioF,0,true,[]⟩
theorem Nmo (a : List Int) (b : List (List Int)) (c d g : Int) : Link Nd3 LL (bodyOf Tryd.f9) Nc8 ⟨mkE 30 0 [(0,.agg [dL a,.dat (.list (.list (.int .i64))) b]),(1,.agg [dI c,dI d,dI g])],[]⟩ (N54 a b c d g) (fun (t : Bool × (List Int) × (List (List Int))) => (Exit.ret,⟨mkE 30 0 [(4,.ptr 0 0),(5,dB t.1)],[some (.box [.slc 1,.slc 2]),some (sI t.2.1),some (.nest (.int .i64) t.2.2 0 [])]⟩)) := .of fun K h => by
  simp only [N54,wpW] at h
  exact .of (by kernel_rfl) h
theorem Nkz (a : List Int) (b : List (List Int)) (c d g : Int) {r : AV} {H' : Heap} (h : (Ans.mk _ (N19 a b c d g) (fun (t : Bool × (List Int) × (List (List Int))) => (.tup [.agg [.slc 1,.slc 2],dB t.1],[some (.box [.slc 1,.slc 2]),some (sI t.2.1),some (.nest (.int .i64) t.2.2 0 [])])) [] none).run = some (r,H')) : Awp Nd3 LL (bodyOf Tryd.f9) Nc8 ⟨mkE 30 0 [(0,.agg [dL a,.dat (.list (.list (.int .i64))) b]),(1,.agg [dI c,dI d,dI g])],[]⟩ (Ret (tlook tys) Tryd.f9.results.toList r H') :=
  ret_of' (Nmo a b c d g) (by unfold N19; kernel_rfl) (by
  intro t
  exact ret_mk [.agg [.slc 1,.slc 2],dB t.1] (by kernel_rfl) (by kernel_rfl) (by kernel_rfl) (by kernel_rfl)) h
def Nd0 : Fun := fun avs H =>
  match avs,H with
  | [.agg [.dat (.list (.int .i64)) a,.dat (.list (.list (.int .i64))) b],.agg [.dat (.int .i64) c,.dat (.int .i64) d,.dat (.int .i64) g]],[] => ⟨_,N19 a b c d g,fun (t : Bool × (List Int) × (List (List Int))) => (.tup [.agg [.slc 1,.slc 2],dB t.1],[some (.box [.slc 1,.slc 2]),some (sI t.2.1),some (.nest (.int .i64) t.2.2 0 [])]),[],none⟩
  | _,_ => Ans.no
theorem Nl0 : Sound Tryd.prog 9 Nd0 := by
  refine fn_sound' (C := Nd3) (c := bodyOf Tryd.f9) (cok_of tys_ok (allc Ntx (allc Nm4 (allc Ncb (allc Niu (allc Nlb alln))))) (allc Tryd.call27 (allc Tryd.call28 (allc Tryd.call29 (allc Tryd.call30 (allc Tryd.call31 alln))))) (by kernel_rfl)) Tryd.func9 (by kernel_rfl) LL Nc8 ?_
  intro avs H r H' h
  unfold Nd0 at h
  split at h
  · refine Awp.cast ?_ ?_ ?_ (Nkz _ _ _ _ _ h) <;> kernel_rfl
  · simp [Ans.no,Ans.run] at h

end Go.Rv
