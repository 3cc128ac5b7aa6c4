/-
  The checked code answers as the plain functions do; written by program. Conditions: none.
-/
import Derived.Test.YtihgceegapfngacDoorGFnExactDeskRun
import Derived.Test.YtihgceegapfngacDoorFB
import Derived.Test.YtihgceegapfngacDoorProg
set_option linter.unusedVariables false
set_option linter.unusedSimpArgs false
set_option linter.defProp false
set_option maxRecDepth 100000
namespace Go.Rv
open Go.Proofs
theorem ty3 : TIOk Tryd.prog 3 ⟨.int .i64,1,8,some (.int .i64),[.int .i64 0],false⟩ := ⟨⟨infoOf (Tryd.prog.info? 3),by kernel_rfl,by kernel_rfl,by kernel_rfl,.int .i64 0,by kernel_rfl,by kernel_rfl⟩,(by kernel_rfl : Tryd.prog.underlying 3 = some (.int .i64)),no_eq⟩
theorem ty4 : TIOk Tryd.prog 4 ⟨.bool,1,1,some .bool,[.bool false],false⟩ := ⟨⟨infoOf (Tryd.prog.info? 4),by kernel_rfl,by kernel_rfl,by kernel_rfl,.bool false,by kernel_rfl,by kernel_rfl⟩,(by kernel_rfl : Tryd.prog.underlying 4 = some .bool),no_eq⟩
theorem ty5 : TIOk Tryd.prog 5 ⟨.int .u8,1,1,some (.int .u8),[.int .u8 0],false⟩ := ⟨⟨infoOf (Tryd.prog.info? 5),by kernel_rfl,by kernel_rfl,by kernel_rfl,.int .u8 0,by kernel_rfl,by kernel_rfl⟩,(by kernel_rfl : Tryd.prog.underlying 5 = some (.int .u8)),no_eq⟩
theorem ty22 : TIOk Tryd.prog 22 ⟨.slice 3,1,24,some (.list (.int .i64)),[.slice none 0 0],false⟩ := ⟨⟨infoOf (Tryd.prog.info? 22),by kernel_rfl,by kernel_rfl,by kernel_rfl,.slice none 0 0,by kernel_rfl,by kernel_rfl⟩,(by kernel_rfl : Tryd.prog.underlying 22 = some (.slice 3)),no_eq⟩
theorem ty23 : TIOk Tryd.prog 23 ⟨.slice 22,1,24,some (.list (.list (.int .i64))),[.slice none 0 0],false⟩ := ⟨⟨infoOf (Tryd.prog.info? 23),by kernel_rfl,by kernel_rfl,by kernel_rfl,.slice none 0 0,by kernel_rfl,by kernel_rfl⟩,(by kernel_rfl : Tryd.prog.underlying 23 = some (.slice 22)),no_eq⟩
theorem ty25 : TIOk Tryd.prog 25 ⟨.strct [(0,22),(1,23)],2,48,some (.pair (.list (.int .i64)) (.pair (.list (.list (.int .i64))) .unit)),[.slice none 0 0,.slice none 0 0],false⟩ := ⟨⟨infoOf (Tryd.prog.info? 25),by kernel_rfl,by kernel_rfl,by kernel_rfl,.agg #[.slice none 0 0,.slice none 0 0],by kernel_rfl,by kernel_rfl⟩,⟨fieldsOf (Tryd.prog.underlying 25),by kernel_rfl,by kernel_rfl⟩,no_eq⟩
theorem ty27 : TIOk Tryd.prog 27 ⟨.strct [(0,3),(1,3),(2,3)],3,24,some (.pair (.int .i64) (.pair (.int .i64) (.pair (.int .i64) .unit))),[.int .i64 0,.int .i64 0,.int .i64 0],false⟩ := ⟨⟨infoOf (Tryd.prog.info? 27),by kernel_rfl,by kernel_rfl,by kernel_rfl,.agg #[.int .i64 0,.int .i64 0,.int .i64 0],by kernel_rfl,by kernel_rfl⟩,⟨fieldsOf (Tryd.prog.underlying 27),by kernel_rfl,by kernel_rfl⟩,no_eq⟩
theorem ty29 : TIOk Tryd.prog 29 ⟨.strct [(0,22),(1,23)],2,48,some (.pair (.list (.int .i64)) (.pair (.list (.list (.int .i64))) .unit)),[.slice none 0 0,.slice none 0 0],false⟩ := ⟨⟨infoOf (Tryd.prog.info? 29),by kernel_rfl,by kernel_rfl,by kernel_rfl,.agg #[.slice none 0 0,.slice none 0 0],by kernel_rfl,by kernel_rfl⟩,⟨fieldsOf (Tryd.prog.underlying 29),by kernel_rfl,by kernel_rfl⟩,no_eq⟩
theorem ty33 : TIOk Tryd.prog 33 ⟨.strct [(0,3),(1,3),(2,3)],3,24,some (.pair (.int .i64) (.pair (.int .i64) (.pair (.int .i64) .unit))),[.int .i64 0,.int .i64 0,.int .i64 0],true⟩ := ⟨⟨infoOf (Tryd.prog.info? 33),by kernel_rfl,by kernel_rfl,by kernel_rfl,.agg #[.int .i64 0,.int .i64 0,.int .i64 0],by kernel_rfl,by kernel_rfl⟩,⟨fieldsOf (Tryd.prog.underlying 33),by kernel_rfl,by kernel_rfl⟩,fun _ => by kernel_rfl⟩
theorem ty38 : TIOk Tryd.prog 38 ⟨.slice 27,1,24,some (.list (.pair (.int .i64) (.pair (.int .i64) (.pair (.int .i64) .unit)))),[.slice none 0 0],false⟩ := ⟨⟨infoOf (Tryd.prog.info? 38),by kernel_rfl,by kernel_rfl,by kernel_rfl,.slice none 0 0,by kernel_rfl,by kernel_rfl⟩,(by kernel_rfl : Tryd.prog.underlying 38 = some (.slice 27)),no_eq⟩
theorem ty42 : TIOk Tryd.prog 42 ⟨.slice 33,1,24,some (.list (.pair (.int .i64) (.pair (.int .i64) (.pair (.int .i64) .unit)))),[.slice none 0 0],false⟩ := ⟨⟨infoOf (Tryd.prog.info? 42),by kernel_rfl,by kernel_rfl,by kernel_rfl,.slice none 0 0,by kernel_rfl,by kernel_rfl⟩,(by kernel_rfl : Tryd.prog.underlying 42 = some (.slice 33)),no_eq⟩
theorem ty72 : TIOk Tryd.prog 72 ⟨.strct [(0,22),(1,3),(2,3)],3,40,some (.pair (.list (.int .i64)) (.pair (.int .i64) (.pair (.int .i64) .unit))),[.slice none 0 0,.int .i64 0,.int .i64 0],false⟩ := ⟨⟨infoOf (Tryd.prog.info? 72),by kernel_rfl,by kernel_rfl,by kernel_rfl,.agg #[.slice none 0 0,.int .i64 0,.int .i64 0],by kernel_rfl,by kernel_rfl⟩,⟨fieldsOf (Tryd.prog.underlying 72),by kernel_rfl,by kernel_rfl⟩,no_eq⟩
theorem ty77 : TIOk Tryd.prog 77 ⟨.arr 9 4,9,9,none,[.bool false,.bool false,.bool false,.bool false,.bool false,.bool false,.bool false,.bool false,.bool false],false⟩ := ⟨⟨infoOf (Tryd.prog.info? 77),by kernel_rfl,by kernel_rfl,by kernel_rfl,.agg #[.bool false,.bool false,.bool false,.bool false,.bool false,.bool false,.bool false,.bool false,.bool false],by kernel_rfl,by kernel_rfl⟩,(by kernel_rfl : Tryd.prog.underlying 77 = some (.array 9 4)),no_eq⟩
theorem ty79 : TIOk Tryd.prog 79 ⟨.int .u64,1,8,some (.int .u64),[.int .u64 0],false⟩ := ⟨⟨infoOf (Tryd.prog.info? 79),by kernel_rfl,by kernel_rfl,by kernel_rfl,.int .u64 0,by kernel_rfl,by kernel_rfl⟩,(by kernel_rfl : Tryd.prog.underlying 79 = some (.int .u64)),no_eq⟩
theorem ty91 : TIOk Tryd.prog 91 ⟨.int .u64,1,8,some (.int .u64),[.int .u64 0],false⟩ := ⟨⟨infoOf (Tryd.prog.info? 91),by kernel_rfl,by kernel_rfl,by kernel_rfl,.int .u64 0,by kernel_rfl,by kernel_rfl⟩,(by kernel_rfl : Tryd.prog.underlying 91 = some (.int .u64)),no_eq⟩
theorem ty93 : TIOk Tryd.prog 93 ⟨.arr 64 5,64,64,none,[.int .u8 0,.int .u8 0,.int .u8 0,.int .u8 0,.int .u8 0,.int .u8 0,.int .u8 0,.int .u8 0,.int .u8 0,.int .u8 0,.int .u8 0,.int .u8 0,.int .u8 0,.int .u8 0,.int .u8 0,.int .u8 0,.int .u8 0,.int .u8 0,.int .u8 0,.int .u8 0,.int .u8 0,.int .u8 0,.int .u8 0,.int .u8 0,.int .u8 0,.int .u8 0,.int .u8 0,.int .u8 0,.int .u8 0,.int .u8 0,.int .u8 0,.int .u8 0,.int .u8 0,.int .u8 0,.int .u8 0,.int .u8 0,.int .u8 0,.int .u8 0,.int .u8 0,.int .u8 0,.int .u8 0,.int .u8 0,.int .u8 0,.int .u8 0,.int .u8 0,.int .u8 0,.int .u8 0,.int .u8 0,.int .u8 0,.int .u8 0,.int .u8 0,.int .u8 0,.int .u8 0,.int .u8 0,.int .u8 0,.int .u8 0,.int .u8 0,.int .u8 0,.int .u8 0,.int .u8 0,.int .u8 0,.int .u8 0,.int .u8 0,.int .u8 0],false⟩ := ⟨⟨infoOf (Tryd.prog.info? 93),by kernel_rfl,by kernel_rfl,by kernel_rfl,.agg #[.int .u8 0,.int .u8 0,.int .u8 0,.int .u8 0,.int .u8 0,.int .u8 0,.int .u8 0,.int .u8 0,.int .u8 0,.int .u8 0,.int .u8 0,.int .u8 0,.int .u8 0,.int .u8 0,.int .u8 0,.int .u8 0,.int .u8 0,.int .u8 0,.int .u8 0,.int .u8 0,.int .u8 0,.int .u8 0,.int .u8 0,.int .u8 0,.int .u8 0,.int .u8 0,.int .u8 0,.int .u8 0,.int .u8 0,.int .u8 0,.int .u8 0,.int .u8 0,.int .u8 0,.int .u8 0,.int .u8 0,.int .u8 0,.int .u8 0,.int .u8 0,.int .u8 0,.int .u8 0,.int .u8 0,.int .u8 0,.int .u8 0,.int .u8 0,.int .u8 0,.int .u8 0,.int .u8 0,.int .u8 0,.int .u8 0,.int .u8 0,.int .u8 0,.int .u8 0,.int .u8 0,.int .u8 0,.int .u8 0,.int .u8 0,.int .u8 0,.int .u8 0,.int .u8 0,.int .u8 0,.int .u8 0,.int .u8 0,.int .u8 0,.int .u8 0],by kernel_rfl,by kernel_rfl⟩,(by kernel_rfl : Tryd.prog.underlying 93 = some (.array 64 5)),no_eq⟩
def tys : List (TypeId × TI) := [(3,⟨.int .i64,1,8,some (.int .i64),[.int .i64 0],false⟩),(4,⟨.bool,1,1,some .bool,[.bool false],false⟩),(5,⟨.int .u8,1,1,some (.int .u8),[.int .u8 0],false⟩),(22,⟨.slice 3,1,24,some (.list (.int .i64)),[.slice none 0 0],false⟩),(23,⟨.slice 22,1,24,some (.list (.list (.int .i64))),[.slice none 0 0],false⟩),(25,⟨.strct [(0,22),(1,23)],2,48,some (.pair (.list (.int .i64)) (.pair (.list (.list (.int .i64))) .unit)),[.slice none 0 0,.slice none 0 0],false⟩),(27,⟨.strct [(0,3),(1,3),(2,3)],3,24,some (.pair (.int .i64) (.pair (.int .i64) (.pair (.int .i64) .unit))),[.int .i64 0,.int .i64 0,.int .i64 0],false⟩),(29,⟨.strct [(0,22),(1,23)],2,48,some (.pair (.list (.int .i64)) (.pair (.list (.list (.int .i64))) .unit)),[.slice none 0 0,.slice none 0 0],false⟩),(33,⟨.strct [(0,3),(1,3),(2,3)],3,24,some (.pair (.int .i64) (.pair (.int .i64) (.pair (.int .i64) .unit))),[.int .i64 0,.int .i64 0,.int .i64 0],true⟩),(38,⟨.slice 27,1,24,some (.list (.pair (.int .i64) (.pair (.int .i64) (.pair (.int .i64) .unit)))),[.slice none 0 0],false⟩),(42,⟨.slice 33,1,24,some (.list (.pair (.int .i64) (.pair (.int .i64) (.pair (.int .i64) .unit)))),[.slice none 0 0],false⟩),(72,⟨.strct [(0,22),(1,3),(2,3)],3,40,some (.pair (.list (.int .i64)) (.pair (.int .i64) (.pair (.int .i64) .unit))),[.slice none 0 0,.int .i64 0,.int .i64 0],false⟩),(77,⟨.arr 9 4,9,9,none,[.bool false,.bool false,.bool false,.bool false,.bool false,.bool false,.bool false,.bool false,.bool false],false⟩),(79,⟨.int .u64,1,8,some (.int .u64),[.int .u64 0],false⟩),(91,⟨.int .u64,1,8,some (.int .u64),[.int .u64 0],false⟩),(93,⟨.arr 64 5,64,64,none,[.int .u8 0,.int .u8 0,.int .u8 0,.int .u8 0,.int .u8 0,.int .u8 0,.int .u8 0,.int .u8 0,.int .u8 0,.int .u8 0,.int .u8 0,.int .u8 0,.int .u8 0,.int .u8 0,.int .u8 0,.int .u8 0,.int .u8 0,.int .u8 0,.int .u8 0,.int .u8 0,.int .u8 0,.int .u8 0,.int .u8 0,.int .u8 0,.int .u8 0,.int .u8 0,.int .u8 0,.int .u8 0,.int .u8 0,.int .u8 0,.int .u8 0,.int .u8 0,.int .u8 0,.int .u8 0,.int .u8 0,.int .u8 0,.int .u8 0,.int .u8 0,.int .u8 0,.int .u8 0,.int .u8 0,.int .u8 0,.int .u8 0,.int .u8 0,.int .u8 0,.int .u8 0,.int .u8 0,.int .u8 0,.int .u8 0,.int .u8 0,.int .u8 0,.int .u8 0,.int .u8 0,.int .u8 0,.int .u8 0,.int .u8 0,.int .u8 0,.int .u8 0,.int .u8 0,.int .u8 0,.int .u8 0,.int .u8 0,.int .u8 0,.int .u8 0],false⟩)]
theorem tys_ok : TOk Tryd.prog (tlook tys) := tok_of (allc ty3 (allc ty4 (allc ty5 (allc ty22 (allc ty23 (allc ty25 (allc ty27 (allc ty29 (allc ty33 (allc ty38 (allc ty42 (allc ty72 (allc ty77 (allc ty79 (allc ty91 (allc ty93 alln))))))))))))))))
def ioF (f : FuncId) (i : Nat) : Bool := [(11,0),(18,0),(34,0),(35,0),(66,0),(69,0)].any fun (p : Nat × Nat) => Nat.beq p.1 f && Nat.beq p.2 i

def Nbj : Ann := (.seq (.leaf [0,1]) (.seq (.leaf [1]) (.seq (.seq (.leaf [1,10]) (.cond (.seq (.leaf [4]) (.leaf [4])) (.leaf [1]))) (.seq (.leaf [4]) (.leaf [4])))))
noncomputable def Ne6 : Ctx := ⟨tlook tys,olook [],ioF,0,false,[]⟩
theorem Npy (a : List Int) (b : Int) : Link Ne6 LL (bodyOf Tryd.f19) Nbj ⟨mkE 12 0 [(0,dL a),(1,dI b)],[]⟩ (N47 a b) (fun (t : Int) => (Exit.ret,⟨mkE 12 0 [(4,dI t)],[]⟩)) := .of fun K h => by
  simp only [N47,wpW] at h
  exact .of (by kernel_rfl) h
theorem N10d (a : List Int) (b : Int) {r : AV} {H' : Heap} (h : (Ans.mk _ (N23 a b) (fun (t : Int) => (dI t,[])) [] none).run = some (r,H')) : Awp Ne6 LL (bodyOf Tryd.f19) Nbj ⟨mkE 12 0 [(0,dL a),(1,dI b)],[]⟩ (Ret (tlook tys) Tryd.f19.results.toList r H') :=
  ret_of' (Npy a b) (by unfold N23; kernel_rfl) (by
  intro t
  exact ret_mk [dI t] (by kernel_rfl) (by kernel_rfl) (by kernel_rfl) (by kernel_rfl)) h
def N6c : Fun := fun avs H =>
  match avs,H with
  | [.dat (.list (.int .i64)) a,.dat (.int .i64) b],[] => ⟨_,N23 a b,fun (t : Int) => (dI t,[]),[],none⟩
  | _,_ => Ans.no
theorem Nf9 : Sound Tryd.prog 19 N6c := by
  refine fn_sound' (C := Ne6) (c := bodyOf Tryd.f19) (cok_of tys_ok (alln) (alln) (by kernel_rfl)) Tryd.func19 (by kernel_rfl) LL Nbj ?_
  intro avs H r H' h
  unfold N6c at h
  split at h
  · refine Awp.cast ?_ ?_ ?_ (N10d _ _ h) <;> kernel_rfl
  · simp [Ans.no,Ans.run] at h

def Ng : Ann := (.seq (.leaf [0,1]) (.seq (.leaf [0,1]) (.seq (.seq (.leaf [0,1,11]) (.cond (.seq (.leaf [4]) (.leaf [4])) (.leaf [0,1]))) (.seq (.seq (.leaf [0,1,5]) (.block (.loop (.seq (.seq (.leaf [0,1,5,15]) (.cond (.leaf [0,1,5]) (.leaf [1]))) (.seq (.block (.seq (.leaf [0,1,5]) (.seq (.leaf [0,1,5,25]) (.cond (.seq (.leaf [4]) (.leaf [4])) (.leaf [0,1,5]))))) (.leaf [0,1,5])))))) (.seq (.leaf [4]) (.leaf [4]))))))
noncomputable def N3l : Ctx := ⟨tlook tys,olook [(19,N6c)],ioF,0,false,[]⟩
theorem Nt8 (a : List (List Int)) (b : Int) : Link N3l LL (Code.seq (cq [0] (bodyOf Tryd.f20)) (Code.seq (cq [0,1] (bodyOf Tryd.f20)) (cq [0,1,1] (bodyOf Tryd.f20)))) (Ann.seq (aq [0] Ng) (Ann.seq (aq [0,1] Ng) (aq [0,1,1] Ng))) ⟨mkE 27 0 [(0,.dat (.list (.list (.int .i64))) a),(1,dI b)],[]⟩ (N51 a b) (Sum.elim (fun (t : Int) => (Exit.normal,⟨mkE 27 0 [(0,.dat (.list (.list (.int .i64))) a),(1,dI t)],[]⟩)) (fun (t : Int) => (Exit.ret,⟨mkE 27 0 [(4,dI t)],[]⟩))) := .of fun K h => by
  simp only [N51,wpW] at h
  exact .of (by kernel_rfl) h
theorem Np1 (a : List (List Int)) (b : Int) : Link N3l LL (cq [0,0,1,1,1] (bodyOf Tryd.f20)) (aq [0,0,1,1,1] Ng) ⟨mkE 27 0 [(0,.dat (.list (.list (.int .i64))) a),(1,dI b)],[]⟩ (N6b) (fun (t : Unit) => (Exit.normal,⟨mkE 27 0 [(0,.dat (.list (.list (.int .i64))) a),(1,dI b),(5,dI 0)],[]⟩)) := .of fun K h => by
  simp only [N6b,wpW] at h
  exact .of (by kernel_rfl) h
theorem Nrh (a : List (List Int)) (b c : Int) : Link N3l LL (cq [0,0,1,0,1,1,1] (bodyOf Tryd.f20)) (aq [0,0,1,0,1,1,1] Ng) ⟨mkE 27 0 [(0,.dat (.list (.list (.int .i64))) a),(1,dI b),(5,dI c)],[]⟩ (N41 a b c) (Sum.elim (fun (t : Int × Int) => (Exit.normal,⟨mkE 27 0 [(0,.dat (.list (.list (.int .i64))) a),(1,dI t.1),(5,dI t.2)],[]⟩)) (Sum.elim (fun (t : Int) => (Exit.ret,⟨mkE 27 0 [(4,dI t)],[]⟩)) (fun (t : Int) => ((Exit.exit 0),⟨mkE 27 0 [(1,dI t)],[]⟩)))) := .of fun K h => by
  simp only [N41,wpW] at h
  exact .of (by kernel_rfl) h
theorem No7 (a : Int) : Link N3l LL (cq [1,1,1,1] (bodyOf Tryd.f20)) (aq [1,1,1,1] Ng) ⟨mkE 27 0 [(1,dI a)],[]⟩ (Nei a) (fun (t : Int) => (Exit.ret,⟨mkE 27 0 [(4,dI t)],[]⟩)) := .of fun K h => by
  simp only [Nei,wpW] at h
  exact .of (by kernel_rfl) h
theorem Nwf (b : List (List Int)) (d : Int) {r : AV} {H' : Heap} (h : (Ans.mk _ (N1w b d) (fun (t : Int) => (dI t,[])) [] none).run = some (r,H')) : Awp N3l LL (bodyOf Tryd.f20) Ng ⟨mkE 27 0 [(0,.dat (.list (.list (.int .i64))) b),(1,dI d)],[]⟩ (Ret (tlook tys) Tryd.f20.results.toList r H') :=
  ret_of' (Link.cast (by kernel_rfl) (by kernel_rfl) (link_group (c := (cq [0,1,1] (bodyOf Tryd.f20))) (a := (aq [0,1,1] Ng)) [(cq [0] (bodyOf Tryd.f20)),(cq [0,1] (bodyOf Tryd.f20))] [(aq [0] Ng),(aq [0,1] Ng)] rfl (link_seq2 (Nt8 b d) (fun (t : Int) => (link_seq2 (link_seq (Np1 b t) (fun (t26 : Unit) => (link_block (fin2 := (Sum.elim (fun (t26 : Int) => (Exit.normal,⟨mkE 27 0 [(1,dI t26)],[]⟩)) (fun (t26 : Int) => (Exit.ret,⟨mkE 27 0 [(4,dI t26)],[]⟩)))) (id := 0) (link_loop (mk := fun (s : Int × Int) => ⟨mkE 27 0 [(0,.dat (.list (.list (.int .i64))) b),(1,dI s.1),(5,dI s.2)],[]⟩) (fin := (Sum.elim (fun (t26 : Int) => (Exit.ret,⟨mkE 27 0 [(4,dI t26)],[]⟩)) (fun (t26 : Int) => ((Exit.exit 0),⟨mkE 27 0 [(1,dI t26)],[]⟩)))) (by
  rintro (t26 | t26) f K h
  · exact h
  · exact h) (fun s => link_map (Nrh b s.1 s.2) (Sum.elim (fun (t26 : Int × Int) => Sum.inl (t26.1,t26.2)) (Sum.elim (fun (t26 : Int) => Sum.inr (Sum.inl t26)) (fun (t26 : Int) => Sum.inr (Sum.inr t26)))) (by
  rintro (t26 | t26 | t26)
  · kernel_rfl
  · kernel_rfl
  · kernel_rfl)) (t,0)) (Sum.elim (fun (t26 : Int) => (Sum.inr t26)) (fun (t26 : Int) => (Sum.inl t26))) (by
  rintro (t26 | t26) K h
  · exact Eq.mp (by kernel_rfl) h
  · exact Eq.mp (by kernel_rfl) h)))) (fun (t26 : Int) => (No7 t26)) (fun (t26 : Int) => t26) (by
  rintro t26
  · kernel_rfl) (by
  rintro t26 f K h
  · exact h))) (fun (t : Int) => t) (by
  rintro t
  · kernel_rfl) (by
  rintro t f K h
  · exact h)))) (by unfold N1w; kernel_rfl) (by
  intro t
  exact ret_mk [dI t] (by kernel_rfl) (by kernel_rfl) (by kernel_rfl) (by kernel_rfl)) h
def Nbo : Fun := fun avs H =>
  match avs,H with
  | [.dat (.list (.list (.int .i64))) a,.dat (.int .i64) b],[] => ⟨_,N1w a b,fun (t : Int) => (dI t,[]),[],none⟩
  | _,_ => Ans.no
theorem Nx1 : Sound Tryd.prog 20 Nbo := by
  refine fn_sound' (C := N3l) (c := bodyOf Tryd.f20) (cok_of tys_ok (allc Nf9 alln) (allc Tryd.call19 alln) (by kernel_rfl)) Tryd.func20 (by kernel_rfl) LL Ng ?_
  intro avs H r H' h
  unfold Nbo at h
  split at h
  · refine Awp.cast ?_ ?_ ?_ (Nwf _ _ h) <;> kernel_rfl
  · simp [Ans.no,Ans.run] at h

def Nb0 : Ann := (.seq (.leaf [1,2]) (.seq (.leaf [1,2]) (.seq (.seq (.leaf [1,2,10]) (.cond (.seq (.leaf [4]) (.leaf [4])) (.leaf [1,2]))) (.seq (.leaf [1]) (.seq (.seq (.leaf [1,16]) (.cond (.seq (.leaf [4]) (.leaf [4])) (.leaf [1]))) (.seq (.leaf [4]) (.leaf [4])))))))
noncomputable def Nbs : Ctx := ⟨tlook tys,olook [(19,N6c),(20,Nbo)],ioF,0,false,[]⟩
theorem Nrf (a : List Int) (b : List (List Int)) (c : Int) : Link Nbs LL (bodyOf Tryd.f5) Nb0 ⟨mkE 18 0 [(0,.agg [dL a,.dat (.list (.list (.int .i64))) b]),(1,dI c)],[]⟩ (N5f a b c) (fun (t : Int) => (Exit.ret,⟨mkE 18 0 [(4,dI t)],[]⟩)) := .of fun K h => by
  simp only [N5f,wpW] at h
  exact .of (by kernel_rfl) h
theorem Ntv (a : List Int) (b : List (List Int)) (c : Int) {r : AV} {H' : Heap} (h : (Ans.mk _ (N2v a b c) (fun (t : Int) => (dI t,[])) [] none).run = some (r,H')) : Awp Nbs LL (bodyOf Tryd.f5) Nb0 ⟨mkE 18 0 [(0,.agg [dL a,.dat (.list (.list (.int .i64))) b]),(1,dI c)],[]⟩ (Ret (tlook tys) Tryd.f5.results.toList r H') :=
  ret_of' (Nrf a b c) (by unfold N2v; kernel_rfl) (by
  intro t
  exact ret_mk [dI t] (by kernel_rfl) (by kernel_rfl) (by kernel_rfl) (by kernel_rfl)) h
def Nc4 : Fun := fun avs H =>
  match avs,H with
  | [.agg [.dat (.list (.int .i64)) a,.dat (.list (.list (.int .i64))) b],.dat (.int .i64) c],[] => ⟨_,N2v a b c,fun (t : Int) => (dI t,[]),[],none⟩
  | _,_ => Ans.no
theorem Nom : Sound Tryd.prog 5 Nc4 := by
  refine fn_sound' (C := Nbs) (c := bodyOf Tryd.f5) (cok_of tys_ok (allc Nf9 (allc Nx1 alln)) (allc Tryd.call19 (allc Tryd.call20 alln)) (by kernel_rfl)) Tryd.func5 (by kernel_rfl) LL Nb0 ?_
  intro avs H r H' h
  unfold Nc4 at h
  split at h
  · refine Awp.cast ?_ ?_ ?_ (Ntv _ _ _ h) <;> kernel_rfl
  · simp [Ans.no,Ans.run] at h

def N13 : Ann := (.seq (.leaf [0]) (.seq (.leaf [0,3]) (.seq (.seq (.leaf [0,3,4]) (.block (.loop (.seq (.seq (.leaf [0,3,4,11]) (.cond (.leaf [0,3,4]) (.leaf [3]))) (.seq (.block (.leaf [0,3,4])) (.leaf [0,3,4])))))) (.seq (.leaf [2]) (.leaf [2])))))
noncomputable def N3n : Ctx := ⟨tlook tys,olook [],ioF,0,false,[]⟩
theorem Nip (a : List Int) : Link N3n LL (Code.seq (cq [0] (bodyOf Tryd.f25)) (cq [0,1] (bodyOf Tryd.f25))) (Ann.seq (aq [0] N13) (aq [0,1] N13)) ⟨mkE 22 0 [(0,dL a)],[]⟩ (N4u a) (fun (t : (List Int)) => (Exit.normal,⟨mkE 22 0 [(0,dL a),(3,.slc 0)],[some (sI t)]⟩)) := .of fun K h => by
  simp only [N4u,wpW] at h
  exact .of (by kernel_rfl) h
theorem Nz9 (a b : List Int) : Link N3n LL (cq [0,0,1,1] (bodyOf Tryd.f25)) (aq [0,0,1,1] N13) ⟨mkE 22 0 [(0,dL a),(3,.slc 0)],[some (sI b)]⟩ (N63) (fun (t : Unit) => (Exit.normal,⟨mkE 22 0 [(0,dL a),(3,.slc 0),(4,dI 0)],[some (sI b)]⟩)) := .of fun K h => by
  simp only [N63,wpW] at h
  exact .of (by kernel_rfl) h
theorem Npf (a : List Int) (b : Int) (c : List Int) : Link N3n LL (cq [0,0,1,0,1,1] (bodyOf Tryd.f25)) (aq [0,0,1,0,1,1] N13) ⟨mkE 22 0 [(0,dL a),(3,.slc 0),(4,dI b)],[some (sI c)]⟩ (N3m a b c) (Sum.elim (fun (t : Int × (List Int)) => (Exit.normal,⟨mkE 22 0 [(0,dL a),(3,.slc 0),(4,dI t.1)],[some (sI t.2)]⟩)) (fun (t : (List Int)) => ((Exit.exit 0),⟨mkE 22 0 [(3,.slc 0)],[some (sI t)]⟩))) := .of fun K h => by
  simp only [N3m,wpW] at h
  exact .of (by kernel_rfl) h
theorem Nix (a : List Int) : Link N3n LL (cq [1,1,1] (bodyOf Tryd.f25)) (aq [1,1,1] N13) ⟨mkE 22 0 [(3,.slc 0)],[some (sI a)]⟩ (N8a a) (fun (t : (List Int)) => (Exit.ret,⟨mkE 22 0 [(2,.slc 0)],[some (sI t)]⟩)) := .of fun K h => by
  simp only [N8a,wpW] at h
  exact .of (by kernel_rfl) h
theorem Ny2 (b : List Int) {r : AV} {H' : Heap} (h : (Ans.mk _ (N26 b) (fun (t : (List Int)) => (.slc 0,[some (sI t)])) [] none).run = some (r,H')) : Awp N3n LL (bodyOf Tryd.f25) N13 ⟨mkE 22 0 [(0,dL b)],[]⟩ (Ret (tlook tys) Tryd.f25.results.toList r H') :=
  ret_of' (Link.cast (by kernel_rfl) (by kernel_rfl) (link_group (c := (cq [0,1] (bodyOf Tryd.f25))) (a := (aq [0,1] N13)) [(cq [0] (bodyOf Tryd.f25))] [(aq [0] N13)] rfl (link_seq (Nip b) (fun (t : (List Int)) => (link_seq (link_seq (Nz9 b t) (fun (t27 : Unit) => (link_block (fin2 := (fun (t27 : (List Int)) => (Exit.normal,⟨mkE 22 0 [(3,.slc 0)],[some (sI t27)]⟩))) (id := 0) (link_loop (mk := fun (s : Int × (List Int)) => ⟨mkE 22 0 [(0,dL b),(3,.slc 0),(4,dI s.1)],[some (sI s.2)]⟩) (fin := (fun (t27 : (List Int)) => ((Exit.exit 0),⟨mkE 22 0 [(3,.slc 0)],[some (sI t27)]⟩))) (by
  rintro t27 f K h
  · exact h) (fun s => link_map (Npf b s.1 s.2) (Sum.elim (fun (t27 : Int × (List Int)) => Sum.inl (t27.1,t27.2)) (fun (t27 : (List Int)) => Sum.inr t27)) (by
  rintro (t27 | t27)
  · kernel_rfl
  · kernel_rfl)) (0,t)) (fun (t27 : (List Int)) => t27) (by
  rintro t27 K h
  · exact Eq.mp (by kernel_rfl) h)))) (fun (t27 : (List Int)) => (Nix t27))))))) (by unfold N26; kernel_rfl) (by
  intro t
  exact ret_mk [.slc 0] (by kernel_rfl) (by kernel_rfl) (by kernel_rfl) (by kernel_rfl)) h
def N6x : Fun := fun avs H =>
  match avs,H with
  | [.dat (.list (.int .i64)) a],[] => ⟨_,N26 a,fun (t : (List Int)) => (.slc 0,[some (sI t)]),[],none⟩
  | _,_ => Ans.no
theorem Nif : Sound Tryd.prog 25 N6x := by
  refine fn_sound' (C := N3n) (c := bodyOf Tryd.f25) (cok_of tys_ok (alln) (alln) (by kernel_rfl)) Tryd.func25 (by kernel_rfl) LL N13 ?_
  intro avs H r H' h
  unfold N6x at h
  split at h
  · refine Awp.cast ?_ ?_ ?_ (Ny2 _ h) <;> kernel_rfl
  · simp [Ans.no,Ans.run] at h

def N1g : Ann := (.seq (.leaf [0]) (.seq (.leaf [0,3]) (.seq (.seq (.leaf [0,3,4]) (.block (.loop (.seq (.seq (.leaf [0,3,4,11]) (.cond (.leaf [0,3,4]) (.leaf [3]))) (.seq (.block (.leaf [0,3,4])) (.leaf [0,3,4])))))) (.seq (.leaf [2]) (.leaf [2])))))
noncomputable def N30 : Ctx := ⟨tlook tys,olook [(25,N6x)],ioF,0,true,[]⟩
theorem Nsp (a : List (List Int)) : Link N30 LL (Code.seq (cq [0] (bodyOf Tryd.f26)) (cq [0,1] (bodyOf Tryd.f26))) (Ann.seq (aq [0] N1g) (aq [0,1] N1g)) ⟨mkE 23 0 [(0,.dat (.list (.list (.int .i64))) a)],[]⟩ (N5j a) (fun (t : (List (List Int))) => (Exit.normal,⟨mkE 23 0 [(0,.dat (.list (.list (.int .i64))) a),(3,.slc 0)],[some (.nest (.int .i64) t 0 [])]⟩)) := .of fun K h => by
  simp only [N5j,wpW] at h
  exact .of (by kernel_rfl) h
theorem Ns5 (a b : List (List Int)) : Link N30 LL (cq [0,0,1,1] (bodyOf Tryd.f26)) (aq [0,0,1,1] N1g) ⟨mkE 23 0 [(0,.dat (.list (.list (.int .i64))) a),(3,.slc 0)],[some (.nest (.int .i64) b 0 [])]⟩ (N7y) (fun (t : Unit) => (Exit.normal,⟨mkE 23 0 [(0,.dat (.list (.list (.int .i64))) a),(3,.slc 0),(4,dI 0)],[some (.nest (.int .i64) b 0 [])]⟩)) := .of fun K h => by
  simp only [N7y,wpW] at h
  exact .of (by kernel_rfl) h
theorem Nmg (a : List (List Int)) (b : Int) (c : List (List Int)) : Link N30 LL (cq [0,0,1,0,1,1] (bodyOf Tryd.f26)) (aq [0,0,1,0,1,1] N1g) ⟨mkE 23 0 [(0,.dat (.list (.list (.int .i64))) a),(3,.slc 0),(4,dI b)],[some (.nest (.int .i64) c 0 [])]⟩ (N2l a b c) (Sum.elim (fun (t : Int × (List (List Int))) => (Exit.normal,⟨mkE 23 0 [(0,.dat (.list (.list (.int .i64))) a),(3,.slc 0),(4,dI t.1)],[some (.nest (.int .i64) t.2 0 [])]⟩)) (fun (t : (List (List Int))) => ((Exit.exit 0),⟨mkE 23 0 [(3,.slc 0)],[some (.nest (.int .i64) t 0 [])]⟩))) := .of fun K h => by
  simp only [N2l,wpW] at h
  exact .of (by kernel_rfl) h
theorem Nwj (a : List (List Int)) : Link N30 LL (cq [1,1,1] (bodyOf Tryd.f26)) (aq [1,1,1] N1g) ⟨mkE 23 0 [(3,.slc 0)],[some (.nest (.int .i64) a 0 [])]⟩ (N6j a) (fun (t : (List (List Int))) => (Exit.ret,⟨mkE 23 0 [(2,.slc 0)],[some (.nest (.int .i64) t 0 [])]⟩)) := .of fun K h => by
  simp only [N6j,wpW] at h
  exact .of (by kernel_rfl) h
theorem No6 (b : List (List Int)) {r : AV} {H' : Heap} (h : (Ans.mk _ (N1v b) (fun (t : (List (List Int))) => (.slc 0,[some (.nest (.int .i64) t 0 [])])) [] none).run = some (r,H')) : Awp N30 LL (bodyOf Tryd.f26) N1g ⟨mkE 23 0 [(0,.dat (.list (.list (.int .i64))) b)],[]⟩ (Ret (tlook tys) Tryd.f26.results.toList r H') :=
  ret_of' (Link.cast (by kernel_rfl) (by kernel_rfl) (link_group (c := (cq [0,1] (bodyOf Tryd.f26))) (a := (aq [0,1] N1g)) [(cq [0] (bodyOf Tryd.f26))] [(aq [0] N1g)] rfl (link_seq (Nsp b) (fun (t : (List (List Int))) => (link_seq (link_seq (Ns5 b t) (fun (t28 : Unit) => (link_block (fin2 := (fun (t28 : (List (List Int))) => (Exit.normal,⟨mkE 23 0 [(3,.slc 0)],[some (.nest (.int .i64) t28 0 [])]⟩))) (id := 0) (link_loop (mk := fun (s : Int × (List (List Int))) => ⟨mkE 23 0 [(0,.dat (.list (.list (.int .i64))) b),(3,.slc 0),(4,dI s.1)],[some (.nest (.int .i64) s.2 0 [])]⟩) (fin := (fun (t28 : (List (List Int))) => ((Exit.exit 0),⟨mkE 23 0 [(3,.slc 0)],[some (.nest (.int .i64) t28 0 [])]⟩))) (by
  rintro t28 f K h
  · exact h) (fun s => link_map (Nmg b s.1 s.2) (Sum.elim (fun (t28 : Int × (List (List Int))) => Sum.inl (t28.1,t28.2)) (fun (t28 : (List (List Int))) => Sum.inr t28)) (by
  rintro (t28 | t28)
  · kernel_rfl
  · kernel_rfl)) (0,t)) (fun (t28 : (List (List Int))) => t28) (by
  rintro t28 K h
  · exact Eq.mp (by kernel_rfl) h)))) (fun (t28 : (List (List Int))) => (Nwj t28))))))) (by unfold N1v; kernel_rfl) (by
  intro t
  exact ret_mk [.slc 0] (by kernel_rfl) (by kernel_rfl) (by kernel_rfl) (by kernel_rfl)) h
def N8n : Fun := fun avs H =>
  match avs,H with
  | [.dat (.list (.list (.int .i64))) a],[] => ⟨_,N1v a,fun (t : (List (List Int))) => (.slc 0,[some (.nest (.int .i64) t 0 [])]),[],none⟩
  | _,_ => Ans.no
theorem Nmv : Sound Tryd.prog 26 N8n := by
  refine fn_sound' (C := N30) (c := bodyOf Tryd.f26) (cok_of tys_ok (allc Nif alln) (allc Tryd.call25 alln) (by kernel_rfl)) Tryd.func26 (by kernel_rfl) LL N1g ?_
  intro avs H r H' h
  unfold N8n at h
  split at h
  · refine Awp.cast ?_ ?_ ?_ (No6 _ h) <;> kernel_rfl
  · simp [Ans.no,Ans.run] at h

def Nej : Ann := (.seq (.leaf [1,2]) (.seq (.leaf [1,2,3]) (.seq (.leaf [1,2,3]) (.seq (.leaf [2,3]) (.seq (.leaf [2]) (.leaf [2]))))))
noncomputable def Nbd : Ctx := ⟨tlook tys,olook [(25,N6x),(26,N8n)],ioF,0,true,[]⟩
theorem Nzt (a : List Int) (b : List (List Int)) : Link Nbd LL (bodyOf Tryd.f7) Nej ⟨mkE 13 0 [(0,.agg [dL a,.dat (.list (.list (.int .i64))) b])],[]⟩ (N6g a b) (fun (t : (List Int) × (List (List Int))) => (Exit.ret,⟨mkE 13 0 [(2,.ptr 0 0)],[some (.box [.slc 1,.slc 2]),some (sI t.1),some (.nest (.int .i64) t.2 0 [])]⟩)) := .of fun K h => by
  simp only [N6g,wpW] at h
  exact .of (by kernel_rfl) h
theorem Njr (a : List Int) (b : List (List Int)) {r : AV} {H' : Heap} (h : (Ans.mk _ (Ns a b) (fun (t : (List Int) × (List (List Int))) => (.agg [.slc 1,.slc 2],[some (.box [.slc 1,.slc 2]),some (sI t.1),some (.nest (.int .i64) t.2 0 [])])) [] none).run = some (r,H')) : Awp Nbd LL (bodyOf Tryd.f7) Nej ⟨mkE 13 0 [(0,.agg [dL a,.dat (.list (.list (.int .i64))) b])],[]⟩ (Ret (tlook tys) Tryd.f7.results.toList r H') :=
  ret_of' (Nzt a b) (by unfold Ns; kernel_rfl) (by
  intro t
  exact ret_mk [.agg [.slc 1,.slc 2]] (by kernel_rfl) (by kernel_rfl) (by kernel_rfl) (by kernel_rfl)) h
def Ne7 : Fun := fun avs H =>
  match avs,H with
  | [.agg [.dat (.list (.int .i64)) a,.dat (.list (.list (.int .i64))) b]],[] => ⟨_,Ns a b,fun (t : (List Int) × (List (List Int))) => (.agg [.slc 1,.slc 2],[some (.box [.slc 1,.slc 2]),some (sI t.1),some (.nest (.int .i64) t.2 0 [])]),[],none⟩
  | _,_ => Ans.no
theorem Nyp : Sound Tryd.prog 7 Ne7 := by
  refine fn_sound' (C := Nbd) (c := bodyOf Tryd.f7) (cok_of tys_ok (allc Nif (allc Nmv alln)) (allc Tryd.call25 (allc Tryd.call26 alln)) (by kernel_rfl)) Tryd.func7 (by kernel_rfl) LL Nej ?_
  intro avs H r H' h
  unfold Ne7 at h
  split at h
  · refine Awp.cast ?_ ?_ ?_ (Njr _ _ h) <;> kernel_rfl
  · simp [Ans.no,Ans.run] at h

def Nck : Ann := (.seq (.leaf [1,2]) (.seq (.leaf [1,2,3]) (.seq (.leaf [1,2,3]) (.seq (.leaf [1,2,3]) (.seq (.leaf [2,3]) (.seq (.leaf [2]) (.leaf [2])))))))
noncomputable def Nby : Ctx := ⟨tlook tys,olook [],ioF,0,false,[]⟩
theorem Npa (a b c : Int) : Link Nby LL (bodyOf Tryd.f8) Nck ⟨mkE 14 0 [(0,.agg [dI a,dI b,dI c])],[]⟩ (N73) (fun (t : Unit) => (Exit.ret,⟨mkE 14 0 [(2,.ptr 0 0)],[some (.box [dI a,dI b,dI c])]⟩)) := .of fun K h => by
  simp only [N73,wpW] at h
  exact .of (by kernel_rfl) h
theorem Nkl (a b c : Int) {r : AV} {H' : Heap} (h : (Ans.mk _ (N3e a b c) (fun (t : Unit) => (.agg [dI a,dI b,dI c],[some (.box [dI a,dI b,dI c])])) [] none).run = some (r,H')) : Awp Nby LL (bodyOf Tryd.f8) Nck ⟨mkE 14 0 [(0,.agg [dI a,dI b,dI c])],[]⟩ (Ret (tlook tys) Tryd.f8.results.toList r H') :=
  ret_of' (Npa a b c) (by unfold N3e; kernel_rfl) (by
  intro t
  exact ret_mk [.agg [dI a,dI b,dI c]] (by kernel_rfl) (by kernel_rfl) (by kernel_rfl) (by kernel_rfl)) h
def Neu : Fun := fun avs H =>
  match avs,H with
  | [.agg [.dat (.int .i64) a,.dat (.int .i64) b,.dat (.int .i64) c]],[] => ⟨_,N3e a b c,fun (t : Unit) => (.agg [dI a,dI b,dI c],[some (.box [dI a,dI b,dI c])]),[],none⟩
  | _,_ => Ans.no
theorem Nj8 : Sound Tryd.prog 8 Neu := by
  refine fn_sound' (C := Nby) (c := bodyOf Tryd.f8) (cok_of tys_ok (alln) (alln) (by kernel_rfl)) Tryd.func8 (by kernel_rfl) LL Nck ?_
  intro avs H r H' h
  unfold Neu at h
  split at h
  · refine Awp.cast ?_ ?_ ?_ (Nkl _ _ _ h) <;> kernel_rfl
  · simp [Ans.no,Ans.run] at h

def N9v : Ann := (.seq (.leaf [0,1,2]) (.seq (.leaf [6]) (.leaf [6])))
noncomputable def Ne8 : Ctx := ⟨tlook tys,olook [],ioF,0,false,[]⟩
theorem Nxs (a b c : Int) : Link Ne8 LL (bodyOf Tryd.f39) N9v ⟨mkE 15 0 [(0,dI a),(1,dI b),(2,dI c)],[]⟩ (N6i a b c) (fun (t : Bool) => (Exit.ret,⟨mkE 15 0 [(6,dB t)],[]⟩)) := .of fun K h => by
  simp only [N6i,wpW] at h
  exact .of (by kernel_rfl) h
theorem Nsv (a b c : Int) {r : AV} {H' : Heap} (h : (Ans.mk _ (Nh a b c) (fun (t : Bool) => (dB t,[])) [] none).run = some (r,H')) : Awp Ne8 LL (bodyOf Tryd.f39) N9v ⟨mkE 15 0 [(0,dI a),(1,dI b),(2,dI c)],[]⟩ (Ret (tlook tys) Tryd.f39.results.toList r H') :=
  ret_of' (Nxs a b c) (by unfold Nh; kernel_rfl) (by
  intro t
  exact ret_mk [dB t] (by kernel_rfl) (by kernel_rfl) (by kernel_rfl) (by kernel_rfl)) h
def N42 : Fun := fun avs H =>
  match avs,H with
  | [.dat (.int .i64) a,.dat (.int .i64) b,.dat (.int .i64) c],[] => ⟨_,Nh a b c,fun (t : Bool) => (dB t,[]),[],none⟩
  | _,_ => Ans.no
theorem N8j : Sound Tryd.prog 39 N42 := by
  refine fn_sound' (C := Ne8) (c := bodyOf Tryd.f39) (cok_of tys_ok (alln) (alln) (by kernel_rfl)) Tryd.func39 (by kernel_rfl) LL N9v ?_
  intro avs H r H' h
  unfold N42 at h
  split at h
  · refine Awp.cast ?_ ?_ ?_ (Nsv _ _ _ h) <;> kernel_rfl
  · simp [Ans.no,Ans.run] at h

def N1 : Ann := (.seq (.leaf [0]) (.seq (.leaf [0,3]) (.seq (.seq (.leaf [0,3,12]) (.cond (.seq (.leaf [2]) (.leaf [2])) (.leaf [0,3]))) (.seq (.leaf [0,3,4]) (.seq (.seq (.leaf [0,3,4,5]) (.block (.loop (.seq (.seq (.leaf [0,3,4,5,15]) (.cond (.leaf [0,3,4,5]) (.leaf [4]))) (.seq (.block (.seq (.seq (.leaf [0,3,4,5,33]) (.cond (.seq (.leaf [2]) (.leaf [2])) (.leaf [0,3,4,5]))) (.seq (.seq (.leaf [0,3,4,5,38]) (.cond (.leaf [0,3,4,5]) (.leaf [0,3,4,5]))) (.seq (.leaf [0,3,4,5,6]) (.seq (.seq (.leaf [0,3,4,5,6,7]) (.block (.loop (.seq (.seq (.leaf [0,3,4,5,6,7,49]) (.cond (.leaf [0,3,4,5,6,7]) (.leaf [0,3,4,5,6]))) (.seq (.block (.seq (.leaf [0,3,4,5,6,7]) (.seq (.leaf [0,3,4,5,6,7,60]) (.cond (.seq (.leaf [2]) (.leaf [2])) (.leaf [0,3,4,5,6,7]))))) (.leaf [0,3,4,5,6,7])))))) (.seq (.leaf [0,3,4,5,62]) (.cond (.seq (.leaf [2]) (.leaf [2])) (.leaf [0,3,4,5])))))))) (.leaf [0,3,4,5])))))) (.seq (.leaf [2]) (.leaf [2])))))))
noncomputable def Nb : Ctx := ⟨tlook tys,olook [(39,N42)],ioF,0,false,[]⟩
theorem Nnb (a : List Int) : Link Nb LL (Code.seq (cq [0] (bodyOf Tryd.f24)) (Code.seq (cq [0,1] (bodyOf Tryd.f24)) (Code.seq (cq [0,1,1] (bodyOf Tryd.f24)) (cq [0,1,1,1] (bodyOf Tryd.f24))))) (Ann.seq (aq [0] N1) (Ann.seq (aq [0,1] N1) (Ann.seq (aq [0,1,1] N1) (aq [0,1,1,1] N1)))) ⟨mkE 65 0 [(0,dL a)],[]⟩ (N7k a) (Sum.elim (fun (t : Int) => (Exit.normal,⟨mkE 65 0 [(0,dL a),(3,dI t),(4,dI 0)],[]⟩)) (fun (t : Bool) => (Exit.ret,⟨mkE 65 0 [(2,dB t)],[]⟩))) := .of fun K h => by
  simp only [N7k,wpW] at h
  exact .of (by kernel_rfl) h
theorem N100 (a : List Int) (b : Int) : Link Nb LL (cq [0,0,1,1,1,1] (bodyOf Tryd.f24)) (aq [0,0,1,1,1,1] N1) ⟨mkE 65 0 [(0,dL a),(3,dI b),(4,dI 0)],[]⟩ (N5t) (fun (t : Unit) => (Exit.normal,⟨mkE 65 0 [(0,dL a),(3,dI b),(4,dI 0),(5,dI 0)],[]⟩)) := .of fun K h => by
  simp only [N5t,wpW] at h
  exact .of (by kernel_rfl) h
theorem Nxt (a : List Int) (b c d : Int) : Link Nb LL (cq [0,0,0,1,0,1,1,1,1] (bodyOf Tryd.f24)) (aq [0,0,0,1,0,1,1,1,1] N1) ⟨mkE 65 0 [(0,dL a),(3,dI b),(4,dI c),(5,dI d)],[]⟩ (N4g b c d) (Sum.elim (fun (t : Unit) => (Exit.normal,⟨mkE 65 0 [(0,dL a),(3,dI b),(4,dI c),(5,dI d)],[]⟩)) (fun (t : Int) => ((Exit.exit 0),⟨mkE 65 0 [(4,dI t)],[]⟩))) := .of fun K h => by
  simp only [N4g,wpW] at h
  exact .of (by kernel_rfl) h
theorem Nos (a : List Int) (b c d : Int) : Link Nb LL (Code.seq (cq [0,0,0,1,0,0,1,0,1,1,1,1] (bodyOf Tryd.f24)) (Code.seq (cq [0,1,0,0,1,0,0,1,0,1,1,1,1] (bodyOf Tryd.f24)) (cq [0,1,1,0,0,1,0,0,1,0,1,1,1,1] (bodyOf Tryd.f24)))) (Ann.seq (aq [0,0,0,1,0,0,1,0,1,1,1,1] N1) (Ann.seq (aq [0,1,0,0,1,0,0,1,0,1,1,1,1] N1) (aq [0,1,1,0,0,1,0,0,1,0,1,1,1,1] N1))) ⟨mkE 65 0 [(0,dL a),(3,dI b),(4,dI c),(5,dI d)],[]⟩ (N60 a b c d) (Sum.elim (fun (t : Int × Int) => (Exit.normal,⟨mkE 65 0 [(0,dL a),(3,dI b),(4,dI t.1),(5,dI d),(6,dI t.2)],[]⟩)) (fun (t : Bool) => (Exit.ret,⟨mkE 65 0 [(2,dB t)],[]⟩))) := .of fun K h => by
  simp only [N60,wpW] at h
  exact .of (by kernel_rfl) h
theorem Nqv (a : List Int) (b c d g : Int) : Link Nb LL (cq [0,0,1,1,1,0,0,1,0,0,1,0,1,1,1,1] (bodyOf Tryd.f24)) (aq [0,0,1,1,1,0,0,1,0,0,1,0,1,1,1,1] N1) ⟨mkE 65 0 [(0,dL a),(3,dI b),(4,dI c),(5,dI d),(6,dI g)],[]⟩ (N7b) (fun (t : Unit) => (Exit.normal,⟨mkE 65 0 [(0,dL a),(3,dI b),(4,dI c),(5,dI d),(6,dI g),(7,dI 0)],[]⟩)) := .of fun K h => by
  simp only [N7b,wpW] at h
  exact .of (by kernel_rfl) h
theorem Nva (a : List Int) (b c d g i : Int) : Link Nb LL (cq [0,0,1,0,1,1,1,0,0,1,0,0,1,0,1,1,1,1] (bodyOf Tryd.f24)) (aq [0,0,1,0,1,1,1,0,0,1,0,0,1,0,1,1,1,1] N1) ⟨mkE 65 0 [(0,dL a),(3,dI b),(4,dI c),(5,dI d),(6,dI g),(7,dI i)],[]⟩ (N44 a b g i) (Sum.elim (fun (t : Int × Int) => (Exit.normal,⟨mkE 65 0 [(0,dL a),(3,dI b),(4,dI c),(5,dI d),(6,dI t.1),(7,dI t.2)],[]⟩)) (Sum.elim (fun (t : Bool) => (Exit.ret,⟨mkE 65 0 [(2,dB t)],[]⟩)) (fun (t : Int) => ((Exit.exit 2),⟨mkE 65 0 [(0,dL a),(3,dI b),(4,dI c),(5,dI d),(6,dI t)],[]⟩)))) := .of fun K h => by
  simp only [N44,wpW] at h
  exact .of (by kernel_rfl) h
theorem Npd (a : List Int) (b c d g : Int) : Link Nb LL (cq [1,1,1,1,0,0,1,0,0,1,0,1,1,1,1] (bodyOf Tryd.f24)) (aq [1,1,1,1,0,0,1,0,0,1,0,1,1,1,1] N1) ⟨mkE 65 0 [(0,dL a),(3,dI b),(4,dI c),(5,dI d),(6,dI g)],[]⟩ (N5l g) (Sum.elim (fun (t : Unit) => (Exit.normal,⟨mkE 65 0 [(0,dL a),(3,dI b),(4,dI c),(5,dI d)],[]⟩)) (fun (t : Bool) => (Exit.ret,⟨mkE 65 0 [(2,dB t)],[]⟩))) := .of fun K h => by
  simp only [N5l,wpW] at h
  exact .of (by kernel_rfl) h
theorem Nxp (a : List Int) (b c d : Int) : Link Nb LL (cq [1,1,0,0,1,0,1,1,1,1] (bodyOf Tryd.f24)) (aq [1,1,0,0,1,0,1,1,1,1] N1) ⟨mkE 65 0 [(0,dL a),(3,dI b),(4,dI c),(5,dI d)],[]⟩ (N7c d) (fun (t : Int) => (Exit.normal,⟨mkE 65 0 [(0,dL a),(3,dI b),(4,dI c),(5,dI t)],[]⟩)) := .of fun K h => by
  simp only [N7c,wpW] at h
  exact .of (by kernel_rfl) h
theorem Ntn (a : Int) : Link Nb LL (cq [1,1,1,1,1] (bodyOf Tryd.f24)) (aq [1,1,1,1,1] N1) ⟨mkE 65 0 [(4,dI a)],[]⟩ (N5p a) (fun (t : Bool) => (Exit.ret,⟨mkE 65 0 [(2,dB t)],[]⟩)) := .of fun K h => by
  simp only [N5p,wpW] at h
  exact .of (by kernel_rfl) h
theorem Nm1 (b : List Int) {r : AV} {H' : Heap} (h : (Ans.mk _ (N8 b) (fun (t : Bool) => (dB t,[])) [] none).run = some (r,H')) : Awp Nb LL (bodyOf Tryd.f24) N1 ⟨mkE 65 0 [(0,dL b)],[]⟩ (Ret (tlook tys) Tryd.f24.results.toList r H') :=
  ret_of' (Link.cast (by kernel_rfl) (by kernel_rfl) (link_group (c := (cq [0,1,1,1] (bodyOf Tryd.f24))) (a := (aq [0,1,1,1] N1)) [(cq [0] (bodyOf Tryd.f24)),(cq [0,1] (bodyOf Tryd.f24)),(cq [0,1,1] (bodyOf Tryd.f24))] [(aq [0] N1),(aq [0,1] N1),(aq [0,1,1] N1)] rfl (link_seq2 (Nnb b) (fun (t : Int) => (link_seq2 (link_seq (N100 b t) (fun (t30 : Unit) => (link_block (fin2 := (Sum.elim (fun (t30 : Int) => (Exit.normal,⟨mkE 65 0 [(4,dI t30)],[]⟩)) (fun (t30 : Bool) => (Exit.ret,⟨mkE 65 0 [(2,dB t30)],[]⟩)))) (id := 0) (link_loop (mk := fun (s : Int × Int) => ⟨mkE 65 0 [(0,dL b),(3,dI t),(4,dI s.1),(5,dI s.2)],[]⟩) (fin := (Sum.elim (fun (t30 : Bool) => (Exit.ret,⟨mkE 65 0 [(2,dB t30)],[]⟩)) (fun (t30 : Int) => ((Exit.exit 0),⟨mkE 65 0 [(4,dI t30)],[]⟩)))) (by
  rintro (t30 | t30) f K h
  · exact h
  · exact h) (fun s => link_map (link_seq2 (Nxt b t s.1 s.2) (fun (t43 : Unit) => (link_map (fin2 := (Sum.elim (fun (t43 : Int × Int) => (Exit.normal,⟨mkE 65 0 [(0,dL b),(3,dI t),(4,dI t43.1),(5,dI t43.2)],[]⟩)) (Sum.elim (fun (t43 : Bool) => (Exit.ret,⟨mkE 65 0 [(2,dB t43)],[]⟩)) (fun (t43 : Int) => ((Exit.exit 0),⟨mkE 65 0 [(4,dI t43)],[]⟩))))) (link_seq2 (link_block (fin2 := (Sum.elim (fun (t43 : Int) => (Exit.normal,⟨mkE 65 0 [(0,dL b),(3,dI t),(4,dI t43),(5,dI s.2)],[]⟩)) (fun (t43 : Bool) => (Exit.ret,⟨mkE 65 0 [(2,dB t43)],[]⟩)))) (id := 1) (link_group (c := (cq [0,1,1,0,0,1,0,0,1,0,1,1,1,1] (bodyOf Tryd.f24))) (a := (aq [0,1,1,0,0,1,0,0,1,0,1,1,1,1] N1)) [(cq [0,0,0,1,0,0,1,0,1,1,1,1] (bodyOf Tryd.f24)),(cq [0,1,0,0,1,0,0,1,0,1,1,1,1] (bodyOf Tryd.f24))] [(aq [0,0,0,1,0,0,1,0,1,1,1,1] N1),(aq [0,1,0,0,1,0,0,1,0,1,1,1,1] N1)] rfl (link_seq2 (Nos b t s.1 s.2) (fun (t43 : Int × Int) => (link_map (fin2 := (Sum.elim (fun (t43 : Int) => (Exit.normal,⟨mkE 65 0 [(0,dL b),(3,dI t),(4,dI t43),(5,dI s.2)],[]⟩)) (fun (t43 : Bool) => (Exit.ret,⟨mkE 65 0 [(2,dB t43)],[]⟩)))) (link_seq2 (link_seq (Nqv b t t43.1 s.2 t43.2) (fun (t29 : Unit) => (link_block (fin2 := (Sum.elim (fun (t29 : Int) => (Exit.normal,⟨mkE 65 0 [(0,dL b),(3,dI t),(4,dI t43.1),(5,dI s.2),(6,dI t29)],[]⟩)) (fun (t29 : Bool) => (Exit.ret,⟨mkE 65 0 [(2,dB t29)],[]⟩)))) (id := 2) (link_loop (mk := fun (s42 : Int × Int) => ⟨mkE 65 0 [(0,dL b),(3,dI t),(4,dI t43.1),(5,dI s.2),(6,dI s42.1),(7,dI s42.2)],[]⟩) (fin := (Sum.elim (fun (t29 : Bool) => (Exit.ret,⟨mkE 65 0 [(2,dB t29)],[]⟩)) (fun (t29 : Int) => ((Exit.exit 2),⟨mkE 65 0 [(0,dL b),(3,dI t),(4,dI t43.1),(5,dI s.2),(6,dI t29)],[]⟩)))) (by
  rintro (t29 | t29) f K h
  · exact h
  · exact h) (fun s42 => link_map (Nva b t t43.1 s.2 s42.1 s42.2) (Sum.elim (fun (t29 : Int × Int) => Sum.inl (t29.1,t29.2)) (Sum.elim (fun (t29 : Bool) => Sum.inr (Sum.inl t29)) (fun (t29 : Int) => Sum.inr (Sum.inr t29)))) (by
  rintro (t29 | t29 | t29)
  · kernel_rfl
  · kernel_rfl
  · kernel_rfl)) (t43.2,0)) (Sum.elim (fun (t29 : Bool) => (Sum.inr t29)) (fun (t29 : Int) => (Sum.inl t29))) (by
  rintro (t29 | t29) K h
  · exact Eq.mp (by kernel_rfl) h
  · exact Eq.mp (by kernel_rfl) h)))) (fun (t29 : Int) => (Npd b t t43.1 s.2 t29)) (fun (t29 : Bool) => (Sum.inr t29)) (by
  rintro t29
  · kernel_rfl) (by
  rintro t29 f K h
  · exact h)) (Sum.elim (fun (u : Unit) => (Sum.inl t43.1)) (fun (u : Bool) => (Sum.inr u))) (by
  rintro (t43 | t43)
  · kernel_rfl
  · kernel_rfl))) (fun (t43 : Bool) => (Sum.inr t43)) (by
  rintro t43
  · kernel_rfl) (by
  rintro t43 f K h
  · exact h))) (Sum.elim (fun (t43 : Int) => (Sum.inl t43)) (fun (t43 : Bool) => (Sum.inr t43))) (by
  rintro (t43 | t43) K h
  · exact Eq.mp (by kernel_rfl) h
  · exact Eq.mp (by kernel_rfl) h)) (fun (t43 : Int) => (link_map (fin2 := (Sum.elim (fun (t43 : Int × Int) => (Exit.normal,⟨mkE 65 0 [(0,dL b),(3,dI t),(4,dI t43.1),(5,dI t43.2)],[]⟩)) (fun (t43 : Bool) => (Exit.ret,⟨mkE 65 0 [(2,dB t43)],[]⟩)))) (Nxp b t t43 s.2) (fun (u : Int) => (Sum.inl (t43,u))) (by
  rintro t43
  · kernel_rfl))) (fun (t43 : Bool) => (Sum.inr t43)) (by
  rintro t43
  · kernel_rfl) (by
  rintro t43 f K h
  · exact h)) (Sum.elim (fun (t43 : Int × Int) => (Sum.inl (t43.1,t43.2))) (fun (t43 : Bool) => (Sum.inr (Sum.inl t43)))) (by
  rintro (t43 | t43)
  · kernel_rfl
  · kernel_rfl))) (fun (t43 : Int) => (Sum.inr (Sum.inr t43))) (by
  rintro t43
  · kernel_rfl) (by
  rintro t43 f K h
  · exact h)) (Sum.elim (fun (t30 : Int × Int) => Sum.inl (t30.1,t30.2)) (Sum.elim (fun (t30 : Bool) => Sum.inr (Sum.inl t30)) (fun (t30 : Int) => Sum.inr (Sum.inr t30)))) (by
  rintro (t30 | t30 | t30)
  · kernel_rfl
  · kernel_rfl
  · kernel_rfl)) (0,0)) (Sum.elim (fun (t30 : Bool) => (Sum.inr t30)) (fun (t30 : Int) => (Sum.inl t30))) (by
  rintro (t30 | t30) K h
  · exact Eq.mp (by kernel_rfl) h
  · exact Eq.mp (by kernel_rfl) h)))) (fun (t30 : Int) => (Ntn t30)) (fun (t30 : Bool) => t30) (by
  rintro t30
  · kernel_rfl) (by
  rintro t30 f K h
  · exact h))) (fun (t : Bool) => t) (by
  rintro t
  · kernel_rfl) (by
  rintro t f K h
  · exact h)))) (by unfold N8; kernel_rfl) (by
  intro t
  exact ret_mk [dB t] (by kernel_rfl) (by kernel_rfl) (by kernel_rfl) (by kernel_rfl)) h
def N1m : Fun := fun avs H =>
  match avs,H with
  | [.dat (.list (.int .i64)) a],[] => ⟨_,N8 a,fun (t : Bool) => (dB t,[]),[],none⟩
  | _,_ => Ans.no
theorem N2g : Sound Tryd.prog 24 N1m := by
  refine fn_sound' (C := Nb) (c := bodyOf Tryd.f24) (cok_of tys_ok (allc N8j alln) (allc Tryd.call39 alln) (by kernel_rfl)) Tryd.func24 (by kernel_rfl) LL N1 ?_
  intro avs H r H' h
  unfold N1m at h
  split at h
  · refine Awp.cast ?_ ?_ ?_ (Nm1 _ h) <;> kernel_rfl
  · simp [Ans.no,Ans.run] at h

def N2k : Ann := (.seq (.leaf [1]) (.seq (.seq (.leaf [1,3]) (.block (.loop (.seq (.seq (.leaf [1,3,8]) (.cond (.leaf [1,3]) (.leaf [1]))) (.seq (.block (.seq (.leaf [1,3,17]) (.cond (.seq (.leaf [2]) (.leaf [2])) (.leaf [1,3])))) (.leaf [1,3])))))) (.seq (.leaf [2]) (.leaf [2]))))
noncomputable def N3o : Ctx := ⟨tlook tys,olook [(24,N1m)],ioF,0,false,[]⟩
theorem Nkh (a : List Int) (b : List (List Int)) : Link N3o LL (cq [0] (bodyOf Tryd.f21)) (aq [0] N2k) ⟨mkE 27 0 [(0,.agg [dL a,.dat (.list (.list (.int .i64))) b])],[]⟩ (N8d) (fun (t : Unit) => (Exit.normal,⟨mkE 27 0 [(1,.ptr 0 0)],[some (.box [dL a,.dat (.list (.list (.int .i64))) b])]⟩)) := .of fun K h => by
  simp only [N8d,wpW] at h
  exact .of (by kernel_rfl) h
theorem Nss (a : List Int) (b : List (List Int)) : Link N3o LL (cq [0,0,1] (bodyOf Tryd.f21)) (aq [0,0,1] N2k) ⟨mkE 27 0 [(1,.ptr 0 0)],[some (.box [dL a,.dat (.list (.list (.int .i64))) b])]⟩ (N5o) (fun (t : Unit) => (Exit.normal,⟨mkE 27 0 [(1,.ptr 0 0),(3,dI 0)],[some (.box [dL a,.dat (.list (.list (.int .i64))) b])]⟩)) := .of fun K h => by
  simp only [N5o,wpW] at h
  exact .of (by kernel_rfl) h
theorem Nqr (a : Int) (b : List Int) (c : List (List Int)) : Link N3o LL (cq [0,0,1,0,1] (bodyOf Tryd.f21)) (aq [0,0,1,0,1] N2k) ⟨mkE 27 0 [(1,.ptr 0 0),(3,dI a)],[some (.box [dL b,.dat (.list (.list (.int .i64))) c])]⟩ (N25 a c) (Sum.elim (fun (t : Int) => (Exit.normal,⟨mkE 27 0 [(1,.ptr 0 0),(3,dI t)],[some (.box [dL b,.dat (.list (.list (.int .i64))) c])]⟩)) (Sum.elim (fun (t : Bool) => (Exit.ret,⟨mkE 27 0 [(2,dB t)],[]⟩)) (fun (t : Unit) => ((Exit.exit 0),⟨mkE 27 0 [(1,.ptr 0 0)],[some (.box [dL b,.dat (.list (.list (.int .i64))) c])]⟩)))) := .of fun K h => by
  simp only [N25,wpW] at h
  exact .of (by kernel_rfl) h
theorem N105 (a : List Int) (b : List (List Int)) : Link N3o LL (cq [1,1] (bodyOf Tryd.f21)) (aq [1,1] N2k) ⟨mkE 27 0 [(1,.ptr 0 0)],[some (.box [dL a,.dat (.list (.list (.int .i64))) b])]⟩ (N5u a b) (fun (t : Bool) => (Exit.ret,⟨mkE 27 0 [(2,dB t)],[]⟩)) := .of fun K h => by
  simp only [N5u,wpW] at h
  exact .of (by kernel_rfl) h
theorem Nqi (a : List Int) (b : List (List Int)) {r : AV} {H' : Heap} (h : (Ans.mk _ (N1r a b) (fun (t : Bool) => (dB t,[])) [] none).run = some (r,H')) : Awp N3o LL (bodyOf Tryd.f21) N2k ⟨mkE 27 0 [(0,.agg [dL a,.dat (.list (.list (.int .i64))) b])],[]⟩ (Ret (tlook tys) Tryd.f21.results.toList r H') :=
  ret_of' (Link.cast (by kernel_rfl) (by kernel_rfl) (link_seq (Nkh a b) (fun (t : Unit) => (link_seq2 (link_seq (Nss a b) (fun (t : Unit) => (link_block (fin2 := (Sum.elim (fun (t : Unit) => (Exit.normal,⟨mkE 27 0 [(1,.ptr 0 0)],[some (.box [dL a,.dat (.list (.list (.int .i64))) b])]⟩)) (fun (t : Bool) => (Exit.ret,⟨mkE 27 0 [(2,dB t)],[]⟩)))) (id := 0) (link_loop (mk := fun (s : Int) => ⟨mkE 27 0 [(1,.ptr 0 0),(3,dI s)],[some (.box [dL a,.dat (.list (.list (.int .i64))) b])]⟩) (fin := (Sum.elim (fun (t : Bool) => (Exit.ret,⟨mkE 27 0 [(2,dB t)],[]⟩)) (fun (t : Unit) => ((Exit.exit 0),⟨mkE 27 0 [(1,.ptr 0 0)],[some (.box [dL a,.dat (.list (.list (.int .i64))) b])]⟩)))) (by
  rintro (t | t) f K h
  · exact h
  · exact h) (fun s => link_map (Nqr s a b) (Sum.elim (fun (t : Int) => Sum.inl t) (Sum.elim (fun (t : Bool) => Sum.inr (Sum.inl t)) (fun (t : Unit) => Sum.inr (Sum.inr t)))) (by
  rintro (t | t | t)
  · kernel_rfl
  · kernel_rfl
  · kernel_rfl)) 0) (Sum.elim (fun (t : Bool) => (Sum.inr t)) (fun (t : Unit) => (Sum.inl ()))) (by
  rintro (t | t) K h
  · exact Eq.mp (by kernel_rfl) h
  · exact Eq.mp (by kernel_rfl) h)))) (fun (t : Unit) => (N105 a b)) (fun (t : Bool) => t) (by
  rintro t
  · kernel_rfl) (by
  rintro t f K h
  · exact h))))) (by unfold N1r; kernel_rfl) (by
  intro t
  exact ret_mk [dB t] (by kernel_rfl) (by kernel_rfl) (by kernel_rfl) (by kernel_rfl)) h
def N6k : Fun := fun avs H =>
  match avs,H with
  | [.agg [.dat (.list (.int .i64)) a,.dat (.list (.list (.int .i64))) b]],[] => ⟨_,N1r a b,fun (t : Bool) => (dB t,[]),[],none⟩
  | _,_ => Ans.no
theorem Ngb : Sound Tryd.prog 21 N6k := by
  refine fn_sound' (C := N3o) (c := bodyOf Tryd.f21) (cok_of tys_ok (allc N2g alln) (allc Tryd.call24 alln) (by kernel_rfl)) Tryd.func21 (by kernel_rfl) LL N2k ?_
  intro avs H r H' h
  unfold N6k at h
  split at h
  · refine Awp.cast ?_ ?_ ?_ (Nqi _ _ h) <;> kernel_rfl
  · simp [Ans.no,Ans.run] at h

def Nu : Ann := (.seq (.leaf [1,2]) (.seq (.leaf [1,2,3]) (.seq (.seq (.leafF [⟨1,3,true,some 1,some (.int .i64)⟩] [1,2,3,4]) (.block (.loop (.seq (.seq (.leaf [1,2,3,4,14]) (.cond (.leaf [1,2,3,4]) (.leaf [2,3]))) (.seq (.block (.draw [8,2,100010] [0,1,2,3,4,5,6,7,8,9,10,11,12] [] [1,2,3,4])) (.leaf [1,2,3,4])))))) (.seq (.leaf [2]) (.leaf [2])))))
noncomputable def N3j : Ctx := ⟨tlook tys,olook [],ioF,0,true,[]⟩
theorem Nzf (a : List Int) (b : List (List Int)) : Link N3j LL (Code.seq (cq [0] (bodyOf Tryd.f22)) (cq [0,1] (bodyOf Tryd.f22))) (Ann.seq (aq [0] Nu) (aq [0,1] Nu)) ⟨mkE 30 0 [(0,.agg [dL a,.dat (.list (.list (.int .i64))) b])],[]⟩ (N6q a) (fun (t : (List Int)) => (Exit.normal,⟨mkE 30 0 [(1,.ptr 0 0),(2,.ptr 1 0),(3,.ptr 2 0)],[some (.box [dL a,.dat (.list (.list (.int .i64))) b]),some (.box [.nils,.nils]),some (.box [.slc 3,.nils]),some (sI t)]⟩)) := .of fun K h => by
  simp only [N6q,wpW] at h
  exact .of (by kernel_rfl) h
theorem Nob (a : List Int) (b : List (List Int)) (c : List Int) : Link N3j LL (cq [0,0,1,1] (bodyOf Tryd.f22)) (aq [0,0,1,1] Nu) ⟨mkE 30 0 [(1,.ptr 0 0),(2,.ptr 1 0),(3,.ptr 2 0)],[some (.box [dL a,.dat (.list (.list (.int .i64))) b]),some (.box [.nils,.nils]),some (.box [.slc 3,.nils]),some (sI c)]⟩ (N65) (fun (t : Unit) => (Exit.normal,⟨mkE 30 0 [(1,.ptr 0 0),(2,.ptr 1 0),(3,.ptr 2 0),(4,dI 0)],[some (.box [dL a,.dat (.list (.list (.int .i64))) b]),some (.box [.nils,.nils]),some (.box [.slc 3,.slc 4]),some (sI c),some (.nest (.int .i64) ([] : List (List Int)) 0 [])]⟩)) := .of fun K h => by
  simp only [N65,wpW] at h
  exact .of (by kernel_rfl) h
theorem Npq (a : Int) (b : List Int) (c : List (List Int)) (d : List Int) (g : List (List Int)) : Link N3j LL (cq [0,0,1,0,1,1] (bodyOf Tryd.f22)) (aq [0,0,1,0,1,1] Nu) ⟨mkE 30 0 [(1,.ptr 0 0),(2,.ptr 1 0),(3,.ptr 2 0),(4,dI a)],[some (.box [dL b,.dat (.list (.list (.int .i64))) c]),some (.box [.nils,.nils]),some (.box [.slc 3,.slc 4]),some (sI d),some (.nest (.int .i64) g 0 [])]⟩ (N36 a c g) (Sum.elim (fun (t : Int × (List (List Int))) => (Exit.normal,⟨mkE 30 0 [(1,.ptr 0 0),(2,.ptr 1 0),(3,.ptr 2 0),(4,dI t.1)],[some (.box [dL b,.dat (.list (.list (.int .i64))) c]),some (.box [.nils,.nils]),some (.box [.slc 3,.slc 4]),some (sI d),some (.nest (.int .i64) t.2 0 [])]⟩)) (fun (t : (List (List Int))) => ((Exit.exit 0),⟨mkE 30 0 [(2,.ptr 0 0),(3,.ptr 1 0)],[some (.box [.nils,.nils]),some (.box [.slc 2,.slc 3]),some (sI d),some (.nest (.int .i64) t 0 [])]⟩))) := .of fun K h => by
  simp only [N36,wpW] at h
  exact .of (by kernel_rfl) h
theorem Nya (a : List Int) (b : List (List Int)) : Link N3j LL (cq [1,1,1] (bodyOf Tryd.f22)) (aq [1,1,1] Nu) ⟨mkE 30 0 [(2,.ptr 0 0),(3,.ptr 1 0)],[some (.box [.nils,.nils]),some (.box [.slc 2,.slc 3]),some (sI a),some (.nest (.int .i64) b 0 [])]⟩ (N4s a b) (fun (t : (List Int) × (List (List Int))) => (Exit.ret,⟨mkE 30 0 [(2,.ptr 0 0)],[some (.box [.slc 1,.slc 2]),some (sI t.1),some (.nest (.int .i64) t.2 0 [])]⟩)) := .of fun K h => by
  simp only [N4s,wpW] at h
  exact .of (by kernel_rfl) h
theorem Nvl (b : List Int) (d : List (List Int)) {r : AV} {H' : Heap} (h : (Ans.mk _ (N1l b d) (fun (t : (List Int) × (List (List Int))) => (.agg [.slc 1,.slc 2],[some (.box [.slc 1,.slc 2]),some (sI t.1),some (.nest (.int .i64) t.2 0 [])])) [] none).run = some (r,H')) : Awp N3j LL (bodyOf Tryd.f22) Nu ⟨mkE 30 0 [(0,.agg [dL b,.dat (.list (.list (.int .i64))) d])],[]⟩ (Ret (tlook tys) Tryd.f22.results.toList r H') :=
  ret_of' (Link.cast (by kernel_rfl) (by kernel_rfl) (link_group (c := (cq [0,1] (bodyOf Tryd.f22))) (a := (aq [0,1] Nu)) [(cq [0] (bodyOf Tryd.f22))] [(aq [0] Nu)] rfl (link_seq (Nzf b d) (fun (t : (List Int)) => (link_seq (link_seq (Nob b d t) (fun (t31 : Unit) => (link_block (fin2 := (fun (t31 : (List (List Int))) => (Exit.normal,⟨mkE 30 0 [(2,.ptr 0 0),(3,.ptr 1 0)],[some (.box [.nils,.nils]),some (.box [.slc 2,.slc 3]),some (sI t),some (.nest (.int .i64) t31 0 [])]⟩))) (id := 0) (link_loop (mk := fun (s : Int × (List (List Int))) => ⟨mkE 30 0 [(1,.ptr 0 0),(2,.ptr 1 0),(3,.ptr 2 0),(4,dI s.1)],[some (.box [dL b,.dat (.list (.list (.int .i64))) d]),some (.box [.nils,.nils]),some (.box [.slc 3,.slc 4]),some (sI t),some (.nest (.int .i64) s.2 0 [])]⟩) (fin := (fun (t31 : (List (List Int))) => ((Exit.exit 0),⟨mkE 30 0 [(2,.ptr 0 0),(3,.ptr 1 0)],[some (.box [.nils,.nils]),some (.box [.slc 2,.slc 3]),some (sI t),some (.nest (.int .i64) t31 0 [])]⟩))) (by
  rintro t31 f K h
  · exact h) (fun s => link_map (Npq s.1 b d t s.2) (Sum.elim (fun (t31 : Int × (List (List Int))) => Sum.inl (t31.1,t31.2)) (fun (t31 : (List (List Int))) => Sum.inr t31)) (by
  rintro (t31 | t31)
  · kernel_rfl
  · kernel_rfl)) (0,([] : List (List Int)))) (fun (t31 : (List (List Int))) => t31) (by
  rintro t31 K h
  · exact Eq.mp (by kernel_rfl) h)))) (fun (t31 : (List (List Int))) => (Nya t t31))))))) (by unfold N1l; kernel_rfl) (by
  intro t
  exact ret_mk [.agg [.slc 1,.slc 2]] (by kernel_rfl) (by kernel_rfl) (by kernel_rfl) (by kernel_rfl)) h
def N56 : Fun := fun avs H =>
  match avs,H with
  | [.agg [.dat (.list (.int .i64)) a,.dat (.list (.list (.int .i64))) b]],[] => ⟨_,N1l a b,fun (t : (List Int) × (List (List Int))) => (.agg [.slc 1,.slc 2],[some (.box [.slc 1,.slc 2]),some (sI t.1),some (.nest (.int .i64) t.2 0 [])]),[],none⟩
  | _,_ => Ans.no
theorem Ni8 : Sound Tryd.prog 22 N56 := by
  refine fn_sound' (C := N3j) (c := bodyOf Tryd.f22) (cok_of tys_ok (alln) (alln) (by kernel_rfl)) Tryd.func22 (by kernel_rfl) LL Nu ?_
  intro avs H r H' h
  unfold N56 at h
  split at h
  · refine Awp.cast ?_ ?_ ?_ (Nvl _ _ h) <;> kernel_rfl
  · simp [Ans.no,Ans.run] at h

def Nd : Ann := (.seq (.leaf [0]) (.seq (.leaf [0,3]) (.seq (.leaf [0,3,4]) (.seq (.seq (.leaf [0,3,4,5]) (.block (.loop (.seq (.seq (.leaf [0,3,4,5,16]) (.cond (.leaf [0,3,4,5]) (.leaf [3]))) (.seq (.block (.seq (.leaf [0,3,4,5,23]) (.cond (.leaf [0,3,4,5]) (.leaf [0,3,4,5])))) (.leaf [0,3,4,5])))))) (.seq (.leaf [2]) (.leaf [2]))))))
noncomputable def N3k : Ctx := ⟨tlook tys,olook [(24,N1m)],ioF,0,false,[]⟩
theorem Nql (a : List Int) : Link N3k LL (Code.seq (cq [0] (bodyOf Tryd.f40)) (Code.seq (cq [0,1] (bodyOf Tryd.f40)) (cq [0,1,1] (bodyOf Tryd.f40)))) (Ann.seq (aq [0] Nd) (Ann.seq (aq [0,1] Nd) (aq [0,1,1] Nd))) ⟨mkE 38 0 [(0,dL a)],[]⟩ (N7t a) (fun (t : Int) => (Exit.normal,⟨mkE 38 0 [(0,dL a),(3,.slc 0),(4,dI t)],[some (sI ([] : List Int))]⟩)) := .of fun K h => by
  simp only [N7t,wpW] at h
  exact .of (by kernel_rfl) h
theorem Nyj (a : List Int) (b : Int) : Link N3k LL (cq [0,0,1,1,1] (bodyOf Tryd.f40)) (aq [0,0,1,1,1] Nd) ⟨mkE 38 0 [(0,dL a),(3,.slc 0),(4,dI b)],[some (sI ([] : List Int))]⟩ (N79 b) (fun (t : Int) => (Exit.normal,⟨mkE 38 0 [(0,dL a),(3,.slc 0),(4,dI b),(5,dI t)],[some (sI ([] : List Int))]⟩)) := .of fun K h => by
  simp only [N79,wpW] at h
  exact .of (by kernel_rfl) h
theorem Nqd (a : List Int) (b c : Int) (d : List Int) : Link N3k LL (cq [0,0,1,0,1,1,1] (bodyOf Tryd.f40)) (aq [0,0,1,0,1,1,1] Nd) ⟨mkE 38 0 [(0,dL a),(3,.slc 0),(4,dI b),(5,dI c)],[some (sI d)]⟩ (N1k a b c d) (Sum.elim (fun (t : Int × (List Int)) => (Exit.normal,⟨mkE 38 0 [(0,dL a),(3,.slc 0),(4,dI b),(5,dI t.1)],[some (sI t.2)]⟩)) (fun (t : (List Int)) => ((Exit.exit 0),⟨mkE 38 0 [(3,.slc 0)],[some (sI t)]⟩))) := .of fun K h => by
  simp only [N1k,wpW] at h
  exact .of (by kernel_rfl) h
theorem Nyl (a : List Int) : Link N3k LL (cq [1,1,1,1] (bodyOf Tryd.f40)) (aq [1,1,1,1] Nd) ⟨mkE 38 0 [(3,.slc 0)],[some (sI a)]⟩ (N66 a) (fun (t : (List Int)) => (Exit.ret,⟨mkE 38 0 [(2,.slc 0)],[some (sI t)]⟩)) := .of fun K h => by
  simp only [N66,wpW] at h
  exact .of (by kernel_rfl) h
theorem Np5 (b : List Int) {r : AV} {H' : Heap} (h : (Ans.mk _ (N10 b) (fun (t : (List Int)) => (.slc 0,[some (sI t)])) [] none).run = some (r,H')) : Awp N3k LL (bodyOf Tryd.f40) Nd ⟨mkE 38 0 [(0,dL b)],[]⟩ (Ret (tlook tys) Tryd.f40.results.toList r H') :=
  ret_of' (Link.cast (by kernel_rfl) (by kernel_rfl) (link_group (c := (cq [0,1,1] (bodyOf Tryd.f40))) (a := (aq [0,1,1] Nd)) [(cq [0] (bodyOf Tryd.f40)),(cq [0,1] (bodyOf Tryd.f40))] [(aq [0] Nd),(aq [0,1] Nd)] rfl (link_seq (Nql b) (fun (t : Int) => (link_seq (link_seq (Nyj b t) (fun (t32 : Int) => (link_block (fin2 := (fun (t7 : (List Int)) => (Exit.normal,⟨mkE 38 0 [(3,.slc 0)],[some (sI t7)]⟩))) (id := 0) (link_loop (mk := fun (s : Int × (List Int)) => ⟨mkE 38 0 [(0,dL b),(3,.slc 0),(4,dI t),(5,dI s.1)],[some (sI s.2)]⟩) (fin := (fun (t7 : (List Int)) => ((Exit.exit 0),⟨mkE 38 0 [(3,.slc 0)],[some (sI t7)]⟩))) (by
  rintro t7 f K h
  · exact h) (fun s => link_map (Nqd b t s.1 s.2) (Sum.elim (fun (t7 : Int × (List Int)) => Sum.inl (t7.1,t7.2)) (fun (t7 : (List Int)) => Sum.inr t7)) (by
  rintro (t7 | t7)
  · kernel_rfl
  · kernel_rfl)) (t32,([] : List Int))) (fun (t7 : (List Int)) => t7) (by
  rintro t7 K h
  · exact Eq.mp (by kernel_rfl) h)))) (fun (t32 : (List Int)) => (Nyl t32))))))) (by unfold N10; kernel_rfl) (by
  intro t
  exact ret_mk [.slc 0] (by kernel_rfl) (by kernel_rfl) (by kernel_rfl) (by kernel_rfl)) h
def Ndt : Fun := fun avs H =>
  match avs,H with
  | [.dat (.list (.int .i64)) a],[] => ⟨_,N10 a,fun (t : (List Int)) => (.slc 0,[some (sI t)]),[],none⟩
  | _,_ => Ans.no
theorem Npx : Sound Tryd.prog 40 Ndt := by
  refine fn_sound' (C := N3k) (c := bodyOf Tryd.f40) (cok_of tys_ok (allc N2g alln) (allc Tryd.call24 alln) (by kernel_rfl)) Tryd.func40 (by kernel_rfl) LL Nd ?_
  intro avs H r H' h
  unfold Ndt at h
  split at h
  · refine Awp.cast ?_ ?_ ?_ (Np5 _ h) <;> kernel_rfl
  · simp [Ans.no,Ans.run] at h

def N2r : Ann := (.seq (.leaf [0]) (.seq (.seq (.leaf [0,3]) (.block (.loop (.seq (.seq (.leaf [0,3,11]) (.cond (.leaf [0,3]) (.leaf []))) (.seq (.block (.seq (.leaf [0,3,18]) (.cond (.seq (.leaf [2]) (.leaf [2])) (.leaf [0,3])))) (.leaf [0,3])))))) (.seq (.leaf [2]) (.leaf [2]))))
noncomputable def N3s : Ctx := ⟨tlook tys,olook [(24,N1m)],ioF,0,false,[]⟩
theorem Nt4 (a : List Int) : Link N3s LL (cq [0] (bodyOf Tryd.f57)) (aq [0] N2r) ⟨mkE 21 0 [(0,dL a)],[]⟩ (N7e) (fun (t : Unit) => (Exit.normal,⟨mkE 21 0 [(0,dL a)],[]⟩)) := .of fun K h => by
  simp only [N7e,wpW] at h
  exact .of (by kernel_rfl) h
theorem Nvb (a : List Int) : Link N3s LL (cq [0,0,1] (bodyOf Tryd.f57)) (aq [0,0,1] N2r) ⟨mkE 21 0 [(0,dL a)],[]⟩ (N77) (fun (t : Unit) => (Exit.normal,⟨mkE 21 0 [(0,dL a),(3,dI 0)],[]⟩)) := .of fun K h => by
  simp only [N77,wpW] at h
  exact .of (by kernel_rfl) h
theorem Nqk (a : List Int) (b : Int) : Link N3s LL (cq [0,0,1,0,1] (bodyOf Tryd.f57)) (aq [0,0,1,0,1] N2r) ⟨mkE 21 0 [(0,dL a),(3,dI b)],[]⟩ (N27 a b) (Sum.elim (fun (t : Int) => (Exit.normal,⟨mkE 21 0 [(0,dL a),(3,dI t)],[]⟩)) (Sum.elim (fun (t : Int) => (Exit.ret,⟨mkE 21 0 [(2,dI t)],[]⟩)) (fun (t : Unit) => ((Exit.exit 0),⟨mkE 21 0 [],[]⟩)))) := .of fun K h => by
  simp only [N27,wpW] at h
  exact .of (by kernel_rfl) h
theorem Nof : Link N3s LL (cq [1,1] (bodyOf Tryd.f57)) (aq [1,1] N2r) ⟨mkE 21 0 [],[]⟩ (N6y) (fun (t : Int) => (Exit.ret,⟨mkE 21 0 [(2,dI t)],[]⟩)) := .of fun K h => by
  simp only [N6y,wpW] at h
  exact .of (by kernel_rfl) h
theorem Nwg (a : List Int) {r : AV} {H' : Heap} (h : (Ans.mk _ (N2o a) (fun (t : Int) => (dI t,[])) [] none).run = some (r,H')) : Awp N3s LL (bodyOf Tryd.f57) N2r ⟨mkE 21 0 [(0,dL a)],[]⟩ (Ret (tlook tys) Tryd.f57.results.toList r H') :=
  ret_of' (Link.cast (by kernel_rfl) (by kernel_rfl) (link_seq (Nt4 a) (fun (t : Unit) => (link_seq2 (link_seq (Nvb a) (fun (t : Unit) => (link_block (fin2 := (Sum.elim (fun (t : Unit) => (Exit.normal,⟨mkE 21 0 [],[]⟩)) (fun (t : Int) => (Exit.ret,⟨mkE 21 0 [(2,dI t)],[]⟩)))) (id := 0) (link_loop (mk := fun (s : Int) => ⟨mkE 21 0 [(0,dL a),(3,dI s)],[]⟩) (fin := (Sum.elim (fun (t : Int) => (Exit.ret,⟨mkE 21 0 [(2,dI t)],[]⟩)) (fun (t : Unit) => ((Exit.exit 0),⟨mkE 21 0 [],[]⟩)))) (by
  rintro (t | t) f K h
  · exact h
  · exact h) (fun s => link_map (Nqk a s) (Sum.elim (fun (t : Int) => Sum.inl t) (Sum.elim (fun (t : Int) => Sum.inr (Sum.inl t)) (fun (t : Unit) => Sum.inr (Sum.inr t)))) (by
  rintro (t | t | t)
  · kernel_rfl
  · kernel_rfl
  · kernel_rfl)) 0) (Sum.elim (fun (t : Int) => (Sum.inr t)) (fun (t : Unit) => (Sum.inl ()))) (by
  rintro (t | t) K h
  · exact Eq.mp (by kernel_rfl) h
  · exact Eq.mp (by kernel_rfl) h)))) (fun (t : Unit) => (Nof)) (fun (t : Int) => t) (by
  rintro t
  · kernel_rfl) (by
  rintro t f K h
  · exact h))))) (by unfold N2o; kernel_rfl) (by
  intro t
  exact ret_mk [dI t] (by kernel_rfl) (by kernel_rfl) (by kernel_rfl) (by kernel_rfl)) h
def N93 : Fun := fun avs H =>
  match avs,H with
  | [.dat (.list (.int .i64)) a],[] => ⟨_,N2o a,fun (t : Int) => (dI t,[]),[],none⟩
  | _,_ => Ans.no
theorem Nxu : Sound Tryd.prog 57 N93 := by
  refine fn_sound' (C := N3s) (c := bodyOf Tryd.f57) (cok_of tys_ok (allc N2g alln) (allc Tryd.call24 alln) (by kernel_rfl)) Tryd.func57 (by kernel_rfl) LL N2r ?_
  intro avs H r H' h
  unfold N93 at h
  split at h
  · refine Awp.cast ?_ ?_ ?_ (Nwg _ h) <;> kernel_rfl
  · simp [Ans.no,Ans.run] at h

def Na : Ann := (.seq (.leaf [0,1]) (.seq (.leaf [0,1,5]) (.seq (.seq (.leaf [0,1,5,6]) (.block (.loop (.seq (.seq (.leaf [0,1,5,6,11]) (.cond (.leaf [0,1,5,6]) (.leaf [0,1,5]))) (.seq (.block (.seq (.leaf [0,1,5,6,20]) (.cond (.leaf [0,1,5,6]) (.leaf [0,1,5,6])))) (.leaf [0,1,5,6])))))) (.seq (.leaf [0,1,5]) (.seq (.seq (.leaf [0,1,5,7]) (.block (.loop (.seq (.seq (.leaf [0,1,5,7,35]) (.cond (.leaf [0,1,5,7]) (.leaf [5]))) (.seq (.block (.seq (.leaf [0,1,5,7,44]) (.cond (.leaf [0,1,5,7]) (.leaf [0,1,5,7])))) (.leaf [0,1,5,7])))))) (.seq (.leaf [4]) (.leaf [4])))))))
def N1i (n : Nat) : Fun := fun avs H =>
  match avs,H with
  | [.dat (.list (.int .i64)) a,.dat (.int .i64) b],[] => ⟨_,N5 n a b,fun (t : (List Int)) => (.slc 0,[some (sI t)]),[],none⟩
  | _,_ => Ans.no
noncomputable def N14 (n : Nat) : Ctx := ⟨tlook tys,olook [(56,N1i n)],ioF,0,false,[]⟩
theorem Ntg (n : Nat) (a : List Int) (b : Int) : Link (N14 n) LL (Code.seq (cq [0] (bodyOf Tryd.f56)) (cq [0,1] (bodyOf Tryd.f56))) (Ann.seq (aq [0] Na) (aq [0,1] Na)) ⟨mkE 51 0 [(0,dL a),(1,dI b)],[]⟩ (N5q (N5 n)) (fun (t : Unit) => (Exit.normal,⟨mkE 51 0 [(0,dL a),(1,dI b),(5,.slc 0)],[some (sI ([] : List Int))]⟩)) := .of fun K h => by
  simp only [N5q,wpW] at h
  exact .of (by kernel_rfl) h
theorem Nzo (n : Nat) (a : List Int) (b : Int) : Link (N14 n) LL (cq [0,0,1,1] (bodyOf Tryd.f56)) (aq [0,0,1,1] Na) ⟨mkE 51 0 [(0,dL a),(1,dI b),(5,.slc 0)],[some (sI ([] : List Int))]⟩ (N7u (N5 n)) (fun (t : Unit) => (Exit.normal,⟨mkE 51 0 [(0,dL a),(1,dI b),(5,.slc 0),(6,dI 1)],[some (sI ([] : List Int))]⟩)) := .of fun K h => by
  simp only [N7u,wpW] at h
  exact .of (by kernel_rfl) h
theorem Nk6 (n : Nat) (a : List Int) (b c : Int) (d : List Int) : Link (N14 n) LL (cq [0,0,1,0,1,1] (bodyOf Tryd.f56)) (aq [0,0,1,0,1,1] Na) ⟨mkE 51 0 [(0,dL a),(1,dI b),(5,.slc 0),(6,dI c)],[some (sI d)]⟩ (N2h (N5 n) a b c d) (Sum.elim (fun (t : Int × (List Int)) => (Exit.normal,⟨mkE 51 0 [(0,dL a),(1,dI b),(5,.slc 0),(6,dI t.1)],[some (sI t.2)]⟩)) (fun (t : (List Int)) => ((Exit.exit 0),⟨mkE 51 0 [(0,dL a),(1,dI b),(5,.slc 0)],[some (sI t)]⟩))) := .of fun K h => by
  simp only [N2h,wpW] at h
  exact .of (by kernel_rfl) h
theorem Nq2 (n : Nat) (a : List Int) (b : Int) (c : List Int) : Link (N14 n) LL (cq [0,1,1,1] (bodyOf Tryd.f56)) (aq [0,1,1,1] Na) ⟨mkE 51 0 [(0,dL a),(1,dI b),(5,.slc 0)],[some (sI c)]⟩ (N4x (N5 n) b c) (fun (t : (List Int)) => (Exit.normal,⟨mkE 51 0 [(0,dL a),(1,dI b),(5,.slc 0)],[some (sI t)]⟩)) := .of fun K h => by
  simp only [N4x,wpW] at h
  exact .of (by kernel_rfl) h
theorem Nnm (n : Nat) (a : List Int) (b : Int) (c : List Int) : Link (N14 n) LL (cq [0,0,1,1,1,1] (bodyOf Tryd.f56)) (aq [0,0,1,1,1,1] Na) ⟨mkE 51 0 [(0,dL a),(1,dI b),(5,.slc 0)],[some (sI c)]⟩ (N74 (N5 n) b) (fun (t : Int) => (Exit.normal,⟨mkE 51 0 [(0,dL a),(1,dI b),(5,.slc 0),(7,dI t)],[some (sI c)]⟩)) := .of fun K h => by
  simp only [N74,wpW] at h
  exact .of (by kernel_rfl) h
theorem Nzp (n : Nat) (a : List Int) (b c : Int) (d : List Int) : Link (N14 n) LL (cq [0,0,1,0,1,1,1,1] (bodyOf Tryd.f56)) (aq [0,0,1,0,1,1,1,1] Na) ⟨mkE 51 0 [(0,dL a),(1,dI b),(5,.slc 0),(7,dI c)],[some (sI d)]⟩ (N3f (N5 n) a b c d) (Sum.elim (fun (t : Int × (List Int)) => (Exit.normal,⟨mkE 51 0 [(0,dL a),(1,dI b),(5,.slc 0),(7,dI t.1)],[some (sI t.2)]⟩)) (fun (t : (List Int)) => ((Exit.exit 2),⟨mkE 51 0 [(5,.slc 0)],[some (sI t)]⟩))) := .of fun K h => by
  simp only [N3f,wpW] at h
  exact .of (by kernel_rfl) h
theorem Njs (n : Nat) (a : List Int) : Link (N14 n) LL (cq [1,1,1,1,1] (bodyOf Tryd.f56)) (aq [1,1,1,1,1] Na) ⟨mkE 51 0 [(5,.slc 0)],[some (sI a)]⟩ (N5w (N5 n) a) (fun (t : (List Int)) => (Exit.ret,⟨mkE 51 0 [(4,.slc 0)],[some (sI t)]⟩)) := .of fun K h => by
  simp only [N5w,wpW] at h
  exact .of (by kernel_rfl) h
theorem Nmk (n : Nat) (b : List Int) (d : Int) {r : AV} {H' : Heap} (h : (Ans.mk _ (N5 (n + 1) b d) (fun (t : (List Int)) => (.slc 0,[some (sI t)])) [] none).run = some (r,H')) : Awp (N14 n) LL (bodyOf Tryd.f56) Na ⟨mkE 51 0 [(0,dL b),(1,dI d)],[]⟩ (Ret (tlook tys) Tryd.f56.results.toList r H') :=
  ret_of' (Link.cast (by kernel_rfl) (by kernel_rfl) (link_group (c := (cq [0,1] (bodyOf Tryd.f56))) (a := (aq [0,1] Na)) [(cq [0] (bodyOf Tryd.f56))] [(aq [0] Na)] rfl (link_seq (Ntg n b d) (fun (t : Unit) => (link_seq (link_seq (Nzo n b d) (fun (t : Unit) => (link_block (fin2 := (fun (t : (List Int)) => (Exit.normal,⟨mkE 51 0 [(0,dL b),(1,dI d),(5,.slc 0)],[some (sI t)]⟩))) (id := 0) (link_loop (mk := fun (s : Int × (List Int)) => ⟨mkE 51 0 [(0,dL b),(1,dI d),(5,.slc 0),(6,dI s.1)],[some (sI s.2)]⟩) (fin := (fun (t : (List Int)) => ((Exit.exit 0),⟨mkE 51 0 [(0,dL b),(1,dI d),(5,.slc 0)],[some (sI t)]⟩))) (by
  rintro t f K h
  · exact h) (fun s => link_map (Nk6 n b d s.1 s.2) (Sum.elim (fun (t : Int × (List Int)) => Sum.inl (t.1,t.2)) (fun (t : (List Int)) => Sum.inr t)) (by
  rintro (t | t)
  · kernel_rfl
  · kernel_rfl)) (1,([] : List Int))) (fun (t : (List Int)) => t) (by
  rintro t K h
  · exact Eq.mp (by kernel_rfl) h)))) (fun (t : (List Int)) => (link_seq (Nq2 n b d t) (fun (t44 : (List Int)) => (link_seq (link_seq (Nnm n b d t44) (fun (t33 : Int) => (link_block (fin2 := (fun (t8 : (List Int)) => (Exit.normal,⟨mkE 51 0 [(5,.slc 0)],[some (sI t8)]⟩))) (id := 2) (link_loop (mk := fun (s : Int × (List Int)) => ⟨mkE 51 0 [(0,dL b),(1,dI d),(5,.slc 0),(7,dI s.1)],[some (sI s.2)]⟩) (fin := (fun (t8 : (List Int)) => ((Exit.exit 2),⟨mkE 51 0 [(5,.slc 0)],[some (sI t8)]⟩))) (by
  rintro t8 f K h
  · exact h) (fun s => link_map (Nzp n b d s.1 s.2) (Sum.elim (fun (t8 : Int × (List Int)) => Sum.inl (t8.1,t8.2)) (fun (t8 : (List Int)) => Sum.inr t8)) (by
  rintro (t8 | t8)
  · kernel_rfl
  · kernel_rfl)) (t33,t44)) (fun (t8 : (List Int)) => t8) (by
  rintro t8 K h
  · exact Eq.mp (by kernel_rfl) h)))) (fun (t33 : (List Int)) => (Njs n t33))))))))))) (by (show _ = _); kernel_rfl) (by
  intro t
  exact ret_mk [.slc 0] (by kernel_rfl) (by kernel_rfl) (by kernel_rfl) (by kernel_rfl)) h
theorem Npc (n : Nat) (h56 : Sound Tryd.prog 56 (N1i n)) : Sound Tryd.prog 56 (N1i (n + 1)) := by
  refine fn_sound' (C := N14 n) (c := bodyOf Tryd.f56) (cok_of tys_ok (allc h56 alln) (allc Tryd.call56 alln) (by kernel_rfl)) Tryd.func56 (by kernel_rfl) LL Na ?_
  intro avs H r H' h
  unfold N1i at h
  split at h
  · refine Awp.cast ?_ ?_ ?_ (Nmk n _ _ h) <;> kernel_rfl
  · simp [Ans.no,Ans.run] at h
theorem Njv : Sound Tryd.prog 56 (N1i 0) := by
  intro avs H r H' h
  unfold N1i at h
  split at h
  · simp [N5,N1z,Ans.run] at h
  · simp [Ans.no,Ans.run] at h
theorem Nex : ∀ n,Sound Tryd.prog 56 (N1i n)
  | 0 => Njv
  | n + 1 => by
    have h56 := Nex n
    exact Npc n h56
def N4r : Fun := fun avs H =>
  match avs,H with
  | [.dat (.list (.int .i64)) a,.dat (.int .i64) b],[] => ⟨_,N4a a b,fun (t : (List Int)) => (.slc 0,[some (sI t)]),[],none⟩
  | _,_ => Ans.no
theorem Nj6 : Sound Tryd.prog 56 N4r := by
  have e : N4r = N1i RR := by
    funext avs H
    unfold N4r N1i
    split <;> first | rfl | (simp only [N4a])
  rw [e]
  exact (Nex RR)

def Nb1 : Ann := (.seq (.leaf [0]) (.seq (.seq (.leaf [0,5]) (.cond (.seq (.leaf [2]) (.leaf [2])) (.leaf [0]))) (.seq (.leaf [2]) (.leaf [2]))))
noncomputable def Nar : Ctx := ⟨tlook tys,olook [(24,N1m),(57,N93),(56,N4r)],ioF,0,false,[]⟩
theorem Nmw (a : List Int) : Link Nar LL (bodyOf Tryd.f49) Nb1 ⟨mkE 11 0 [(0,dL a)],[]⟩ (N4p a) (fun (t : (List Int)) => (Exit.ret,⟨mkE 11 0 [(2,.slc 0)],[some (sI t)]⟩)) := .of fun K h => by
  simp only [N4p,wpW] at h
  exact .of (by kernel_rfl) h
theorem Nre (a : List Int) {r : AV} {H' : Heap} (h : (Ans.mk _ (N3y a) (fun (t : (List Int)) => (.slc 0,[some (sI t)])) [] none).run = some (r,H')) : Awp Nar LL (bodyOf Tryd.f49) Nb1 ⟨mkE 11 0 [(0,dL a)],[]⟩ (Ret (tlook tys) Tryd.f49.results.toList r H') :=
  ret_of' (Nmw a) (by unfold N3y; kernel_rfl) (by
  intro t
  exact ret_mk [.slc 0] (by kernel_rfl) (by kernel_rfl) (by kernel_rfl) (by kernel_rfl)) h
def Nb4 : Fun := fun avs H =>
  match avs,H with
  | [.dat (.list (.int .i64)) a],[] => ⟨_,N3y a,fun (t : (List Int)) => (.slc 0,[some (sI t)]),[],none⟩
  | _,_ => Ans.no
theorem Nnu : Sound Tryd.prog 49 Nb4 := by
  refine fn_sound' (C := Nar) (c := bodyOf Tryd.f49) (cok_of tys_ok (allc N2g (allc Nxu (allc Nj6 alln))) (allc Tryd.call24 (allc Tryd.call57 (allc Tryd.call56 alln))) (by kernel_rfl)) Tryd.func49 (by kernel_rfl) LL Nb1 ?_
  intro avs H r H' h
  unfold Nb4 at h
  split at h
  · refine Awp.cast ?_ ?_ ?_ (Nre _ h) <;> kernel_rfl
  · simp [Ans.no,Ans.run] at h

def N9 : Ann := (.seq (.leaf [0,1]) (.seq (.seq (.leaf [0,1,5]) (.block (.loop (.seq (.seq (.leaf [0,1,5,10]) (.cond (.leaf [0,1,5]) (.leaf [0,1]))) (.seq (.block (.seq (.seq (.leaf [0,1,5,19]) (.cond (.seq (.leaf [4]) (.leaf [4])) (.leaf [0,1,5]))) (.seq (.leaf [0,1,5,6]) (.block (.loop (.seq (.seq (.leaf [0,1,5,6,22]) (.cond (.leaf [0,1,5,6]) (.leaf [0,1,5]))) (.seq (.block (.seq (.draw [] [0,1,2,3,4,5,6,7,8] [] [0,1,5,6,33]) (.cond (.seq (.leaf [4]) (.leaf [4])) (.leaf [0,1,5,6])))) (.leaf [0,1,5,6])))))))) (.leaf [0,1,5])))))) (.seq (.leaf [4]) (.leaf [4]))))
noncomputable def Nw : Ctx := ⟨tlook tys,olook [(39,N42)],ioF,0,false,[]⟩
theorem Nqc (a : List Int) (b : Int) : Link Nw LL (cq [0] (bodyOf Tryd.f55)) (aq [0] N9) ⟨mkE 42 0 [(0,dL a),(1,dI b)],[]⟩ (N7f) (fun (t : Unit) => (Exit.normal,⟨mkE 42 0 [(0,dL a),(1,dI b)],[]⟩)) := .of fun K h => by
  simp only [N7f,wpW] at h
  exact .of (by kernel_rfl) h
theorem Nu5 (a : List Int) (b : Int) : Link Nw LL (cq [0,0,1] (bodyOf Tryd.f55)) (aq [0,0,1] N9) ⟨mkE 42 0 [(0,dL a),(1,dI b)],[]⟩ (N4t) (fun (t : Unit) => (Exit.normal,⟨mkE 42 0 [(0,dL a),(1,dI b),(5,dI 0)],[]⟩)) := .of fun K h => by
  simp only [N4t,wpW] at h
  exact .of (by kernel_rfl) h
theorem Nzl (a : List Int) (b c : Int) : Link Nw LL (cq [0,0,0,1,0,1] (bodyOf Tryd.f55)) (aq [0,0,0,1,0,1] N9) ⟨mkE 42 0 [(0,dL a),(1,dI b),(5,dI c)],[]⟩ (N6w a c) (Sum.elim (fun (t : Unit) => (Exit.normal,⟨mkE 42 0 [(0,dL a),(1,dI b),(5,dI c)],[]⟩)) (fun (t : Unit) => ((Exit.exit 0),⟨mkE 42 0 [(0,dL a),(1,dI b)],[]⟩))) := .of fun K h => by
  simp only [N6w,wpW] at h
  exact .of (by kernel_rfl) h
theorem Nqw (a : List Int) (b c : Int) : Link Nw LL (Code.seq (cq [0,0,0,1,0,0,1,0,1] (bodyOf Tryd.f55)) (cq [0,1,0,0,1,0,0,1,0,1] (bodyOf Tryd.f55))) (Ann.seq (aq [0,0,0,1,0,0,1,0,1] N9) (aq [0,1,0,0,1,0,0,1,0,1] N9)) ⟨mkE 42 0 [(0,dL a),(1,dI b),(5,dI c)],[]⟩ (N84 a b c) (Sum.elim (fun (t : Unit) => (Exit.normal,⟨mkE 42 0 [(0,dL a),(1,dI b),(5,dI c),(6,dI 0)],[]⟩)) (fun (t : Bool) => (Exit.ret,⟨mkE 42 0 [(4,dB t)],[]⟩))) := .of fun K h => by
  simp only [N84,wpW] at h
  exact .of (by kernel_rfl) h
theorem Nw0 (a : List Int) (b c d : Int) : Link Nw LL (cq [0,0,1,1,0,0,1,0,0,1,0,1] (bodyOf Tryd.f55)) (aq [0,0,1,1,0,0,1,0,0,1,0,1] N9) ⟨mkE 42 0 [(0,dL a),(1,dI b),(5,dI c),(6,dI d)],[]⟩ (N45 a c d) (Sum.elim (fun (t : Int) => (Exit.normal,⟨mkE 42 0 [(0,dL a),(1,dI b),(5,dI c),(6,dI t)],[]⟩)) (Sum.elim (fun (t : Bool) => (Exit.ret,⟨mkE 42 0 [(4,dB t)],[]⟩)) (fun (t : Unit) => ((Exit.exit 2),⟨mkE 42 0 [(0,dL a),(1,dI b),(5,dI c)],[]⟩)))) := .of fun K h => by
  simp only [N45,wpW] at h
  exact .of (by kernel_rfl) h
theorem Nwy (a : List Int) (b c : Int) : Link Nw LL (cq [1,1,0,0,1,0,1] (bodyOf Tryd.f55)) (aq [1,1,0,0,1,0,1] N9) ⟨mkE 42 0 [(0,dL a),(1,dI b),(5,dI c)],[]⟩ (N8b c) (fun (t : Int) => (Exit.normal,⟨mkE 42 0 [(0,dL a),(1,dI b),(5,dI t)],[]⟩)) := .of fun K h => by
  simp only [N8b,wpW] at h
  exact .of (by kernel_rfl) h
theorem Nzh (a : List Int) (b : Int) : Link Nw LL (cq [1,1] (bodyOf Tryd.f55)) (aq [1,1] N9) ⟨mkE 42 0 [(0,dL a),(1,dI b)],[]⟩ (N55 a b) (fun (t : Bool) => (Exit.ret,⟨mkE 42 0 [(4,dB t)],[]⟩)) := .of fun K h => by
  simp only [N55,wpW] at h
  exact .of (by kernel_rfl) h
theorem Nu4 (b : List Int) (d : Int) {r : AV} {H' : Heap} (h : (Ans.mk _ (N2i b d) (fun (t : Bool) => (dB t,[])) [] none).run = some (r,H')) : Awp Nw LL (bodyOf Tryd.f55) N9 ⟨mkE 42 0 [(0,dL b),(1,dI d)],[]⟩ (Ret (tlook tys) Tryd.f55.results.toList r H') :=
  ret_of' (Link.cast (by kernel_rfl) (by kernel_rfl) (link_seq (Nqc b d) (fun (t : Unit) => (link_seq2 (link_seq (Nu5 b d) (fun (t : Unit) => (link_block (fin2 := (Sum.elim (fun (t : Unit) => (Exit.normal,⟨mkE 42 0 [(0,dL b),(1,dI d)],[]⟩)) (fun (t : Bool) => (Exit.ret,⟨mkE 42 0 [(4,dB t)],[]⟩)))) (id := 0) (link_loop (mk := fun (s : Int) => ⟨mkE 42 0 [(0,dL b),(1,dI d),(5,dI s)],[]⟩) (fin := (Sum.elim (fun (t : Bool) => (Exit.ret,⟨mkE 42 0 [(4,dB t)],[]⟩)) (fun (t : Unit) => ((Exit.exit 0),⟨mkE 42 0 [(0,dL b),(1,dI d)],[]⟩)))) (by
  rintro (t | t) f K h
  · exact h
  · exact h) (fun s => link_map (link_seq2 (Nzl b d s) (fun (t : Unit) => (link_map (fin2 := (Sum.elim (fun (t : Int) => (Exit.normal,⟨mkE 42 0 [(0,dL b),(1,dI d),(5,dI t)],[]⟩)) (Sum.elim (fun (t : Bool) => (Exit.ret,⟨mkE 42 0 [(4,dB t)],[]⟩)) (fun (t : Unit) => ((Exit.exit 0),⟨mkE 42 0 [(0,dL b),(1,dI d)],[]⟩))))) (link_seq2 (link_block (fin2 := (Sum.elim (fun (t : Unit) => (Exit.normal,⟨mkE 42 0 [(0,dL b),(1,dI d),(5,dI s)],[]⟩)) (fun (t : Bool) => (Exit.ret,⟨mkE 42 0 [(4,dB t)],[]⟩)))) (id := 1) (link_group (c := (cq [0,1,0,0,1,0,0,1,0,1] (bodyOf Tryd.f55))) (a := (aq [0,1,0,0,1,0,0,1,0,1] N9)) [(cq [0,0,0,1,0,0,1,0,1] (bodyOf Tryd.f55))] [(aq [0,0,0,1,0,0,1,0,1] N9)] rfl (link_seq2 (Nqw b d s) (fun (t : Unit) => (link_block (fin2 := (Sum.elim (fun (t : Unit) => (Exit.normal,⟨mkE 42 0 [(0,dL b),(1,dI d),(5,dI s)],[]⟩)) (fun (t : Bool) => (Exit.ret,⟨mkE 42 0 [(4,dB t)],[]⟩)))) (id := 2) (link_loop (mk := fun (s34 : Int) => ⟨mkE 42 0 [(0,dL b),(1,dI d),(5,dI s),(6,dI s34)],[]⟩) (fin := (Sum.elim (fun (t : Bool) => (Exit.ret,⟨mkE 42 0 [(4,dB t)],[]⟩)) (fun (t : Unit) => ((Exit.exit 2),⟨mkE 42 0 [(0,dL b),(1,dI d),(5,dI s)],[]⟩)))) (by
  rintro (t | t) f K h
  · exact h
  · exact h) (fun s34 => link_map (Nw0 b d s s34) (Sum.elim (fun (t : Int) => Sum.inl t) (Sum.elim (fun (t : Bool) => Sum.inr (Sum.inl t)) (fun (t : Unit) => Sum.inr (Sum.inr t)))) (by
  rintro (t | t | t)
  · kernel_rfl
  · kernel_rfl
  · kernel_rfl)) 0) (Sum.elim (fun (t : Bool) => (Sum.inr t)) (fun (t : Unit) => (Sum.inl ()))) (by
  rintro (t | t) K h
  · exact Eq.mp (by kernel_rfl) h
  · exact Eq.mp (by kernel_rfl) h))) (fun (t : Bool) => (Sum.inr t)) (by
  rintro t
  · kernel_rfl) (by
  rintro t f K h
  · exact h))) (Sum.elim (fun (t : Unit) => (Sum.inl ())) (fun (t : Bool) => (Sum.inr t))) (by
  rintro (t | t) K h
  · exact Eq.mp (by kernel_rfl) h
  · exact Eq.mp (by kernel_rfl) h)) (fun (t : Unit) => (link_map (fin2 := (Sum.elim (fun (t : Int) => (Exit.normal,⟨mkE 42 0 [(0,dL b),(1,dI d),(5,dI t)],[]⟩)) (fun (t : Bool) => (Exit.ret,⟨mkE 42 0 [(4,dB t)],[]⟩)))) (Nwy b d s) (fun (t : Int) => (Sum.inl t)) (by
  rintro t
  · kernel_rfl))) (fun (t : Bool) => (Sum.inr t)) (by
  rintro t
  · kernel_rfl) (by
  rintro t f K h
  · exact h)) (Sum.elim (fun (t : Int) => (Sum.inl t)) (fun (t : Bool) => (Sum.inr (Sum.inl t)))) (by
  rintro (t | t)
  · kernel_rfl
  · kernel_rfl))) (fun (t : Unit) => (Sum.inr (Sum.inr t))) (by
  rintro t
  · kernel_rfl) (by
  rintro t f K h
  · exact h)) (Sum.elim (fun (t : Int) => Sum.inl t) (Sum.elim (fun (t : Bool) => Sum.inr (Sum.inl t)) (fun (t : Unit) => Sum.inr (Sum.inr t)))) (by
  rintro (t | t | t)
  · kernel_rfl
  · kernel_rfl
  · kernel_rfl)) 0) (Sum.elim (fun (t : Bool) => (Sum.inr t)) (fun (t : Unit) => (Sum.inl ()))) (by
  rintro (t | t) K h
  · exact Eq.mp (by kernel_rfl) h
  · exact Eq.mp (by kernel_rfl) h)))) (fun (t : Unit) => (Nzh b d)) (fun (t : Bool) => t) (by
  rintro t
  · kernel_rfl) (by
  rintro t f K h
  · exact h))))) (by unfold N2i; kernel_rfl) (by
  intro t
  exact ret_mk [dB t] (by kernel_rfl) (by kernel_rfl) (by kernel_rfl) (by kernel_rfl)) h
def Nba : Fun := fun avs H =>
  match avs,H with
  | [.dat (.list (.int .i64)) a,.dat (.int .i64) b],[] => ⟨_,N2i a b,fun (t : Bool) => (dB t,[]),[],none⟩
  | _,_ => Ans.no
theorem Nvm : Sound Tryd.prog 55 Nba := by
  refine fn_sound' (C := Nw) (c := bodyOf Tryd.f55) (cok_of tys_ok (allc N8j alln) (allc Tryd.call39 alln) (by kernel_rfl)) Tryd.func55 (by kernel_rfl) LL N9 ?_
  intro avs H r H' h
  unfold Nba at h
  split at h
  · refine Awp.cast ?_ ?_ ?_ (Nu4 _ _ h) <;> kernel_rfl
  · simp [Ans.no,Ans.run] at h

def N4 : Ann := (.seq (.leaf [0,1]) (.seq (.seq (.leaf [0,1,19]) (.cond (.seq (.leaf [4,5]) (.leaf [4,5])) (.leaf [0,1]))) (.seq (.leaf [0,1,6]) (.seq (.seq (.leaf [0,1,6,7]) (.block (.loop (.seq (.seq (.leaf [0,1,6,7,28]) (.cond (.leaf [0,1,6,7]) (.leaf [0,1,6]))) (.seq (.block (.leaf [0,1,6,7])) (.leaf [0,1,6,7])))))) (.seq (.leaf [0,1,6,8]) (.seq (.seq (.leaf [0,1,6,8,9]) (.block (.loop (.seq (.seq (.leaf [0,1,6,8,9,43]) (.cond (.leaf [0,1,6,8,9]) (.leaf [8]))) (.seq (.block (.leaf [0,1,6,8,9])) (.leaf [0,1,6,8,9])))))) (.seq (.leaf [4,5]) (.leaf [4,5]))))))))
noncomputable def Nz : Ctx := ⟨tlook tys,olook [(24,N1m),(55,Nba)],ioF,0,false,[]⟩
theorem Nvu (a b : List Int) : Link Nz LL (Code.seq (cq [0] (bodyOf Tryd.f48)) (Code.seq (cq [0,1] (bodyOf Tryd.f48)) (cq [0,1,1] (bodyOf Tryd.f48)))) (Ann.seq (aq [0] N4) (Ann.seq (aq [0,1] N4) (aq [0,1,1] N4))) ⟨mkE 61 0 [(0,dL a),(1,dL b)],[]⟩ (N6p a b) (Sum.elim (fun (t : (List Int)) => (Exit.normal,⟨mkE 61 0 [(0,dL a),(1,dL b),(6,.slc 0)],[some (sI t)]⟩)) (fun (t : Bool × (List Int)) => (Exit.ret,⟨mkE 61 0 [(4,.slc 0),(5,dB t.1)],[some (sI t.2)]⟩))) := .of fun K h => by
  simp only [N6p,wpW] at h
  exact .of (by kernel_rfl) h
theorem Nnz (a b c : List Int) : Link Nz LL (cq [0,0,1,1,1] (bodyOf Tryd.f48)) (aq [0,0,1,1,1] N4) ⟨mkE 61 0 [(0,dL a),(1,dL b),(6,.slc 0)],[some (sI c)]⟩ (N53) (fun (t : Unit) => (Exit.normal,⟨mkE 61 0 [(0,dL a),(1,dL b),(6,.slc 0),(7,dI 0)],[some (sI c)]⟩)) := .of fun K h => by
  simp only [N53,wpW] at h
  exact .of (by kernel_rfl) h
theorem Nj5 (a b : List Int) (c : Int) (d : List Int) : Link Nz LL (cq [0,0,1,0,1,1,1] (bodyOf Tryd.f48)) (aq [0,0,1,0,1,1,1] N4) ⟨mkE 61 0 [(0,dL a),(1,dL b),(6,.slc 0),(7,dI c)],[some (sI d)]⟩ (N78 b c d) (Sum.elim (fun (t : Int × (List Int)) => (Exit.normal,⟨mkE 61 0 [(0,dL a),(1,dL b),(6,.slc 0),(7,dI t.1)],[some (sI t.2)]⟩)) (fun (t : (List Int)) => ((Exit.exit 0),⟨mkE 61 0 [(0,dL a),(1,dL b),(6,.slc 0)],[some (sI t)]⟩))) := .of fun K h => by
  simp only [N78,wpW] at h
  exact .of (by kernel_rfl) h
theorem Nse (a b c : List Int) : Link Nz LL (cq [0,1,1,1,1] (bodyOf Tryd.f48)) (aq [0,1,1,1,1] N4) ⟨mkE 61 0 [(0,dL a),(1,dL b),(6,.slc 0)],[some (sI c)]⟩ (N5b) (fun (t : Unit) => (Exit.normal,⟨mkE 61 0 [(0,dL a),(1,dL b),(6,.slc 0),(8,.slc 1)],[some (sI c),some (sI ([] : List Int))]⟩)) := .of fun K h => by
  simp only [N5b,wpW] at h
  exact .of (by kernel_rfl) h
theorem Ny8 (a b c : List Int) : Link Nz LL (cq [0,0,1,1,1,1,1] (bodyOf Tryd.f48)) (aq [0,0,1,1,1,1,1] N4) ⟨mkE 61 0 [(0,dL a),(1,dL b),(6,.slc 0),(8,.slc 1)],[some (sI c),some (sI ([] : List Int))]⟩ (N7s) (fun (t : Unit) => (Exit.normal,⟨mkE 61 0 [(0,dL a),(1,dL b),(6,.slc 0),(8,.slc 1),(9,dI 0)],[some (sI c),some (sI ([] : List Int))]⟩)) := .of fun K h => by
  simp only [N7s,wpW] at h
  exact .of (by kernel_rfl) h
theorem Ntu (a b : List Int) (c : Int) (d g : List Int) : Link Nz LL (cq [0,0,1,0,1,1,1,1,1] (bodyOf Tryd.f48)) (aq [0,0,1,0,1,1,1,1,1] N4) ⟨mkE 61 0 [(0,dL a),(1,dL b),(6,.slc 0),(8,.slc 1),(9,dI c)],[some (sI d),some (sI g)]⟩ (N4j a b c d g) (Sum.elim (fun (t : Int × (List Int)) => (Exit.normal,⟨mkE 61 0 [(0,dL a),(1,dL b),(6,.slc 0),(8,.slc 1),(9,dI t.1)],[some (sI d),some (sI t.2)]⟩)) (fun (t : (List Int)) => ((Exit.exit 2),⟨mkE 61 0 [(8,.slc 0)],[some (sI t)]⟩))) := .of fun K h => by
  simp only [N4j,wpW] at h
  exact .of (by kernel_rfl) h
theorem Noc (a : List Int) : Link Nz LL (cq [1,1,1,1,1,1] (bodyOf Tryd.f48)) (aq [1,1,1,1,1,1] N4) ⟨mkE 61 0 [(8,.slc 0)],[some (sI a)]⟩ (N62 a) (fun (t : Bool × (List Int)) => (Exit.ret,⟨mkE 61 0 [(4,.slc 0),(5,dB t.1)],[some (sI t.2)]⟩)) := .of fun K h => by
  simp only [N62,wpW] at h
  exact .of (by kernel_rfl) h
theorem Nr4 (b d : List Int) {r : AV} {H' : Heap} (h : (Ans.mk _ (N3i b d) (fun (t : Bool × (List Int)) => (.tup [.slc 0,dB t.1],[some (sI t.2)])) [] none).run = some (r,H')) : Awp Nz LL (bodyOf Tryd.f48) N4 ⟨mkE 61 0 [(0,dL b),(1,dL d)],[]⟩ (Ret (tlook tys) Tryd.f48.results.toList r H') :=
  ret_of' (Link.cast (by kernel_rfl) (by kernel_rfl) (link_group (c := (cq [0,1,1] (bodyOf Tryd.f48))) (a := (aq [0,1,1] N4)) [(cq [0] (bodyOf Tryd.f48)),(cq [0,1] (bodyOf Tryd.f48))] [(aq [0] N4),(aq [0,1] N4)] rfl (link_seq2 (Nvu b d) (fun (t : (List Int)) => (link_seq (link_seq (Nnz b d t) (fun (t35 : Unit) => (link_block (fin2 := (fun (t35 : (List Int)) => (Exit.normal,⟨mkE 61 0 [(0,dL b),(1,dL d),(6,.slc 0)],[some (sI t35)]⟩))) (id := 0) (link_loop (mk := fun (s : Int × (List Int)) => ⟨mkE 61 0 [(0,dL b),(1,dL d),(6,.slc 0),(7,dI s.1)],[some (sI s.2)]⟩) (fin := (fun (t35 : (List Int)) => ((Exit.exit 0),⟨mkE 61 0 [(0,dL b),(1,dL d),(6,.slc 0)],[some (sI t35)]⟩))) (by
  rintro t35 f K h
  · exact h) (fun s => link_map (Nj5 b d s.1 s.2) (Sum.elim (fun (t35 : Int × (List Int)) => Sum.inl (t35.1,t35.2)) (fun (t35 : (List Int)) => Sum.inr t35)) (by
  rintro (t35 | t35)
  · kernel_rfl
  · kernel_rfl)) (0,t)) (fun (t35 : (List Int)) => t35) (by
  rintro t35 K h
  · exact Eq.mp (by kernel_rfl) h)))) (fun (t35 : (List Int)) => (link_seq (Nse b d t35) (fun (t : Unit) => (link_seq (link_seq (Ny8 b d t35) (fun (t : Unit) => (link_block (fin2 := (fun (t : (List Int)) => (Exit.normal,⟨mkE 61 0 [(8,.slc 0)],[some (sI t)]⟩))) (id := 2) (link_loop (mk := fun (s : Int × (List Int)) => ⟨mkE 61 0 [(0,dL b),(1,dL d),(6,.slc 0),(8,.slc 1),(9,dI s.1)],[some (sI t35),some (sI s.2)]⟩) (fin := (fun (t : (List Int)) => ((Exit.exit 2),⟨mkE 61 0 [(8,.slc 0)],[some (sI t)]⟩))) (by
  rintro t f K h
  · exact h) (fun s => link_map (Ntu b d s.1 t35 s.2) (Sum.elim (fun (t : Int × (List Int)) => Sum.inl (t.1,t.2)) (fun (t : (List Int)) => Sum.inr t)) (by
  rintro (t | t)
  · kernel_rfl
  · kernel_rfl)) (0,([] : List Int))) (fun (t : (List Int)) => t) (by
  rintro t K h
  · exact Eq.mp (by kernel_rfl) h)))) (fun (t : (List Int)) => (Noc t)))))))) (fun (t : Bool × (List Int)) => t) (by
  rintro t
  · kernel_rfl) (by
  rintro t f K h
  · exact h)))) (by unfold N3i; kernel_rfl) (by
  intro t
  exact ret_mk [.slc 0,dB t.1] (by kernel_rfl) (by kernel_rfl) (by kernel_rfl) (by kernel_rfl)) h
def Nc8 : Fun := fun avs H =>
  match avs,H with
  | [.dat (.list (.int .i64)) a,.dat (.list (.int .i64)) b],[] => ⟨_,N3i a b,fun (t : Bool × (List Int)) => (.tup [.slc 0,dB t.1],[some (sI t.2)]),[],none⟩
  | _,_ => Ans.no
theorem Nuw : Sound Tryd.prog 48 Nc8 := by
  refine fn_sound' (C := Nz) (c := bodyOf Tryd.f48) (cok_of tys_ok (allc N2g (allc Nvm alln)) (allc Tryd.call24 (allc Tryd.call55 alln)) (by kernel_rfl)) Tryd.func48 (by kernel_rfl) LL N4 ?_
  intro avs H r H' h
  unfold Nc8 at h
  split at h
  · refine Awp.cast ?_ ?_ ?_ (Nr4 _ _ h) <;> kernel_rfl
  · simp [Ans.no,Ans.run] at h

def Nco : Ann := (.seq (.leaf [0]) (.seq (.leaf [3]) (.seq (.leaf [2]) (.leaf [2]))))
noncomputable def Nbc : Ctx := ⟨tlook tys,olook [(49,Nb4),(48,Nc8)],ioF,0,false,[]⟩
theorem N10f (a : List Int) : Link Nbc LL (bodyOf Tryd.f41) Nco ⟨mkE 13 0 [(0,dL a)],[]⟩ (N5h a) (fun (t : (List Int)) => (Exit.ret,⟨mkE 13 0 [(2,.slc 0)],[some (sI t)]⟩)) := .of fun K h => by
  simp only [N5h,wpW] at h
  exact .of (by kernel_rfl) h
theorem Nno (a : List Int) {r : AV} {H' : Heap} (h : (Ans.mk _ (N1q a) (fun (t : (List Int)) => (.slc 0,[some (sI t)])) [] none).run = some (r,H')) : Awp Nbc LL (bodyOf Tryd.f41) Nco ⟨mkE 13 0 [(0,dL a)],[]⟩ (Ret (tlook tys) Tryd.f41.results.toList r H') :=
  ret_of' (N10f a) (by unfold N1q; kernel_rfl) (by
  intro t
  exact ret_mk [.slc 0] (by kernel_rfl) (by kernel_rfl) (by kernel_rfl) (by kernel_rfl)) h
def N90 : Fun := fun avs H =>
  match avs,H with
  | [.dat (.list (.int .i64)) a],[] => ⟨_,N1q a,fun (t : (List Int)) => (.slc 0,[some (sI t)]),[],none⟩
  | _,_ => Ans.no
theorem Nl4 : Sound Tryd.prog 41 N90 := by
  refine fn_sound' (C := Nbc) (c := bodyOf Tryd.f41) (cok_of tys_ok (allc Nnu (allc Nuw alln)) (allc Tryd.call49 (allc Tryd.call48 alln)) (by kernel_rfl)) Tryd.func41 (by kernel_rfl) LL Nco ?_
  intro avs H r H' h
  unfold N90 at h
  split at h
  · refine Awp.cast ?_ ?_ ?_ (Nno _ h) <;> kernel_rfl
  · simp [Ans.no,Ans.run] at h

def Net : Ann := (.seq (.leaf [0,3]) (.seq (.leaf [0,3,5]) (.seq (.block (.seq (.leaf [0,3,5,9]) (.cond (.seq (.leaf [5]) (.seq (.leaf [4]) (.leafF [⟨0,4,true,none,none⟩] [4]))) (.seq (.leaf [0,3,5,28]) (.cond (.seq (.leaf [4]) (.leafF [⟨0,4,true,none,none⟩] [4])) (.seq (.leaf [0,3,5,39]) (.cond (.seq (.leaf [4]) (.leaf [4])) (.seq (.leaf [0,3,48]) (.cond (.seq (.leaf [4]) (.leafF [⟨0,4,true,none,none⟩] [4])) (.seq (.leaf [0,54]) (.cond (.seq (.leaf [4]) (.leafF [⟨0,4,true,none,none⟩] [4])) (.leaf [])))))))))))) (.seq (.leaf [4]) (.leafF [⟨0,4,true,none,none⟩] [4])))))
noncomputable def Nes : Ctx := ⟨tlook tys,olook [(39,N42),(40,Ndt),(41,N90)],ioF,0,false,[]⟩
theorem Nrr (a : List Int) (b c d : Int) : Link Nes LL (bodyOf Tryd.f23) Net ⟨mkE 61 0 [(0,dL a),(1,.agg [dI b,dI c,dI d])],[]⟩ (N46 a b c d) (fun (t : Nat × (List Int)) => (Exit.ret,⟨mkE 61 0 [(4,.win 0 0 t.1)],[some (sI t.2)]⟩)) := .of fun K h => by
  simp only [N46,wpW] at h
  exact .of (by kernel_rfl) h
theorem Ntf (a : List Int) (b c d : Int) {r : AV} {H' : Heap} (h : (Ans.mk _ (N15 a b c d) (fun (t : Nat × (List Int)) => (.win 0 0 t.1,[some (sI t.2)])) [] none).run = some (r,H')) : Awp Nes LL (bodyOf Tryd.f23) Net ⟨mkE 61 0 [(0,dL a),(1,.agg [dI b,dI c,dI d])],[]⟩ (Ret (tlook tys) Tryd.f23.results.toList r H') :=
  ret_of' (Nrr a b c d) (by unfold N15; kernel_rfl) (by
  intro t
  exact ret_mk [.win 0 0 t.1] (by kernel_rfl) (by kernel_rfl) (by kernel_rfl) (by kernel_rfl)) h
def Nde : Fun := fun avs H =>
  match avs,H with
  | [.dat (.list (.int .i64)) a,.agg [.dat (.int .i64) b,.dat (.int .i64) c,.dat (.int .i64) d]],[] => ⟨_,N15 a b c d,fun (t : Nat × (List Int)) => (.win 0 0 t.1,[some (sI t.2)]),[],none⟩
  | _,_ => Ans.no
theorem Nro : Sound Tryd.prog 23 Nde := by
  refine fn_sound' (C := Nes) (c := bodyOf Tryd.f23) (cok_of tys_ok (allc N8j (allc Npx (allc Nl4 alln))) (allc Tryd.call39 (allc Tryd.call40 (allc Tryd.call41 alln))) (by kernel_rfl)) Tryd.func23 (by kernel_rfl) LL Net ?_
  intro avs H r H' h
  unfold Nde at h
  split at h
  · refine Awp.cast ?_ ?_ ?_ (Ntf _ _ _ _ h) <;> kernel_rfl
  · simp [Ans.no,Ans.run] at h

def N3 : Ann := (.seq (.leaf [2,3,4]) (.seq (.seq (.leaf [2,3,4,13]) (.cond (.seq (.leaf [4,5]) (.leafF [⟨0,4,false,some 0,some (.int .i64)⟩,⟨0,4,true,some 1,some (.int .i64)⟩] [4,5])) (.leaf [2,3,4]))) (.seq (.leaf [2,3,4,6]) (.seq (.seq (.leaf [2,3,4,6,25]) (.cond (.seq (.leaf [4,6,7]) (.seq (.leaf [4,6,7]) (.seq (.leaf [4,6]) (.seq (.leaf [4,5]) (.leaf [4,5]))))) (.leaf [2,3,4,6]))) (.seq (.leaf [2,4,6,8]) (.seq (.leaf [2,4,6,8,9]) (.seq (.seq (.leaf [2,4,6,8,9,10]) (.block (.loop (.seq (.seq (.leaf [2,4,6,8,9,10,58]) (.cond (.leaf [2,4,6,8,10]) (.leaf [4,6,8,9]))) (.seq (.block (.draw [] [0,1,2,3,4,5,6,7,8,9,10] [] [2,4,6,8,9,10])) (.leaf [2,4,6,8,9,10])))))) (.seq (.seq (.leaf [4,6,8,76]) (.cond (.seq (.leaf [4,5]) (.leaf [4,5])) (.leaf [4,6,8]))) (.seq (.leaf [4,6,8]) (.seq (.seq (.leaf [4,6,8,88]) (.cond (.leaf [4,6,8]) (.leaf [4,6,8]))) (.seq (.leaf [4,6]) (.seq (.leaf [4,5]) (.leaf [4,5])))))))))))))
noncomputable def N2y : Ctx := ⟨tlook tys,olook [(21,N6k),(22,N56),(23,Nde),(24,N1m)],ioF,0,true,[]⟩
theorem Nps (a : List Int) (b : List (List Int)) (c d g : Int) : Link N2y LL (Code.seq (cq [0] (bodyOf Tryd.f6)) (Code.seq (cq [0,1] (bodyOf Tryd.f6)) (Code.seq (cq [0,1,1] (bodyOf Tryd.f6)) (Code.seq (cq [0,1,1,1] (bodyOf Tryd.f6)) (Code.seq (cq [0,1,1,1,1] (bodyOf Tryd.f6)) (cq [0,1,1,1,1,1] (bodyOf Tryd.f6))))))) (Ann.seq (aq [0] N3) (Ann.seq (aq [0,1] N3) (Ann.seq (aq [0,1,1] N3) (Ann.seq (aq [0,1,1,1] N3) (Ann.seq (aq [0,1,1,1,1] N3) (aq [0,1,1,1,1,1] N3)))))) ⟨mkE 98 0 [(0,.agg [dL a,.dat (.list (.list (.int .i64))) b]),(1,.agg [dI c,dI d,dI g])],[]⟩ (N52 a b c d g) (Sum.elim (fun (t : Nat × Bool × (List Int) × (List Int) × (List (List Int))) => (Exit.normal,⟨mkE 98 0 [(2,.ptr 0 0),(4,.ptr 1 0),(6,.ptr 2 0),(8,.win 3 0 t.1),(9,dB t.2.1)],[some (.box [dL a,.dat (.list (.list (.int .i64))) b]),some (.box [.nils,.nils]),some (.box [.slc 4,.slc 5]),some (sI t.2.2.1),some (sI t.2.2.2.1),some (.nest (.int .i64) t.2.2.2.2 0 [])]⟩)) (fun (t : Bool × (List Int) × (List (List Int))) => (Exit.ret,⟨mkE 98 0 [(4,.ptr 0 0),(5,dB t.1)],[some (.box [.slc 1,.slc 2]),some (sI t.2.1),some (.nest (.int .i64) t.2.2 0 [])]⟩))) := .of fun K h => by
  simp only [N52,wpW] at h
  exact .of (by kernel_rfl) h
theorem Nzm (a : Nat) (b : Bool) (c : List Int) (d : List (List Int)) (g i : List Int) (j : List (List Int)) : Link N2y LL (cq [0,0,1,1,1,1,1,1] (bodyOf Tryd.f6)) (aq [0,0,1,1,1,1,1,1] N3) ⟨mkE 98 0 [(2,.ptr 0 0),(4,.ptr 1 0),(6,.ptr 2 0),(8,.win 3 0 a),(9,dB b)],[some (.box [dL c,.dat (.list (.list (.int .i64))) d]),some (.box [.nils,.nils]),some (.box [.slc 4,.slc 5]),some (sI g),some (sI i),some (.nest (.int .i64) j 0 [])]⟩ (N71) (fun (t : Unit) => (Exit.normal,⟨mkE 98 0 [(2,.ptr 0 0),(4,.ptr 1 0),(6,.ptr 2 0),(8,.win 3 0 a),(9,dB b),(10,dI 0)],[some (.box [dL c,.dat (.list (.list (.int .i64))) d]),some (.box [.nils,.nils]),some (.box [.slc 4,.slc 5]),some (sI g),some (sI i),some (.nest (.int .i64) j 0 [])]⟩)) := .of fun K h => by
  simp only [N71,wpW] at h
  exact .of (by kernel_rfl) h
theorem No4 (a : Nat) (b : Bool) (c : Int) (d : List Int) (g : List (List Int)) (i j : List Int) (k : List (List Int)) : Link N2y LL (cq [0,0,1,0,1,1,1,1,1,1] (bodyOf Tryd.f6)) (aq [0,0,1,0,1,1,1,1,1,1] N3) ⟨mkE 98 0 [(2,.ptr 0 0),(4,.ptr 1 0),(6,.ptr 2 0),(8,.win 3 0 a),(9,dB b),(10,dI c)],[some (.box [dL d,.dat (.list (.list (.int .i64))) g]),some (.box [.nils,.nils]),some (.box [.slc 4,.slc 5]),some (sI i),some (sI j),some (.nest (.int .i64) k 0 [])]⟩ (N1x a b c d i) (Sum.elim (fun (t : Bool × Int) => (Exit.normal,⟨mkE 98 0 [(2,.ptr 0 0),(4,.ptr 1 0),(6,.ptr 2 0),(8,.win 3 0 a),(9,dB t.1),(10,dI t.2)],[some (.box [dL d,.dat (.list (.list (.int .i64))) g]),some (.box [.nils,.nils]),some (.box [.slc 4,.slc 5]),some (sI i),some (sI j),some (.nest (.int .i64) k 0 [])]⟩)) (fun (t : Bool) => ((Exit.exit 0),⟨mkE 98 0 [(4,.ptr 0 0),(6,.ptr 1 0),(8,.win 2 0 a),(9,dB t)],[some (.box [.nils,.nils]),some (.box [.slc 3,.slc 4]),some (sI i),some (sI j),some (.nest (.int .i64) k 0 [])]⟩))) := .of fun K h => by
  simp only [N1x,wpW] at h
  exact .of (by kernel_rfl) h
theorem Ntd (a : Nat) (b : Bool) (c d : List Int) (g : List (List Int)) : Link N2y LL (cq [1,1,1,1,1,1,1] (bodyOf Tryd.f6)) (aq [1,1,1,1,1,1,1] N3) ⟨mkE 98 0 [(4,.ptr 0 0),(6,.ptr 1 0),(8,.win 2 0 a),(9,dB b)],[some (.box [.nils,.nils]),some (.box [.slc 3,.slc 4]),some (sI c),some (sI d),some (.nest (.int .i64) g 0 [])]⟩ (N6z a b c d g) (fun (t : Bool × (List Int) × (List (List Int))) => (Exit.ret,⟨mkE 98 0 [(4,.ptr 0 0),(5,dB t.1)],[some (.box [.slc 1,.slc 2]),some (sI t.2.1),some (.nest (.int .i64) t.2.2 0 [])]⟩)) := .of fun K h => by
  simp only [N6z,wpW] at h
  exact .of (by kernel_rfl) h
theorem Nkq (b : List Int) (d : List (List Int)) (g i j : Int) {r : AV} {H' : Heap} (h : (Ans.mk _ (N2a b d g i j) (fun (t : Bool × (List Int) × (List (List Int))) => (.tup [.agg [.slc 1,.slc 2],dB t.1],[some (.box [.slc 1,.slc 2]),some (sI t.2.1),some (.nest (.int .i64) t.2.2 0 [])])) [] none).run = some (r,H')) : Awp N2y LL (bodyOf Tryd.f6) N3 ⟨mkE 98 0 [(0,.agg [dL b,.dat (.list (.list (.int .i64))) d]),(1,.agg [dI g,dI i,dI j])],[]⟩ (Ret (tlook tys) Tryd.f6.results.toList r H') :=
  ret_of' (Link.cast (by kernel_rfl) (by kernel_rfl) (link_group (c := (cq [0,1,1,1,1,1] (bodyOf Tryd.f6))) (a := (aq [0,1,1,1,1,1] N3)) [(cq [0] (bodyOf Tryd.f6)),(cq [0,1] (bodyOf Tryd.f6)),(cq [0,1,1] (bodyOf Tryd.f6)),(cq [0,1,1,1] (bodyOf Tryd.f6)),(cq [0,1,1,1,1] (bodyOf Tryd.f6))] [(aq [0] N3),(aq [0,1] N3),(aq [0,1,1] N3),(aq [0,1,1,1] N3),(aq [0,1,1,1,1] N3)] rfl (link_seq2 (Nps b d g i j) (fun (t : Nat × Bool × (List Int) × (List Int) × (List (List Int))) => (link_seq (link_seq (Nzm t.1 t.2.1 b d t.2.2.1 t.2.2.2.1 t.2.2.2.2) (fun (t36 : Unit) => (link_block (fin2 := (fun (t36 : Bool) => (Exit.normal,⟨mkE 98 0 [(4,.ptr 0 0),(6,.ptr 1 0),(8,.win 2 0 t.1),(9,dB t36)],[some (.box [.nils,.nils]),some (.box [.slc 3,.slc 4]),some (sI t.2.2.1),some (sI t.2.2.2.1),some (.nest (.int .i64) t.2.2.2.2 0 [])]⟩))) (id := 0) (link_loop (mk := fun (s : Bool × Int) => ⟨mkE 98 0 [(2,.ptr 0 0),(4,.ptr 1 0),(6,.ptr 2 0),(8,.win 3 0 t.1),(9,dB s.1),(10,dI s.2)],[some (.box [dL b,.dat (.list (.list (.int .i64))) d]),some (.box [.nils,.nils]),some (.box [.slc 4,.slc 5]),some (sI t.2.2.1),some (sI t.2.2.2.1),some (.nest (.int .i64) t.2.2.2.2 0 [])]⟩) (fin := (fun (t36 : Bool) => ((Exit.exit 0),⟨mkE 98 0 [(4,.ptr 0 0),(6,.ptr 1 0),(8,.win 2 0 t.1),(9,dB t36)],[some (.box [.nils,.nils]),some (.box [.slc 3,.slc 4]),some (sI t.2.2.1),some (sI t.2.2.2.1),some (.nest (.int .i64) t.2.2.2.2 0 [])]⟩))) (by
  rintro t36 f K h
  · exact h) (fun s => link_map (No4 t.1 s.1 s.2 b d t.2.2.1 t.2.2.2.1 t.2.2.2.2) (Sum.elim (fun (t36 : Bool × Int) => Sum.inl (t36.1,t36.2)) (fun (t36 : Bool) => Sum.inr t36)) (by
  rintro (t36 | t36)
  · kernel_rfl
  · kernel_rfl)) (t.2.1,0)) (fun (t36 : Bool) => t36) (by
  rintro t36 K h
  · exact Eq.mp (by kernel_rfl) h)))) (fun (t36 : Bool) => (Ntd t.1 t36 t.2.2.1 t.2.2.2.1 t.2.2.2.2)))) (fun (t : Bool × (List Int) × (List (List Int))) => t) (by
  rintro t
  · kernel_rfl) (by
  rintro t f K h
  · exact h)))) (by unfold N2a; kernel_rfl) (by
  intro t
  exact ret_mk [.agg [.slc 1,.slc 2],dB t.1] (by kernel_rfl) (by kernel_rfl) (by kernel_rfl) (by kernel_rfl)) h
def N99 : Fun := fun avs H =>
  match avs,H with
  | [.agg [.dat (.list (.int .i64)) a,.dat (.list (.list (.int .i64))) b],.agg [.dat (.int .i64) c,.dat (.int .i64) d,.dat (.int .i64) g]],[] => ⟨_,N2a a b c d g,fun (t : Bool × (List Int) × (List (List Int))) => (.tup [.agg [.slc 1,.slc 2],dB t.1],[some (.box [.slc 1,.slc 2]),some (sI t.2.1),some (.nest (.int .i64) t.2.2 0 [])]),[],none⟩
  | _,_ => Ans.no
theorem Ns8 : Sound Tryd.prog 6 N99 := by
  refine fn_sound' (C := N2y) (c := bodyOf Tryd.f6) (cok_of tys_ok (allc Ngb (allc Ni8 (allc Nro (allc N2g alln)))) (allc Tryd.call21 (allc Tryd.call22 (allc Tryd.call23 (allc Tryd.call24 alln)))) (by kernel_rfl)) Tryd.func6 (by kernel_rfl) LL N3 ?_
  intro avs H r H' h
  unfold N99 at h
  split at h
  · refine Awp.cast ?_ ?_ ?_ (Nkq _ _ _ _ _ h) <;> kernel_rfl
  · simp [Ans.no,Ans.run] at h

def N1b : Ann := (.seq (.leaf [0]) (.seq (.leaf [0,3]) (.seq (.seq (.leaf [0,3,6,7,8]) (.block (.loop (.seq (.leaf [0,3,6,7,8,9]) (.seq (.cond (.leaf [0,3,6,7,8]) (.leaf [3])) (.seq (.block (.seq (.leaf [0,3,5,6,7,8]) (.seq (.seq (.leaf [0,3,5,6,7,8,19]) (.cond (.seq (.leaf [2]) (.leaf [2])) (.leaf [0,3,5,6,7,8]))) (.seq (.leaf [0,3,6,7,8,21]) (.cond (.leaf [0,3,6,7,8]) (.leaf [0,3,6,7,8])))))) (.leaf [0,3,6,7,8]))))))) (.seq (.leaf [2]) (.leaf [2])))))
noncomputable def N3p : Ctx := ⟨tlook tys,olook [],ioF,0,false,[]⟩
theorem Niw (a : List Int) : Link N3p LL (Code.seq (cq [0] (bodyOf Tryd.f50)) (cq [0,1] (bodyOf Tryd.f50))) (Ann.seq (aq [0] N1b) (aq [0,1] N1b)) ⟨mkE 27 0 [(0,dL a)],[]⟩ (Ncy) (fun (t : Unit) => (Exit.normal,⟨mkE 27 0 [(0,dL a),(3,dI 0)],[]⟩)) := .of fun K h => by
  simp only [Ncy,wpW] at h
  exact .of (by kernel_rfl) h
theorem Nui (a : List Int) : Link N3p LL (cq [0,0,1,1] (bodyOf Tryd.f50)) (aq [0,0,1,1] N1b) ⟨mkE 27 0 [(0,dL a),(3,dI 0)],[]⟩ (N9p a) (fun (t : Int) => (Exit.normal,⟨mkE 27 0 [(0,dL a),(3,dI 0),(6,dL a),(7,dI t),(8,dI 0)],[]⟩)) := .of fun K h => by
  simp only [N9p,wpW] at h
  exact .of (by kernel_rfl) h
theorem Nnr (a : List Int) (b c d : Int) : Link N3p LL (cq [0,0,1,0,1,1] (bodyOf Tryd.f50)) (aq [0,0,1,0,1,1] N1b) ⟨mkE 27 0 [(0,dL a),(3,dI b),(6,dL a),(7,dI c),(8,dI d)],[]⟩ (Nbg a b c d) (Sum.elim (fun (t : Int × Int) => (Exit.normal,⟨mkE 27 0 [(0,dL a),(3,dI t.1),(6,dL a),(7,dI c),(8,dI t.2)],[]⟩)) (Sum.elim (fun (t : Bool) => (Exit.ret,⟨mkE 27 0 [(2,dB t)],[]⟩)) (fun (t : Int) => ((Exit.exit 0),⟨mkE 27 0 [(3,dI t)],[]⟩)))) := .of fun K h => by
  simp only [Nbg,wpW] at h
  exact .of (by kernel_rfl) h
theorem Nuq (a : Int) : Link N3p LL (cq [1,1,1] (bodyOf Tryd.f50)) (aq [1,1,1] N1b) ⟨mkE 27 0 [(3,dI a)],[]⟩ (N9f a) (fun (t : Bool) => (Exit.ret,⟨mkE 27 0 [(2,dB t)],[]⟩)) := .of fun K h => by
  simp only [N9f,wpW] at h
  exact .of (by kernel_rfl) h
theorem Nk3 (b : List Int) {r : AV} {H' : Heap} (h : (Ans.mk _ (N6r b) (fun (t : Bool) => (dB t,[])) [] none).run = some (r,H')) : Awp N3p LL (bodyOf Tryd.f50) N1b ⟨mkE 27 0 [(0,dL b)],[]⟩ (Ret (tlook tys) Tryd.f50.results.toList r H') :=
  ret_of' (Link.cast (by kernel_rfl) (by kernel_rfl) (link_group (c := (cq [0,1] (bodyOf Tryd.f50))) (a := (aq [0,1] N1b)) [(cq [0] (bodyOf Tryd.f50))] [(aq [0] N1b)] rfl (link_seq (Niw b) (fun (t : Unit) => (link_seq2 (link_seq (Nui b) (fun (t : Int) => (link_block (fin2 := (Sum.elim (fun (t10 : Int) => (Exit.normal,⟨mkE 27 0 [(3,dI t10)],[]⟩)) (fun (t10 : Bool) => (Exit.ret,⟨mkE 27 0 [(2,dB t10)],[]⟩)))) (id := 0) (link_loop (mk := fun (s : Int × Int) => ⟨mkE 27 0 [(0,dL b),(3,dI s.1),(6,dL b),(7,dI t),(8,dI s.2)],[]⟩) (fin := (Sum.elim (fun (t10 : Bool) => (Exit.ret,⟨mkE 27 0 [(2,dB t10)],[]⟩)) (fun (t10 : Int) => ((Exit.exit 0),⟨mkE 27 0 [(3,dI t10)],[]⟩)))) (by
  rintro (t10 | t10) f K h
  · exact h
  · exact h) (fun s => link_map (Nnr b s.1 t s.2) (Sum.elim (fun (t10 : Int × Int) => Sum.inl (t10.1,t10.2)) (Sum.elim (fun (t10 : Bool) => Sum.inr (Sum.inl t10)) (fun (t10 : Int) => Sum.inr (Sum.inr t10)))) (by
  rintro (t10 | t10 | t10)
  · kernel_rfl
  · kernel_rfl
  · kernel_rfl)) (0,0)) (Sum.elim (fun (t10 : Bool) => (Sum.inr t10)) (fun (t10 : Int) => (Sum.inl t10))) (by
  rintro (t10 | t10) K h
  · exact Eq.mp (by kernel_rfl) h
  · exact Eq.mp (by kernel_rfl) h)))) (fun (t : Int) => (Nuq t)) (fun (t : Bool) => t) (by
  rintro t
  · kernel_rfl) (by
  rintro t f K h
  · exact h)))))) (by unfold N6r; kernel_rfl) (by
  intro t
  exact ret_mk [dB t] (by kernel_rfl) (by kernel_rfl) (by kernel_rfl) (by kernel_rfl)) h
def N8u : Fun := fun avs H =>
  match avs,H with
  | [.dat (.list (.int .i64)) a],[] => ⟨_,N6r a,fun (t : Bool) => (dB t,[]),[],none⟩
  | _,_ => Ans.no
theorem Nxw : Sound Tryd.prog 50 N8u := by
  refine fn_sound' (C := N3p) (c := bodyOf Tryd.f50) (cok_of tys_ok (alln) (alln) (by kernel_rfl)) Tryd.func50 (by kernel_rfl) LL N1b ?_
  intro avs H r H' h
  unfold N8u at h
  split at h
  · refine Awp.cast ?_ ?_ ?_ (Nk3 _ h) <;> kernel_rfl
  · simp [Ans.no,Ans.run] at h

def N9c : Ann := (.seq (.leaf [0]) (.seq (.draw [] [0,1,2,3,4,5,6,7,8,9,10,11] [] [0,3]) (.seq (.seq (.leaf [0,3,16]) (.cond (.seq (.leaf [2]) (.leaf [2])) (.leaf [0,3]))) (.seq (.leaf [0]) (.seq (.leaf []) (.seq (.leaf [2]) (.leaf [2])))))))
noncomputable def N9k : Ctx := ⟨tlook tys,olook [],ioF,1,false,[]⟩
theorem Nkc (a : List Int) (b c : Int) : Link N9k LL (bodyOf Tryd.f58) N9c ⟨mkE 28 0 [(0,.ptr 0 0)],[some (.box [dL a,dI b,dI c])]⟩ (Ncb a b c) (fun (t : Bool × Int × Int) => (Exit.ret,⟨mkE 28 0 [(2,dB t.1)],[some (.box [dL a,dI t.2.1,dI t.2.2])]⟩)) := .of fun K h => by
  simp only [Ncb,wpW] at h
  exact .of (by kernel_rfl) h
theorem Ntj (a : List Int) (b c : Int) {r : AV} {H' : Heap} (h : (Ans.mk _ (N4h a b c) (fun (t : Bool × Int × Int) => (dB t.1,[some (.box [dL a,dI t.2.1,dI t.2.2])])) [] none).run = some (r,H')) : Awp N9k LL (bodyOf Tryd.f58) N9c ⟨mkE 28 0 [(0,.ptr 0 0)],[some (.box [dL a,dI b,dI c])]⟩ (Ret (tlook tys) Tryd.f58.results.toList r H') :=
  ret_of' (Nkc a b c) (by unfold N4h; kernel_rfl) (by
  intro t
  exact ret_mk [dB t.1] (by kernel_rfl) (by kernel_rfl) (by kernel_rfl) (by kernel_rfl)) h
def N5k : Fun := fun avs H =>
  match avs,H with
  | [.ptr 0 0],[some (.box [.dat (.list (.int .i64)) a,.dat (.int .i64) b,.dat (.int .i64) c])] => ⟨_,N4h a b c,fun (t : Bool × Int × Int) => (dB t.1,[some (.box [dL a,dI t.2.1,dI t.2.2])]),[],none⟩
  | _,_ => Ans.no
theorem Nfz : Sound Tryd.prog 58 N5k := by
  refine fn_sound' (C := N9k) (c := bodyOf Tryd.f58) (cok_of tys_ok (alln) (alln) (by kernel_rfl)) Tryd.func58 (by kernel_rfl) LL N9c ?_
  intro avs H r H' h
  unfold N5k at h
  split at h
  · refine Awp.cast ?_ ?_ ?_ (Ntj _ _ _ h) <;> kernel_rfl
  · simp [Ans.no,Ans.run] at h

def N1j : Ann := (.seq (.leaf [0,1]) (.seq (.leaf [0,6]) (.seq (.block (.loop (.seq (.seq (.leaf [0,6,10]) (.cond (.leaf [0,6]) (.leaf [6]))) (.block (.seq (.leaf [0,6,15]) (.cond (.seq (.leaf [4,5]) (.leaf [4,5])) (.leaf [0,6]))))))) (.seq (.leaf [4,5]) (.leaf [4,5])))))
noncomputable def N49 : Ctx := ⟨tlook tys,olook [(58,N5k)],ioF,0,false,[]⟩
theorem Nk2 (a : List Int) (b : Int) : Link N49 LL (Code.seq (cq [0] (bodyOf Tryd.f51)) (cq [0,1] (bodyOf Tryd.f51))) (Ann.seq (aq [0] N1j) (aq [0,1] N1j)) ⟨mkE 18 0 [(0,dL a),(1,dI b)],[]⟩ (Neo) (fun (t : Unit) => (Exit.normal,⟨mkE 18 0 [(0,dL a),(6,.ptr 0 0)],[some (.box [dL a,dI b,dI 0])]⟩)) := .of fun K h => by
  simp only [Neo,wpW] at h
  exact .of (by kernel_rfl) h
theorem Nsz (a : List Int) (b c : Int) : Link N49 LL (cq [0,0,0,1,1] (bodyOf Tryd.f51)) (aq [0,0,0,1,1] N1j) ⟨mkE 18 0 [(0,dL a),(6,.ptr 0 0)],[some (.box [dL a,dI b,dI c])]⟩ (Ndc a b c) (Sum.elim (fun (t : Int × Int) => (Exit.normal,⟨mkE 18 0 [(0,dL a),(6,.ptr 0 0)],[some (.box [dL a,dI t.1,dI t.2])]⟩)) (Sum.elim (fun (t : Int × Bool) => (Exit.ret,⟨mkE 18 0 [(4,dI t.1),(5,dB t.2)],[]⟩)) (fun (t : Int × Int) => ((Exit.exit 0),⟨mkE 18 0 [(6,.ptr 0 0)],[some (.box [dL a,dI t.1,dI t.2])]⟩)))) := .of fun K h => by
  simp only [Ndc,wpW] at h
  exact .of (by kernel_rfl) h
theorem Nnk (a : List Int) (b c : Int) : Link N49 LL (cq [1,1,1] (bodyOf Tryd.f51)) (aq [1,1,1] N1j) ⟨mkE 18 0 [(6,.ptr 0 0)],[some (.box [dL a,dI b,dI c])]⟩ (Nbi c) (fun (t : Int × Bool) => (Exit.ret,⟨mkE 18 0 [(4,dI t.1),(5,dB t.2)],[]⟩)) := .of fun K h => by
  simp only [Nbi,wpW] at h
  exact .of (by kernel_rfl) h
theorem Nkx (b : List Int) (d : Int) {r : AV} {H' : Heap} (h : (Ans.mk _ (N5r b d) (fun (t : Int × Bool) => (.tup [dI t.1,dB t.2],[])) [] none).run = some (r,H')) : Awp N49 LL (bodyOf Tryd.f51) N1j ⟨mkE 18 0 [(0,dL b),(1,dI d)],[]⟩ (Ret (tlook tys) Tryd.f51.results.toList r H') :=
  ret_of' (Link.cast (by kernel_rfl) (by kernel_rfl) (link_group (c := (cq [0,1] (bodyOf Tryd.f51))) (a := (aq [0,1] N1j)) [(cq [0] (bodyOf Tryd.f51))] [(aq [0] N1j)] rfl (link_seq (Nk2 b d) (fun (t : Unit) => (link_seq2 (link_block (fin2 := (Sum.elim (fun (t : Int × Int) => (Exit.normal,⟨mkE 18 0 [(6,.ptr 0 0)],[some (.box [dL b,dI t.1,dI t.2])]⟩)) (fun (t : Int × Bool) => (Exit.ret,⟨mkE 18 0 [(4,dI t.1),(5,dB t.2)],[]⟩)))) (id := 0) (link_loop (mk := fun (s : Int × Int) => ⟨mkE 18 0 [(0,dL b),(6,.ptr 0 0)],[some (.box [dL b,dI s.1,dI s.2])]⟩) (fin := (Sum.elim (fun (t : Int × Bool) => (Exit.ret,⟨mkE 18 0 [(4,dI t.1),(5,dB t.2)],[]⟩)) (fun (t : Int × Int) => ((Exit.exit 0),⟨mkE 18 0 [(6,.ptr 0 0)],[some (.box [dL b,dI t.1,dI t.2])]⟩)))) (by
  rintro (t | t) f K h
  · exact h
  · exact h) (fun s => link_map (Nsz b s.1 s.2) (Sum.elim (fun (t : Int × Int) => Sum.inl (t.1,t.2)) (Sum.elim (fun (t : Int × Bool) => Sum.inr (Sum.inl t)) (fun (t : Int × Int) => Sum.inr (Sum.inr t)))) (by
  rintro (t | t | t)
  · kernel_rfl
  · kernel_rfl
  · kernel_rfl)) (d,0)) (Sum.elim (fun (t : Int × Bool) => (Sum.inr t)) (fun (t : Int × Int) => (Sum.inl (t.1,t.2)))) (by
  rintro (t | t) K h
  · exact Eq.mp (by kernel_rfl) h
  · exact Eq.mp (by kernel_rfl) h)) (fun (t : Int × Int) => (Nnk b t.1 t.2)) (fun (t : Int × Bool) => t) (by
  rintro t
  · kernel_rfl) (by
  rintro t f K h
  · exact h)))))) (by unfold N5r; kernel_rfl) (by
  intro t
  exact ret_mk [dI t.1,dB t.2] (by kernel_rfl) (by kernel_rfl) (by kernel_rfl) (by kernel_rfl)) h
def N9i : Fun := fun avs H =>
  match avs,H with
  | [.dat (.list (.int .i64)) a,.dat (.int .i64) b],[] => ⟨_,N5r a b,fun (t : Int × Bool) => (.tup [dI t.1,dB t.2],[]),[],none⟩
  | _,_ => Ans.no
theorem Nj4 : Sound Tryd.prog 51 N9i := by
  refine fn_sound' (C := N49) (c := bodyOf Tryd.f51) (cok_of tys_ok (allc Nfz alln) (allc Tryd.call58 alln) (by kernel_rfl)) Tryd.func51 (by kernel_rfl) LL N1j ?_
  intro avs H r H' h
  unfold N9i at h
  split at h
  · refine Awp.cast ?_ ?_ ?_ (Nkx _ _ h) <;> kernel_rfl
  · simp [Ans.no,Ans.run] at h

def Ny : Ann := (.seq (.leaf [0]) (.seq (.seq (.leaf [0,18]) (.cond (.seq (.leaf [2]) (.leaf [2])) (.leaf [0]))) (.seq (.seq (.leaf [0,20,21]) (.block (.loop (.seq (.leaf [0,20,21,22]) (.seq (.cond (.leaf [0,20,21]) (.leaf [])) (.seq (.block (.seq (.leaf [0,3,20,21]) (.seq (.leaf [0,5,20,21]) (.seq (.leaf [0,20,21,32]) (.cond (.seq (.leaf [2]) (.leaf [2])) (.leaf [0,20,21])))))) (.leaf [0,20,21]))))))) (.seq (.leaf [2]) (.leaf [2])))))
noncomputable def N37 : Ctx := ⟨tlook tys,olook [(50,N8u),(51,N9i)],ioF,0,false,[]⟩
theorem Nrj (a : List Int) : Link N37 LL (Code.seq (cq [0] (bodyOf Tryd.f42)) (cq [0,1] (bodyOf Tryd.f42))) (Ann.seq (aq [0] Ny) (aq [0,1] Ny)) ⟨mkE 34 0 [(0,dL a)],[]⟩ (Nci a) (Sum.elim (fun (t : Unit) => (Exit.normal,⟨mkE 34 0 [(0,dL a)],[]⟩)) (fun (t : Bool) => (Exit.ret,⟨mkE 34 0 [(2,dB t)],[]⟩))) := .of fun K h => by
  simp only [Nci,wpW] at h
  exact .of (by kernel_rfl) h
theorem Nkj (a : List Int) : Link N37 LL (cq [0,0,1,1] (bodyOf Tryd.f42)) (aq [0,0,1,1] Ny) ⟨mkE 34 0 [(0,dL a)],[]⟩ (Ndq a) (fun (t : Int) => (Exit.normal,⟨mkE 34 0 [(0,dL a),(20,dI t),(21,dI 0)],[]⟩)) := .of fun K h => by
  simp only [Ndq,wpW] at h
  exact .of (by kernel_rfl) h
theorem Niv (a : List Int) (b c : Int) : Link N37 LL (cq [0,0,1,0,1,1] (bodyOf Tryd.f42)) (aq [0,0,1,0,1,1] Ny) ⟨mkE 34 0 [(0,dL a),(20,dI b),(21,dI c)],[]⟩ (N91 a b c) (Sum.elim (fun (t : Int) => (Exit.normal,⟨mkE 34 0 [(0,dL a),(20,dI b),(21,dI t)],[]⟩)) (Sum.elim (fun (t : Bool) => (Exit.ret,⟨mkE 34 0 [(2,dB t)],[]⟩)) (fun (t : Unit) => ((Exit.exit 0),⟨mkE 34 0 [],[]⟩)))) := .of fun K h => by
  simp only [N91,wpW] at h
  exact .of (by kernel_rfl) h
theorem Np6 : Link N37 LL (cq [1,1,1] (bodyOf Tryd.f42)) (aq [1,1,1] Ny) ⟨mkE 34 0 [],[]⟩ (Nbf) (fun (t : Bool) => (Exit.ret,⟨mkE 34 0 [(2,dB t)],[]⟩)) := .of fun K h => by
  simp only [Nbf,wpW] at h
  exact .of (by kernel_rfl) h
theorem N109 (b : List Int) {r : AV} {H' : Heap} (h : (Ans.mk _ (Nc b) (fun (t : Bool) => (dB t,[])) [] none).run = some (r,H')) : Awp N37 LL (bodyOf Tryd.f42) Ny ⟨mkE 34 0 [(0,dL b)],[]⟩ (Ret (tlook tys) Tryd.f42.results.toList r H') :=
  ret_of' (Link.cast (by kernel_rfl) (by kernel_rfl) (link_group (c := (cq [0,1] (bodyOf Tryd.f42))) (a := (aq [0,1] Ny)) [(cq [0] (bodyOf Tryd.f42))] [(aq [0] Ny)] rfl (link_seq2 (Nrj b) (fun (t : Unit) => (link_seq2 (link_seq (Nkj b) (fun (t : Int) => (link_block (fin2 := (Sum.elim (fun (t11 : Unit) => (Exit.normal,⟨mkE 34 0 [],[]⟩)) (fun (t11 : Bool) => (Exit.ret,⟨mkE 34 0 [(2,dB t11)],[]⟩)))) (id := 0) (link_loop (mk := fun (s : Int) => ⟨mkE 34 0 [(0,dL b),(20,dI t),(21,dI s)],[]⟩) (fin := (Sum.elim (fun (t11 : Bool) => (Exit.ret,⟨mkE 34 0 [(2,dB t11)],[]⟩)) (fun (t11 : Unit) => ((Exit.exit 0),⟨mkE 34 0 [],[]⟩)))) (by
  rintro (t11 | t11) f K h
  · exact h
  · exact h) (fun s => link_map (Niv b t s) (Sum.elim (fun (t11 : Int) => Sum.inl t11) (Sum.elim (fun (t11 : Bool) => Sum.inr (Sum.inl t11)) (fun (t11 : Unit) => Sum.inr (Sum.inr t11)))) (by
  rintro (t11 | t11 | t11)
  · kernel_rfl
  · kernel_rfl
  · kernel_rfl)) 0) (Sum.elim (fun (t11 : Bool) => (Sum.inr t11)) (fun (t11 : Unit) => (Sum.inl ()))) (by
  rintro (t11 | t11) K h
  · exact Eq.mp (by kernel_rfl) h
  · exact Eq.mp (by kernel_rfl) h)))) (fun (t : Unit) => (Np6)) (fun (t : Bool) => t) (by
  rintro t
  · kernel_rfl) (by
  rintro t f K h
  · exact h))) (fun (t : Bool) => t) (by
  rintro t
  · kernel_rfl) (by
  rintro t f K h
  · exact h)))) (by unfold Nc; kernel_rfl) (by
  intro t
  exact ret_mk [dB t] (by kernel_rfl) (by kernel_rfl) (by kernel_rfl) (by kernel_rfl)) h
def N1d : Fun := fun avs H =>
  match avs,H with
  | [.dat (.list (.int .i64)) a],[] => ⟨_,Nc a,fun (t : Bool) => (dB t,[]),[],none⟩
  | _,_ => Ans.no
theorem N1s : Sound Tryd.prog 42 N1d := by
  refine fn_sound' (C := N37) (c := bodyOf Tryd.f42) (cok_of tys_ok (allc Nxw (allc Nj4 alln)) (allc Tryd.call50 (allc Tryd.call51 alln)) (by kernel_rfl)) Tryd.func42 (by kernel_rfl) LL Ny ?_
  intro avs H r H' h
  unfold N1d at h
  split at h
  · refine Awp.cast ?_ ?_ ?_ (N109 _ h) <;> kernel_rfl
  · simp [Ans.no,Ans.run] at h

def N16 : Ann := (.seq (.leaf [1]) (.seq (.seq (.leaf [1,14]) (.cond (.seq (.leaf [2]) (.leaf [2])) (.leaf [1]))) (.seq (.seq (.leaf [16,17,18]) (.block (.loop (.seq (.leaf [16,17,18,19]) (.seq (.cond (.leaf [16,17,18]) (.leaf [])) (.seq (.block (.seq (.leaf [4,16,17,18]) (.seq (.leaf [16,17,18,24]) (.cond (.seq (.leaf [2]) (.leaf [2])) (.leaf [16,17,18]))))) (.leaf [16,17,18]))))))) (.seq (.leaf [2]) (.leaf [2])))))
noncomputable def N38 : Ctx := ⟨tlook tys,olook [(42,N1d)],ioF,0,false,[]⟩
theorem Nnd (a : List Int) (b : List (List Int)) : Link N38 LL (Code.seq (cq [0] (bodyOf Tryd.f27)) (cq [0,1] (bodyOf Tryd.f27))) (Ann.seq (aq [0] N16) (aq [0,1] N16)) ⟨mkE 26 0 [(0,.agg [dL a,.dat (.list (.list (.int .i64))) b])],[]⟩ (N8i a b) (Sum.elim (fun (t : Unit) => (Exit.normal,⟨mkE 26 0 [(1,.ptr 0 0)],[some (.box [dL a,.dat (.list (.list (.int .i64))) b])]⟩)) (fun (t : Bool) => (Exit.ret,⟨mkE 26 0 [(2,dB t)],[]⟩))) := .of fun K h => by
  simp only [N8i,wpW] at h
  exact .of (by kernel_rfl) h
theorem Nl1 (a : List Int) (b : List (List Int)) : Link N38 LL (cq [0,0,1,1] (bodyOf Tryd.f27)) (aq [0,0,1,1] N16) ⟨mkE 26 0 [(1,.ptr 0 0)],[some (.box [dL a,.dat (.list (.list (.int .i64))) b])]⟩ (Nal b) (fun (t : Int) => (Exit.normal,⟨mkE 26 0 [(16,.dat (.list (.list (.int .i64))) b),(17,dI t),(18,dI 0)],[]⟩)) := .of fun K h => by
  simp only [Nal,wpW] at h
  exact .of (by kernel_rfl) h
theorem Nyz (a : List (List Int)) (b c : Int) : Link N38 LL (cq [0,0,1,0,1,1] (bodyOf Tryd.f27)) (aq [0,0,1,0,1,1] N16) ⟨mkE 26 0 [(16,.dat (.list (.list (.int .i64))) a),(17,dI b),(18,dI c)],[]⟩ (Nek a b c) (Sum.elim (fun (t : Int) => (Exit.normal,⟨mkE 26 0 [(16,.dat (.list (.list (.int .i64))) a),(17,dI b),(18,dI t)],[]⟩)) (Sum.elim (fun (t : Bool) => (Exit.ret,⟨mkE 26 0 [(2,dB t)],[]⟩)) (fun (t : Unit) => ((Exit.exit 0),⟨mkE 26 0 [],[]⟩)))) := .of fun K h => by
  simp only [Nek,wpW] at h
  exact .of (by kernel_rfl) h
theorem Nmx : Link N38 LL (cq [1,1,1] (bodyOf Tryd.f27)) (aq [1,1,1] N16) ⟨mkE 26 0 [],[]⟩ (Nag) (fun (t : Bool) => (Exit.ret,⟨mkE 26 0 [(2,dB t)],[]⟩)) := .of fun K h => by
  simp only [Nag,wpW] at h
  exact .of (by kernel_rfl) h
theorem Nxz (b : List Int) (d : List (List Int)) {r : AV} {H' : Heap} (h : (Ans.mk _ (N4d b d) (fun (t : Bool) => (dB t,[])) [] none).run = some (r,H')) : Awp N38 LL (bodyOf Tryd.f27) N16 ⟨mkE 26 0 [(0,.agg [dL b,.dat (.list (.list (.int .i64))) d])],[]⟩ (Ret (tlook tys) Tryd.f27.results.toList r H') :=
  ret_of' (Link.cast (by kernel_rfl) (by kernel_rfl) (link_group (c := (cq [0,1] (bodyOf Tryd.f27))) (a := (aq [0,1] N16)) [(cq [0] (bodyOf Tryd.f27))] [(aq [0] N16)] rfl (link_seq2 (Nnd b d) (fun (t : Unit) => (link_seq2 (link_seq (Nl1 b d) (fun (t : Int) => (link_block (fin2 := (Sum.elim (fun (t12 : Unit) => (Exit.normal,⟨mkE 26 0 [],[]⟩)) (fun (t12 : Bool) => (Exit.ret,⟨mkE 26 0 [(2,dB t12)],[]⟩)))) (id := 0) (link_loop (mk := fun (s : Int) => ⟨mkE 26 0 [(16,.dat (.list (.list (.int .i64))) d),(17,dI t),(18,dI s)],[]⟩) (fin := (Sum.elim (fun (t12 : Bool) => (Exit.ret,⟨mkE 26 0 [(2,dB t12)],[]⟩)) (fun (t12 : Unit) => ((Exit.exit 0),⟨mkE 26 0 [],[]⟩)))) (by
  rintro (t12 | t12) f K h
  · exact h
  · exact h) (fun s => link_map (Nyz d t s) (Sum.elim (fun (t12 : Int) => Sum.inl t12) (Sum.elim (fun (t12 : Bool) => Sum.inr (Sum.inl t12)) (fun (t12 : Unit) => Sum.inr (Sum.inr t12)))) (by
  rintro (t12 | t12 | t12)
  · kernel_rfl
  · kernel_rfl
  · kernel_rfl)) 0) (Sum.elim (fun (t12 : Bool) => (Sum.inr t12)) (fun (t12 : Unit) => (Sum.inl ()))) (by
  rintro (t12 | t12) K h
  · exact Eq.mp (by kernel_rfl) h
  · exact Eq.mp (by kernel_rfl) h)))) (fun (t : Unit) => (Nmx)) (fun (t : Bool) => t) (by
  rintro t
  · kernel_rfl) (by
  rintro t f K h
  · exact h))) (fun (t : Bool) => t) (by
  rintro t
  · kernel_rfl) (by
  rintro t f K h
  · exact h)))) (by unfold N4d; kernel_rfl) (by
  intro t
  exact ret_mk [dB t] (by kernel_rfl) (by kernel_rfl) (by kernel_rfl) (by kernel_rfl)) h
def N69 : Fun := fun avs H =>
  match avs,H with
  | [.agg [.dat (.list (.int .i64)) a,.dat (.list (.list (.int .i64))) b]],[] => ⟨_,N4d a b,fun (t : Bool) => (dB t,[]),[],none⟩
  | _,_ => Ans.no
theorem Nhi : Sound Tryd.prog 27 N69 := by
  refine fn_sound' (C := N38) (c := bodyOf Tryd.f27) (cok_of tys_ok (allc N1s alln) (allc Tryd.call42 alln) (by kernel_rfl)) Tryd.func27 (by kernel_rfl) LL N16 ?_
  intro avs H r H' h
  unfold N69 at h
  split at h
  · refine Awp.cast ?_ ?_ ?_ (Nxz _ _ h) <;> kernel_rfl
  · simp [Ans.no,Ans.run] at h

def Nae : Ann := (.seq (.leaf [0]) (.seq (.seq (.leaf [3]) (.block (.seq (.leaf [3,4]) (.cond (.seq (.leaf [2]) (.leaf [2])) (.seq (.leaf [6]) (.cond (.seq (.leaf [2]) (.leaf [2])) (.leaf []))))))) (.seq (.leaf [2]) (.leaf [2]))))
noncomputable def Ndz : Ctx := ⟨tlook tys,olook [],ioF,0,false,[]⟩
theorem Nl6 (a : Int) : Link Ndz LL (bodyOf Tryd.f43) Nae ⟨mkE 8 0 [(0,dI a)],[]⟩ (Ncr a) (fun (t : Int) => (Exit.ret,⟨mkE 8 0 [(2,dI t)],[]⟩)) := .of fun K h => by
  simp only [Ncr,wpW] at h
  exact .of (by kernel_rfl) h
theorem Nz5 (a : Int) {r : AV} {H' : Heap} (h : (Ans.mk _ (N5a a) (fun (t : Int) => (dI t,[])) [] none).run = some (r,H')) : Awp Ndz LL (bodyOf Tryd.f43) Nae ⟨mkE 8 0 [(0,dI a)],[]⟩ (Ret (tlook tys) Tryd.f43.results.toList r H') :=
  ret_of' (Nl6 a) (by unfold N5a; kernel_rfl) (by
  intro t
  exact ret_mk [dI t] (by kernel_rfl) (by kernel_rfl) (by kernel_rfl) (by kernel_rfl)) h
def Nb3 : Fun := fun avs H =>
  match avs,H with
  | [.dat (.int .i64) a],[] => ⟨_,N5a a,fun (t : Int) => (dI t,[]),[],none⟩
  | _,_ => Ans.no
theorem Nn6 : Sound Tryd.prog 43 Nb3 := by
  refine fn_sound' (C := Ndz) (c := bodyOf Tryd.f43) (cok_of tys_ok (alln) (alln) (by kernel_rfl)) Tryd.func43 (by kernel_rfl) LL Nae ?_
  intro avs H r H' h
  unfold Nb3 at h
  split at h
  · refine Awp.cast ?_ ?_ ?_ (Nz5 _ h) <;> kernel_rfl
  · simp [Ans.no,Ans.run] at h

def Ncf : Ann := (.seq (.leaf [1]) (.seq (.leaf [1,3]) (.seq (.leaf [2]) (.leaf [2]))))
noncomputable def Ne9 : Ctx := ⟨tlook tys,olook [(43,Nb3)],ioF,0,false,[]⟩
theorem Nv2 (a b c : Int) : Link Ne9 LL (bodyOf Tryd.f28) Ncf ⟨mkE 23 0 [(0,.agg [dI a,dI b,dI c])],[]⟩ (N9z a b c) (fun (t : Bool) => (Exit.ret,⟨mkE 23 0 [(2,dB t)],[]⟩)) := .of fun K h => by
  simp only [N9z,wpW] at h
  exact .of (by kernel_rfl) h
theorem Np2 (a b c : Int) {r : AV} {H' : Heap} (h : (Ans.mk _ (N6m a b c) (fun (t : Bool) => (dB t,[])) [] none).run = some (r,H')) : Awp Ne9 LL (bodyOf Tryd.f28) Ncf ⟨mkE 23 0 [(0,.agg [dI a,dI b,dI c])],[]⟩ (Ret (tlook tys) Tryd.f28.results.toList r H') :=
  ret_of' (Nv2 a b c) (by unfold N6m; kernel_rfl) (by
  intro t
  exact ret_mk [dB t] (by kernel_rfl) (by kernel_rfl) (by kernel_rfl) (by kernel_rfl)) h
def N9l : Fun := fun avs H =>
  match avs,H with
  | [.agg [.dat (.int .i64) a,.dat (.int .i64) b,.dat (.int .i64) c]],[] => ⟨_,N6m a b c,fun (t : Bool) => (dB t,[]),[],none⟩
  | _,_ => Ans.no
theorem Nky : Sound Tryd.prog 28 N9l := by
  refine fn_sound' (C := Ne9) (c := bodyOf Tryd.f28) (cok_of tys_ok (allc Nn6 alln) (allc Tryd.call43 alln) (by kernel_rfl)) Tryd.func28 (by kernel_rfl) LL Ncf ?_
  intro avs H r H' h
  unfold N9l at h
  split at h
  · refine Awp.cast ?_ ?_ ?_ (Np2 _ _ _ h) <;> kernel_rfl
  · simp [Ans.no,Ans.run] at h

def ren_slices_Clone_int_int : Go.Shelf.Ren := ⟨fun | 41 => 44 | n => n,fun | 4 => 4 | 22 => 22 | 23 => 3 | n => n,fun n => n⟩
theorem lay_slices_Clone_int_int : SlLaysE0.n41 Tryd.prog ren_slices_Clone_int_int := {
  mixed := by kernel_rfl
  f41 := ⟨Tryd.f44.name,by kernel_rfl,Tryd.func44.trans (congrArg some (by kernel_rfl))⟩
  t4 := Tryd.underlying4
  a4 := Tryd.isAgg4
  z4 := Tryd.sizeOf4
  v4 := Tryd.zeroValue4
  t22 := Tryd.underlying22
  a22 := Tryd.isAgg22
  z22 := Tryd.sizeOf22
  v22 := Tryd.zeroValue22 }
def Ncz : Fun := F_cloneD
theorem Nfl : Sound Tryd.prog 44 Ncz := cloneD_sound lay_slices_Clone_int_int (infoOf (Tryd.prog.info? 3)) (.int .i64 0) 8 (by kernel_rfl) (by kernel_rfl) (by kernel_rfl) (by kernel_rfl) (by kernel_rfl) (by decide) Tryd.sizeOf3

def Nr : Ann := (.seq (.leaf [0,1,4]) (.seq (.leaf [1,4,5]) (.seq (.seq (.leafF [⟨3,5,true,some 1,some (.int .i64)⟩] [4,5,11,12,13]) (.block (.loop (.seq (.leaf [4,5,11,12,13,14]) (.seq (.cond (.leaf [4,5,11,12,13]) (.leaf [4,5])) (.seq (.block (.seq (.leaf [4,5,7,11,12,13]) (.draw [3,100005] [0,1,2,3,4,5,6,7] [] [4,5,11,12,13]))) (.leaf [4,5,11,12,13]))))))) (.seq (.leaf [4]) (.leaf [4])))))
noncomputable def N3g : Ctx := ⟨tlook tys,olook [(44,Ncz)],ioF,0,true,[]⟩
theorem Nrs (a : List Int) (b : List (List Int)) : Link N3g LL (Code.seq (cq [0] (bodyOf Tryd.f29)) (cq [0,1] (bodyOf Tryd.f29))) (Ann.seq (aq [0] Nr) (aq [0,1] Nr)) ⟨mkE 26 0 [(0,dL a),(1,.dat (.list (.list (.int .i64))) b)],[]⟩ (N8s a) (fun (t : (List Int)) => (Exit.normal,⟨mkE 26 0 [(1,.dat (.list (.list (.int .i64))) b),(4,.ptr 0 0),(5,.ptr 1 0)],[some (.box [.nils,.nils]),some (.box [.slc 2,.nils]),some (sI t)]⟩)) := .of fun K h => by
  simp only [N8s,wpW] at h
  exact .of (by kernel_rfl) h
theorem Niz (a : List (List Int)) (b : List Int) : Link N3g LL (cq [0,0,1,1] (bodyOf Tryd.f29)) (aq [0,0,1,1] Nr) ⟨mkE 26 0 [(1,.dat (.list (.list (.int .i64))) a),(4,.ptr 0 0),(5,.ptr 1 0)],[some (.box [.nils,.nils]),some (.box [.slc 2,.nils]),some (sI b)]⟩ (Ncp a) (fun (t : Int) => (Exit.normal,⟨mkE 26 0 [(4,.ptr 0 0),(5,.ptr 1 0),(11,.dat (.list (.list (.int .i64))) a),(12,dI t),(13,dI 0)],[some (.box [.nils,.nils]),some (.box [.slc 2,.slc 3]),some (sI b),some (.nest (.int .i64) ([] : List (List Int)) 0 [])]⟩)) := .of fun K h => by
  simp only [Ncp,wpW] at h
  exact .of (by kernel_rfl) h
theorem Nnh (a : List (List Int)) (b c : Int) (d : List Int) (g : List (List Int)) : Link N3g LL (cq [0,0,1,0,1,1] (bodyOf Tryd.f29)) (aq [0,0,1,0,1,1] Nr) ⟨mkE 26 0 [(4,.ptr 0 0),(5,.ptr 1 0),(11,.dat (.list (.list (.int .i64))) a),(12,dI b),(13,dI c)],[some (.box [.nils,.nils]),some (.box [.slc 2,.slc 3]),some (sI d),some (.nest (.int .i64) g 0 [])]⟩ (Nb9 a b c g) (Sum.elim (fun (t : Int × (List (List Int))) => (Exit.normal,⟨mkE 26 0 [(4,.ptr 0 0),(5,.ptr 1 0),(11,.dat (.list (.list (.int .i64))) a),(12,dI b),(13,dI t.1)],[some (.box [.nils,.nils]),some (.box [.slc 2,.slc 3]),some (sI d),some (.nest (.int .i64) t.2 0 [])]⟩)) (fun (t : (List (List Int))) => ((Exit.exit 0),⟨mkE 26 0 [(4,.ptr 0 0),(5,.ptr 1 0)],[some (.box [.nils,.nils]),some (.box [.slc 2,.slc 3]),some (sI d),some (.nest (.int .i64) t 0 [])]⟩))) := .of fun K h => by
  simp only [Nb9,wpW] at h
  exact .of (by kernel_rfl) h
theorem Njy (a : List Int) (b : List (List Int)) : Link N3g LL (cq [1,1,1] (bodyOf Tryd.f29)) (aq [1,1,1] Nr) ⟨mkE 26 0 [(4,.ptr 0 0),(5,.ptr 1 0)],[some (.box [.nils,.nils]),some (.box [.slc 2,.slc 3]),some (sI a),some (.nest (.int .i64) b 0 [])]⟩ (N9j a b) (fun (t : (List Int) × (List (List Int))) => (Exit.ret,⟨mkE 26 0 [(4,.ptr 0 0)],[some (.box [.slc 1,.slc 2]),some (sI t.1),some (.nest (.int .i64) t.2 0 [])]⟩)) := .of fun K h => by
  simp only [N9j,wpW] at h
  exact .of (by kernel_rfl) h
theorem Nls (b : List Int) (d : List (List Int)) {r : AV} {H' : Heap} (h : (Ans.mk _ (Nl b d) (fun (t : (List Int) × (List (List Int))) => (.agg [.slc 1,.slc 2],[some (.box [.slc 1,.slc 2]),some (sI t.1),some (.nest (.int .i64) t.2 0 [])])) [] none).run = some (r,H')) : Awp N3g LL (bodyOf Tryd.f29) Nr ⟨mkE 26 0 [(0,dL b),(1,.dat (.list (.list (.int .i64))) d)],[]⟩ (Ret (tlook tys) Tryd.f29.results.toList r H') :=
  ret_of' (Link.cast (by kernel_rfl) (by kernel_rfl) (link_group (c := (cq [0,1] (bodyOf Tryd.f29))) (a := (aq [0,1] Nr)) [(cq [0] (bodyOf Tryd.f29))] [(aq [0] Nr)] rfl (link_seq (Nrs b d) (fun (t : (List Int)) => (link_seq (link_seq (Niz d t) (fun (t37 : Int) => (link_block (fin2 := (fun (t13 : (List (List Int))) => (Exit.normal,⟨mkE 26 0 [(4,.ptr 0 0),(5,.ptr 1 0)],[some (.box [.nils,.nils]),some (.box [.slc 2,.slc 3]),some (sI t),some (.nest (.int .i64) t13 0 [])]⟩))) (id := 0) (link_loop (mk := fun (s : Int × (List (List Int))) => ⟨mkE 26 0 [(4,.ptr 0 0),(5,.ptr 1 0),(11,.dat (.list (.list (.int .i64))) d),(12,dI t37),(13,dI s.1)],[some (.box [.nils,.nils]),some (.box [.slc 2,.slc 3]),some (sI t),some (.nest (.int .i64) s.2 0 [])]⟩) (fin := (fun (t13 : (List (List Int))) => ((Exit.exit 0),⟨mkE 26 0 [(4,.ptr 0 0),(5,.ptr 1 0)],[some (.box [.nils,.nils]),some (.box [.slc 2,.slc 3]),some (sI t),some (.nest (.int .i64) t13 0 [])]⟩))) (by
  rintro t13 f K h
  · exact h) (fun s => link_map (Nnh d t37 s.1 t s.2) (Sum.elim (fun (t13 : Int × (List (List Int))) => Sum.inl (t13.1,t13.2)) (fun (t13 : (List (List Int))) => Sum.inr t13)) (by
  rintro (t13 | t13)
  · kernel_rfl
  · kernel_rfl)) (0,([] : List (List Int)))) (fun (t13 : (List (List Int))) => t13) (by
  rintro t13 K h
  · exact Eq.mp (by kernel_rfl) h)))) (fun (t37 : (List (List Int))) => (Njy t t37))))))) (by unfold Nl; kernel_rfl) (by
  intro t
  exact ret_mk [.agg [.slc 1,.slc 2]] (by kernel_rfl) (by kernel_rfl) (by kernel_rfl) (by kernel_rfl)) h
def N2e : Fun := fun avs H =>
  match avs,H with
  | [.dat (.list (.int .i64)) a,.dat (.list (.list (.int .i64))) b],[] => ⟨_,Nl a b,fun (t : (List Int) × (List (List Int))) => (.agg [.slc 1,.slc 2],[some (.box [.slc 1,.slc 2]),some (sI t.1),some (.nest (.int .i64) t.2 0 [])]),[],none⟩
  | _,_ => Ans.no
theorem N7o : Sound Tryd.prog 29 N2e := by
  refine fn_sound' (C := N3g) (c := bodyOf Tryd.f29) (cok_of tys_ok (allc Nfl alln) (allc Tryd.call44 alln) (by kernel_rfl)) Tryd.func29 (by kernel_rfl) LL Nr ?_
  intro avs H r H' h
  unfold N2e at h
  split at h
  · refine Awp.cast ?_ ?_ ?_ (Nls _ _ h) <;> kernel_rfl
  · simp [Ans.no,Ans.run] at h

def Nan : Ann := (.seq (.leaf [1,2]) (.seq (.leaf [1,2,4]) (.seq (.seq (.leaf [1,2,4,10]) (.cond (.seq (.leaf [2,3]) (.leaf [2,3])) (.leaf [1,2,4]))) (.seq (.draw [9] [0,1,2,3,4,5,6,7,8,9,10,11] [] [2,3]) (.leaf [2,3])))))
noncomputable def Nev : Ctx := ⟨tlook tys,olook [(29,N2e)],ioF,0,true,[]⟩
theorem Nlg (a : List Int) (b : List (List Int)) : Link Nev LL (bodyOf Tryd.f30) Nan ⟨mkE 24 0 [(0,.agg [dL a,.dat (.list (.list (.int .i64))) b])],[]⟩ (Ndv a b) (fun (t : Bool × (List Int) × (List (List Int))) => (Exit.ret,⟨mkE 24 0 [(2,.ptr 0 0),(3,dB t.1)],[some (.box [.slc 1,.slc 2]),some (sI t.2.1),some (.nest (.int .i64) t.2.2 0 [])]⟩)) := .of fun K h => by
  simp only [Ndv,wpW] at h
  exact .of (by kernel_rfl) h
theorem Nux (a : List Int) (b : List (List Int)) {r : AV} {H' : Heap} (h : (Ans.mk _ (N7i a b) (fun (t : Bool × (List Int) × (List (List Int))) => (.tup [.agg [.slc 1,.slc 2],dB t.1],[some (.box [.slc 1,.slc 2]),some (sI t.2.1),some (.nest (.int .i64) t.2.2 0 [])])) [] none).run = some (r,H')) : Awp Nev LL (bodyOf Tryd.f30) Nan ⟨mkE 24 0 [(0,.agg [dL a,.dat (.list (.list (.int .i64))) b])],[]⟩ (Ret (tlook tys) Tryd.f30.results.toList r H') :=
  ret_of' (Nlg a b) (by unfold N7i; kernel_rfl) (by
  intro t
  exact ret_mk [.agg [.slc 1,.slc 2],dB t.1] (by kernel_rfl) (by kernel_rfl) (by kernel_rfl) (by kernel_rfl)) h
def Nd4 : Fun := fun avs H =>
  match avs,H with
  | [.agg [.dat (.list (.int .i64)) a,.dat (.list (.list (.int .i64))) b]],[] => ⟨_,N7i a b,fun (t : Bool × (List Int) × (List (List Int))) => (.tup [.agg [.slc 1,.slc 2],dB t.1],[some (.box [.slc 1,.slc 2]),some (sI t.2.1),some (.nest (.int .i64) t.2.2 0 [])]),[],none⟩
  | _,_ => Ans.no
theorem Nv8 : Sound Tryd.prog 30 Nd4 := by
  refine fn_sound' (C := Nev) (c := bodyOf Tryd.f30) (cok_of tys_ok (allc N7o alln) (allc Tryd.call29 alln) (by kernel_rfl)) Tryd.func30 (by kernel_rfl) LL Nan ?_
  intro avs H r H' h
  unfold Nd4 at h
  split at h
  · refine Awp.cast ?_ ?_ ?_ (Nux _ _ h) <;> kernel_rfl
  · simp [Ans.no,Ans.run] at h

def Ne3 : Ann := (.seq (.leaf [0,1]) (.seq (.leaf [4]) (.leaf [4])))
noncomputable def Nc1 : Ctx := ⟨tlook tys,olook [(42,N1d)],ioF,0,false,[]⟩
theorem Njt (a : List Int) (b : Int) : Link Nc1 LL (bodyOf Tryd.f52) Ne3 ⟨mkE 17 0 [(0,dL a),(1,dI b)],[]⟩ (N8y a b) (fun (t : Bool) => (Exit.ret,⟨mkE 17 0 [(4,dB t)],[]⟩)) := .of fun K h => by
  simp only [N8y,wpW] at h
  exact .of (by kernel_rfl) h
theorem Ny7 (a : List Int) (b : Int) {r : AV} {H' : Heap} (h : (Ans.mk _ (N7m a b) (fun (t : Bool) => (dB t,[])) [] none).run = some (r,H')) : Awp Nc1 LL (bodyOf Tryd.f52) Ne3 ⟨mkE 17 0 [(0,dL a),(1,dI b)],[]⟩ (Ret (tlook tys) Tryd.f52.results.toList r H') :=
  ret_of' (Njt a b) (by unfold N7m; kernel_rfl) (by
  intro t
  exact ret_mk [dB t] (by kernel_rfl) (by kernel_rfl) (by kernel_rfl) (by kernel_rfl)) h
def Ndw : Fun := fun avs H =>
  match avs,H with
  | [.dat (.list (.int .i64)) a,.dat (.int .i64) b],[] => ⟨_,N7m a b,fun (t : Bool) => (dB t,[]),[],none⟩
  | _,_ => Ans.no
theorem Nq8 : Sound Tryd.prog 52 Ndw := by
  refine fn_sound' (C := Nc1) (c := bodyOf Tryd.f52) (cok_of tys_ok (allc N1s alln) (allc Tryd.call42 alln) (by kernel_rfl)) Tryd.func52 (by kernel_rfl) LL Ne3 ?_
  intro avs H r H' h
  unfold Ndw at h
  split at h
  · refine Awp.cast ?_ ?_ ?_ (Ny7 _ _ h) <;> kernel_rfl
  · simp [Ans.no,Ans.run] at h

def N17 : Ann := (.seq (.leaf [0]) (.seq (.leaf [0,3]) (.seq (.seq (.leaf [0,3,8,9]) (.block (.loop (.seq (.leaf [0,3,8,9,10]) (.seq (.cond (.leaf [0,3,8,9]) (.leaf [3])) (.seq (.block (.seq (.leaf [0,3,4,8,9]) (.leaf [0,3,8,9]))) (.leaf [0,3,8,9]))))))) (.seq (.leaf [2]) (.leaf [2])))))
noncomputable def N3x : Ctx := ⟨tlook tys,olook [],ioF,0,false,[]⟩
theorem Nz6 (a : Int) : Link N3x LL (Code.seq (cq [0] (bodyOf Tryd.f60)) (cq [0,1] (bodyOf Tryd.f60))) (Ann.seq (aq [0] N17) (aq [0,1] N17)) ⟨mkE 20 0 [(0,dI a)],[]⟩ (Ndg a) (fun (t : (List Int)) => (Exit.normal,⟨mkE 20 0 [(0,dI a),(3,.slc 0)],[some (sI t)]⟩)) := .of fun K h => by
  simp only [Ndg,wpW] at h
  exact .of (by kernel_rfl) h
theorem Nol (a : Int) (b : List Int) : Link N3x LL (cq [0,0,1,1] (bodyOf Tryd.f60)) (aq [0,0,1,1] N17) ⟨mkE 20 0 [(0,dI a),(3,.slc 0)],[some (sI b)]⟩ (N9u b) (fun (t : Int) => (Exit.normal,⟨mkE 20 0 [(0,dI a),(3,.slc 0),(8,dI t),(9,dI 0)],[some (sI b)]⟩)) := .of fun K h => by
  simp only [N9u,wpW] at h
  exact .of (by kernel_rfl) h
theorem Nu7 (a b c : Int) (d : List Int) : Link N3x LL (cq [0,0,1,0,1,1] (bodyOf Tryd.f60)) (aq [0,0,1,0,1,1] N17) ⟨mkE 20 0 [(0,dI a),(3,.slc 0),(8,dI b),(9,dI c)],[some (sI d)]⟩ (N8l a b c d) (Sum.elim (fun (t : Int × (List Int)) => (Exit.normal,⟨mkE 20 0 [(0,dI a),(3,.slc 0),(8,dI b),(9,dI t.1)],[some (sI t.2)]⟩)) (fun (t : (List Int)) => ((Exit.exit 0),⟨mkE 20 0 [(3,.slc 0)],[some (sI t)]⟩))) := .of fun K h => by
  simp only [N8l,wpW] at h
  exact .of (by kernel_rfl) h
theorem Nq3 (a : List Int) : Link N3x LL (cq [1,1,1] (bodyOf Tryd.f60)) (aq [1,1,1] N17) ⟨mkE 20 0 [(3,.slc 0)],[some (sI a)]⟩ (Nac a) (fun (t : (List Int)) => (Exit.ret,⟨mkE 20 0 [(2,.slc 0)],[some (sI t)]⟩)) := .of fun K h => by
  simp only [Nac,wpW] at h
  exact .of (by kernel_rfl) h
theorem Nvw (b : Int) {r : AV} {H' : Heap} (h : (Ans.mk _ (N83 b) (fun (t : (List Int)) => (.slc 0,[some (sI t)])) [] none).run = some (r,H')) : Awp N3x LL (bodyOf Tryd.f60) N17 ⟨mkE 20 0 [(0,dI b)],[]⟩ (Ret (tlook tys) Tryd.f60.results.toList r H') :=
  ret_of' (Link.cast (by kernel_rfl) (by kernel_rfl) (link_group (c := (cq [0,1] (bodyOf Tryd.f60))) (a := (aq [0,1] N17)) [(cq [0] (bodyOf Tryd.f60))] [(aq [0] N17)] rfl (link_seq (Nz6 b) (fun (t : (List Int)) => (link_seq (link_seq (Nol b t) (fun (t38 : Int) => (link_block (fin2 := (fun (t14 : (List Int)) => (Exit.normal,⟨mkE 20 0 [(3,.slc 0)],[some (sI t14)]⟩))) (id := 0) (link_loop (mk := fun (s : Int × (List Int)) => ⟨mkE 20 0 [(0,dI b),(3,.slc 0),(8,dI t38),(9,dI s.1)],[some (sI s.2)]⟩) (fin := (fun (t14 : (List Int)) => ((Exit.exit 0),⟨mkE 20 0 [(3,.slc 0)],[some (sI t14)]⟩))) (by
  rintro t14 f K h
  · exact h) (fun s => link_map (Nu7 b t38 s.1 s.2) (Sum.elim (fun (t14 : Int × (List Int)) => Sum.inl (t14.1,t14.2)) (fun (t14 : (List Int)) => Sum.inr t14)) (by
  rintro (t14 | t14)
  · kernel_rfl
  · kernel_rfl)) (0,t)) (fun (t14 : (List Int)) => t14) (by
  rintro t14 K h
  · exact Eq.mp (by kernel_rfl) h)))) (fun (t38 : (List Int)) => (Nq3 t38))))))) (by unfold N83; kernel_rfl) (by
  intro t
  exact ret_mk [.slc 0] (by kernel_rfl) (by kernel_rfl) (by kernel_rfl) (by kernel_rfl)) h
def N9y : Fun := fun avs H =>
  match avs,H with
  | [.dat (.int .i64) a],[] => ⟨_,N83 a,fun (t : (List Int)) => (.slc 0,[some (sI t)]),[],none⟩
  | _,_ => Ans.no
theorem Nl3 : Sound Tryd.prog 60 N9y := by
  refine fn_sound' (C := N3x) (c := bodyOf Tryd.f60) (cok_of tys_ok (alln) (alln) (by kernel_rfl)) Tryd.func60 (by kernel_rfl) LL N17 ?_
  intro avs H r H' h
  unfold N9y at h
  split at h
  · refine Awp.cast ?_ ?_ ?_ (Nvw _ h) <;> kernel_rfl
  · simp [Ans.no,Ans.run] at h

def Nf : Ann := (.seq (.leaf [0,1]) (.seq (.seq (.leaf [0,1,19]) (.cond (.seq (.leaf [4]) (.leaf [4])) (.leaf [0,1]))) (.seq (.leaf [0,1,5]) (.seq (.seq (.leaf [1,5,20,21,22]) (.block (.loop (.seq (.leaf [1,5,20,21,22,23]) (.seq (.cond (.leaf [1,5,20,21,22]) (.leaf [])) (.seq (.block (.seq (.leaf [1,5,7,20,21,22]) (.seq (.seq (.leaf [1,5,7,20,21,22,37]) (.cond (.seq (.leaf [4]) (.leaf [4])) (.leaf [1,5,7,20,21,22]))) (.leaf [1,5,20,21,22])))) (.leaf [1,5,20,21,22]))))))) (.seq (.leaf [4]) (.leaf [4]))))))
noncomputable def N2c : Ctx := ⟨tlook tys,olook [],ioF,0,false,[]⟩
theorem Nke (a : List Int) (b : Int) : Link N2c LL (Code.seq (cq [0] (bodyOf Tryd.f62)) (Code.seq (cq [0,1] (bodyOf Tryd.f62)) (cq [0,1,1] (bodyOf Tryd.f62)))) (Ann.seq (aq [0] Nf) (Ann.seq (aq [0,1] Nf) (aq [0,1,1] Nf))) ⟨mkE 41 0 [(0,dL a),(1,dI b)],[]⟩ (Ne4 a b) (Sum.elim (fun (t : Unit) => (Exit.normal,⟨mkE 41 0 [(0,dL a),(1,dI b),(5,.ptr 0 0)],[some (.seq .bool (List.replicate 9 false))]⟩)) (fun (t : Bool) => (Exit.ret,⟨mkE 41 0 [(4,dB t)],[]⟩))) := .of fun K h => by
  simp only [Ne4,wpW] at h
  exact .of (by kernel_rfl) h
theorem Nir (a : List Int) (b : Int) : Link N2c LL (cq [0,0,1,1,1] (bodyOf Tryd.f62)) (aq [0,0,1,1,1] Nf) ⟨mkE 41 0 [(0,dL a),(1,dI b),(5,.ptr 0 0)],[some (.seq .bool (List.replicate 9 false))]⟩ (Ne5 a) (fun (t : Int) => (Exit.normal,⟨mkE 41 0 [(1,dI b),(5,.ptr 0 0),(20,dL a),(21,dI t),(22,dI 0)],[some (.seq .bool (List.replicate 9 false))]⟩)) := .of fun K h => by
  simp only [Ne5,wpW] at h
  exact .of (by kernel_rfl) h
theorem Nsw (a : Int) (b : List Int) (c d : Int) (g : List Bool) : Link N2c LL (cq [0,0,1,0,1,1,1] (bodyOf Tryd.f62)) (aq [0,0,1,0,1,1,1] Nf) ⟨mkE 41 0 [(1,dI a),(5,.ptr 0 0),(20,dL b),(21,dI c),(22,dI d)],[some (.seq .bool g)]⟩ (Ncg a b c d g) (Sum.elim (fun (t : Int × (List Bool)) => (Exit.normal,⟨mkE 41 0 [(1,dI a),(5,.ptr 0 0),(20,dL b),(21,dI c),(22,dI t.1)],[some (.seq .bool t.2)]⟩)) (Sum.elim (fun (t : Bool) => (Exit.ret,⟨mkE 41 0 [(4,dB t)],[]⟩)) (fun (t : Unit) => ((Exit.exit 0),⟨mkE 41 0 [],[]⟩)))) := .of fun K h => by
  simp only [Ncg,wpW] at h
  exact .of (by kernel_rfl) h
theorem Nkv : Link N2c LL (cq [1,1,1,1] (bodyOf Tryd.f62)) (aq [1,1,1,1] Nf) ⟨mkE 41 0 [],[]⟩ (Ndd) (fun (t : Bool) => (Exit.ret,⟨mkE 41 0 [(4,dB t)],[]⟩)) := .of fun K h => by
  simp only [Ndd,wpW] at h
  exact .of (by kernel_rfl) h
theorem Nn0 (b : List Int) (d : Int) {r : AV} {H' : Heap} (h : (Ans.mk _ (N5c b d) (fun (t : Bool) => (dB t,[])) [] none).run = some (r,H')) : Awp N2c LL (bodyOf Tryd.f62) Nf ⟨mkE 41 0 [(0,dL b),(1,dI d)],[]⟩ (Ret (tlook tys) Tryd.f62.results.toList r H') :=
  ret_of' (Link.cast (by kernel_rfl) (by kernel_rfl) (link_group (c := (cq [0,1,1] (bodyOf Tryd.f62))) (a := (aq [0,1,1] Nf)) [(cq [0] (bodyOf Tryd.f62)),(cq [0,1] (bodyOf Tryd.f62))] [(aq [0] Nf),(aq [0,1] Nf)] rfl (link_seq2 (Nke b d) (fun (t : Unit) => (link_seq2 (link_seq (Nir b d) (fun (t : Int) => (link_block (fin2 := (Sum.elim (fun (t15 : Unit) => (Exit.normal,⟨mkE 41 0 [],[]⟩)) (fun (t15 : Bool) => (Exit.ret,⟨mkE 41 0 [(4,dB t15)],[]⟩)))) (id := 0) (link_loop (mk := fun (s : Int × (List Bool)) => ⟨mkE 41 0 [(1,dI d),(5,.ptr 0 0),(20,dL b),(21,dI t),(22,dI s.1)],[some (.seq .bool s.2)]⟩) (fin := (Sum.elim (fun (t15 : Bool) => (Exit.ret,⟨mkE 41 0 [(4,dB t15)],[]⟩)) (fun (t15 : Unit) => ((Exit.exit 0),⟨mkE 41 0 [],[]⟩)))) (by
  rintro (t15 | t15) f K h
  · exact h
  · exact h) (fun s => link_map (Nsw d b t s.1 s.2) (Sum.elim (fun (t15 : Int × (List Bool)) => Sum.inl (t15.1,t15.2)) (Sum.elim (fun (t15 : Bool) => Sum.inr (Sum.inl t15)) (fun (t15 : Unit) => Sum.inr (Sum.inr t15)))) (by
  rintro (t15 | t15 | t15)
  · kernel_rfl
  · kernel_rfl
  · kernel_rfl)) (0,(List.replicate 9 false))) (Sum.elim (fun (t15 : Bool) => (Sum.inr t15)) (fun (t15 : Unit) => (Sum.inl ()))) (by
  rintro (t15 | t15) K h
  · exact Eq.mp (by kernel_rfl) h
  · exact Eq.mp (by kernel_rfl) h)))) (fun (t : Unit) => (Nkv)) (fun (t : Bool) => t) (by
  rintro t
  · kernel_rfl) (by
  rintro t f K h
  · exact h))) (fun (t : Bool) => t) (by
  rintro t
  · kernel_rfl) (by
  rintro t f K h
  · exact h)))) (by unfold N5c; kernel_rfl) (by
  intro t
  exact ret_mk [dB t] (by kernel_rfl) (by kernel_rfl) (by kernel_rfl) (by kernel_rfl)) h
def N9r : Fun := fun avs H =>
  match avs,H with
  | [.dat (.list (.int .i64)) a,.dat (.int .i64) b],[] => ⟨_,N5c a b,fun (t : Bool) => (dB t,[]),[],none⟩
  | _,_ => Ans.no
theorem Nzj : Sound Tryd.prog 62 N9r := by
  refine fn_sound' (C := N2c) (c := bodyOf Tryd.f62) (cok_of tys_ok (alln) (alln) (by kernel_rfl)) Tryd.func62 (by kernel_rfl) LL Nf ?_
  intro avs H r H' h
  unfold N9r at h
  split at h
  · refine Awp.cast ?_ ?_ ?_ (Nn0 _ _ h) <;> kernel_rfl
  · simp [Ans.no,Ans.run] at h

def N11 : Ann := (.seq (.leaf [0]) (.seq (.leaf [0,3]) (.seq (.seq (.leaf [3,10,11,12]) (.block (.loop (.seq (.leaf [3,10,11,12,13]) (.seq (.cond (.leaf [3,10,11,12]) (.leaf [3])) (.seq (.block (.seq (.leaf [3,4,5,10,11,12]) (.leaf [3,10,11,12]))) (.leaf [3,10,11,12]))))))) (.seq (.leaf [2]) (.leaf [2])))))
noncomputable def N3t : Ctx := ⟨tlook tys,olook [],ioF,0,false,[]⟩
theorem Nyb (a : List Int) : Link N3t LL (Code.seq (cq [0] (bodyOf Tryd.f63)) (cq [0,1] (bodyOf Tryd.f63))) (Ann.seq (aq [0] N11) (aq [0,1] N11)) ⟨mkE 24 0 [(0,dL a)],[]⟩ (Nd9 a) (fun (t : (List Int)) => (Exit.normal,⟨mkE 24 0 [(0,dL a),(3,.slc 0)],[some (sI t)]⟩)) := .of fun K h => by
  simp only [Nd9,wpW] at h
  exact .of (by kernel_rfl) h
theorem Nnt (a b : List Int) : Link N3t LL (cq [0,0,1,1] (bodyOf Tryd.f63)) (aq [0,0,1,1] N11) ⟨mkE 24 0 [(0,dL a),(3,.slc 0)],[some (sI b)]⟩ (Nau a) (fun (t : Int) => (Exit.normal,⟨mkE 24 0 [(3,.slc 0),(10,dL a),(11,dI t),(12,dI 0)],[some (sI b)]⟩)) := .of fun K h => by
  simp only [Nau,wpW] at h
  exact .of (by kernel_rfl) h
theorem Nwb (a : List Int) (b c : Int) (d : List Int) : Link N3t LL (cq [0,0,1,0,1,1] (bodyOf Tryd.f63)) (aq [0,0,1,0,1,1] N11) ⟨mkE 24 0 [(3,.slc 0),(10,dL a),(11,dI b),(12,dI c)],[some (sI d)]⟩ (N39 a b c d) (Sum.elim (fun (t : Int × (List Int)) => (Exit.normal,⟨mkE 24 0 [(3,.slc 0),(10,dL a),(11,dI b),(12,dI t.1)],[some (sI t.2)]⟩)) (fun (t : (List Int)) => ((Exit.exit 0),⟨mkE 24 0 [(3,.slc 0)],[some (sI t)]⟩))) := .of fun K h => by
  simp only [N39,wpW] at h
  exact .of (by kernel_rfl) h
theorem Nkd (a : List Int) : Link N3t LL (cq [1,1,1] (bodyOf Tryd.f63)) (aq [1,1,1] N11) ⟨mkE 24 0 [(3,.slc 0)],[some (sI a)]⟩ (N8m a) (fun (t : (List Int)) => (Exit.ret,⟨mkE 24 0 [(2,.slc 0)],[some (sI t)]⟩)) := .of fun K h => by
  simp only [N8m,wpW] at h
  exact .of (by kernel_rfl) h
theorem Nl5 (b : List Int) {r : AV} {H' : Heap} (h : (Ans.mk _ (N6u b) (fun (t : (List Int)) => (.slc 0,[some (sI t)])) [] none).run = some (r,H')) : Awp N3t LL (bodyOf Tryd.f63) N11 ⟨mkE 24 0 [(0,dL b)],[]⟩ (Ret (tlook tys) Tryd.f63.results.toList r H') :=
  ret_of' (Link.cast (by kernel_rfl) (by kernel_rfl) (link_group (c := (cq [0,1] (bodyOf Tryd.f63))) (a := (aq [0,1] N11)) [(cq [0] (bodyOf Tryd.f63))] [(aq [0] N11)] rfl (link_seq (Nyb b) (fun (t : (List Int)) => (link_seq (link_seq (Nnt b t) (fun (t39 : Int) => (link_block (fin2 := (fun (t16 : (List Int)) => (Exit.normal,⟨mkE 24 0 [(3,.slc 0)],[some (sI t16)]⟩))) (id := 0) (link_loop (mk := fun (s : Int × (List Int)) => ⟨mkE 24 0 [(3,.slc 0),(10,dL b),(11,dI t39),(12,dI s.1)],[some (sI s.2)]⟩) (fin := (fun (t16 : (List Int)) => ((Exit.exit 0),⟨mkE 24 0 [(3,.slc 0)],[some (sI t16)]⟩))) (by
  rintro t16 f K h
  · exact h) (fun s => link_map (Nwb b t39 s.1 s.2) (Sum.elim (fun (t16 : Int × (List Int)) => Sum.inl (t16.1,t16.2)) (fun (t16 : (List Int)) => Sum.inr t16)) (by
  rintro (t16 | t16)
  · kernel_rfl
  · kernel_rfl)) (0,t)) (fun (t16 : (List Int)) => t16) (by
  rintro t16 K h
  · exact Eq.mp (by kernel_rfl) h)))) (fun (t39 : (List Int)) => (Nkd t39))))))) (by unfold N6u; kernel_rfl) (by
  intro t
  exact ret_mk [.slc 0] (by kernel_rfl) (by kernel_rfl) (by kernel_rfl) (by kernel_rfl)) h
def Nbt : Fun := fun avs H =>
  match avs,H with
  | [.dat (.list (.int .i64)) a],[] => ⟨_,N6u a,fun (t : (List Int)) => (.slc 0,[some (sI t)]),[],none⟩
  | _,_ => Ans.no
theorem Nje : Sound Tryd.prog 63 Nbt := by
  refine fn_sound' (C := N3t) (c := bodyOf Tryd.f63) (cok_of tys_ok (alln) (alln) (by kernel_rfl)) Tryd.func63 (by kernel_rfl) LL N11 ?_
  intro avs H r H' h
  unfold Nbt at h
  split at h
  · refine Awp.cast ?_ ?_ ?_ (Nl5 _ h) <;> kernel_rfl
  · simp [Ans.no,Ans.run] at h

def N8z : Ann := (.seq (.leaf [0,1]) (.seq (.leaf [3]) (.leaf [3])))
noncomputable def N9s : Ctx := ⟨tlook tys,olook [],ioF,2,false,[]⟩
theorem Nrq (a : Int) (b : List Int) : Link N9s LL (bodyOf Tryd.f65) N8z ⟨mkE 8 0 [(0,dI a),(1,.ptr 0 0)],[some (.box [.slc 1]),some (sI b)]⟩ (Nd1 a b) (fun (t : Int) => (Exit.ret,⟨mkE 8 0 [(3,dI t)],[some (.box [.slc 1]),some (sI b)]⟩)) := .of fun K h => by
  simp only [Nd1,wpW] at h
  exact .of (by kernel_rfl) h
theorem Nmr (a : Int) (b : List Int) {r : AV} {H' : Heap} (h : (Ans.mk _ (N7v a b) (fun (t : Int) => (dI t,[some (.box [.slc 1]),some (sI b)])) [] none).run = some (r,H')) : Awp N9s LL (bodyOf Tryd.f65) N8z ⟨mkE 8 0 [(0,dI a),(1,.ptr 0 0)],[some (.box [.slc 1]),some (sI b)]⟩ (Ret (tlook tys) Tryd.f65.results.toList r H') :=
  ret_of' (Nrq a b) (by unfold N7v; kernel_rfl) (by
  intro t
  exact ret_mk [dI t] (by kernel_rfl) (by kernel_rfl) (by kernel_rfl) (by kernel_rfl)) h
def Ned : Fun := fun avs H =>
  match avs,H with
  | [.dat (.int .i64) a,.ptr 0 0],[some (.box [.slc 1]),some (.seq (.int .i64) b)] => ⟨_,N7v a b,fun (t : Int) => (dI t,[some (.box [.slc 1]),some (sI b)]),[],none⟩
  | _,_ => Ans.no
theorem Nq1 : Sound Tryd.prog 65 Ned := by
  refine fn_sound' (C := N9s) (c := bodyOf Tryd.f65) (cok_of tys_ok (alln) (alln) (by kernel_rfl)) Tryd.func65 (by kernel_rfl) LL N8z ?_
  intro avs H r H' h
  unfold Ned at h
  split at h
  · refine Awp.cast ?_ ?_ ?_ (Nmr _ _ h) <;> kernel_rfl
  · simp [Ans.no,Ans.run] at h

def Nx : Ann := (.seq (.leaf [0,1,2]) (.seq (.leaf [0,1,2,7]) (.seq (.seq (.leaf [0,2,7,13,14,15]) (.block (.loop (.seq (.leaf [0,2,7,13,14,15,16]) (.seq (.cond (.leaf [0,2,7,13,14,15]) (.leaf [7])) (.seq (.block (.seq (.leaf [0,2,7,8,9,13,14,15]) (.leaf [0,2,7,13,14,15]))) (.leaf [0,2,7,13,14,15]))))))) (.seq (.leaf [6]) (.leaf [6])))))
noncomputable def N3q : Ctx := ⟨tlook tys,olook [(65,Ned)],ioF,2,false,[]⟩
theorem Nnp (a b c : List Int) : Link N3q LL (Code.seq (cq [0] (bodyOf Tryd.f64)) (cq [0,1] (bodyOf Tryd.f64))) (Ann.seq (aq [0] Nx) (aq [0,1] Nx)) ⟨mkE 32 0 [(0,dL a),(1,dL b),(2,.fn 65 [] [.ptr 0 0])],[some (.box [.slc 1]),some (sI c)]⟩ (N9t b) (fun (t : (List Int)) => (Exit.normal,⟨mkE 32 0 [(0,dL a),(1,dL b),(2,.fn 65 [] [.ptr 0 0]),(7,.slc 2)],[some (.box [.slc 1]),some (sI c),some (sI t)]⟩)) := .of fun K h => by
  simp only [N9t,wpW] at h
  exact .of (by kernel_rfl) h
theorem N10p (a b c d : List Int) : Link N3q LL (cq [0,0,1,1] (bodyOf Tryd.f64)) (aq [0,0,1,1] Nx) ⟨mkE 32 0 [(0,dL a),(1,dL b),(2,.fn 65 [] [.ptr 0 0]),(7,.slc 2)],[some (.box [.slc 1]),some (sI c),some (sI d)]⟩ (Nap b) (fun (t : Int) => (Exit.normal,⟨mkE 32 0 [(0,dL a),(2,.fn 65 [] [.ptr 0 0]),(7,.slc 2),(13,dL b),(14,dI t),(15,dI 0)],[some (.box [.slc 1]),some (sI c),some (sI d)]⟩)) := .of fun K h => by
  simp only [Nap,wpW] at h
  exact .of (by kernel_rfl) h
theorem Nz7 (a b : List Int) (c d : Int) (g i : List Int) : Link N3q LL (cq [0,0,1,0,1,1] (bodyOf Tryd.f64)) (aq [0,0,1,0,1,1] Nx) ⟨mkE 32 0 [(0,dL a),(2,.fn 65 [] [.ptr 0 0]),(7,.slc 2),(13,dL b),(14,dI c),(15,dI d)],[some (.box [.slc 1]),some (sI g),some (sI i)]⟩ (New a b c d g i) (Sum.elim (fun (t : Int × (List Int)) => (Exit.normal,⟨mkE 32 0 [(0,dL a),(2,.fn 65 [] [.ptr 0 0]),(7,.slc 2),(13,dL b),(14,dI c),(15,dI t.1)],[some (.box [.slc 1]),some (sI g),some (sI t.2)]⟩)) (fun (t : (List Int)) => ((Exit.exit 0),⟨mkE 32 0 [(7,.slc 2)],[some (.box [.slc 1]),some (sI g),some (sI t)]⟩))) := .of fun K h => by
  simp only [New,wpW] at h
  exact .of (by kernel_rfl) h
theorem Nog (a b : List Int) : Link N3q LL (cq [1,1,1] (bodyOf Tryd.f64)) (aq [1,1,1] Nx) ⟨mkE 32 0 [(7,.slc 2)],[some (.box [.slc 1]),some (sI a),some (sI b)]⟩ (Nch b) (fun (t : (List Int)) => (Exit.ret,⟨mkE 32 0 [(6,.slc 2)],[some (.box [.slc 1]),some (sI a),some (sI t)]⟩)) := .of fun K h => by
  simp only [Nch,wpW] at h
  exact .of (by kernel_rfl) h
theorem Now (b d g : List Int) {r : AV} {H' : Heap} (h : (Ans.mk _ (N54 b d g) (fun (t : (List Int)) => (.slc 2,[some (.box [.slc 1]),some (sI g),some (sI t)])) [] none).run = some (r,H')) : Awp N3q LL (bodyOf Tryd.f64) Nx ⟨mkE 32 0 [(0,dL b),(1,dL d),(2,.fn 65 [] [.ptr 0 0])],[some (.box [.slc 1]),some (sI g)]⟩ (Ret (tlook tys) Tryd.f64.results.toList r H') :=
  ret_of' (Link.cast (by kernel_rfl) (by kernel_rfl) (link_group (c := (cq [0,1] (bodyOf Tryd.f64))) (a := (aq [0,1] Nx)) [(cq [0] (bodyOf Tryd.f64))] [(aq [0] Nx)] rfl (link_seq (Nnp b d g) (fun (t : (List Int)) => (link_seq (link_seq (N10p b d g t) (fun (t40 : Int) => (link_block (fin2 := (fun (t17 : (List Int)) => (Exit.normal,⟨mkE 32 0 [(7,.slc 2)],[some (.box [.slc 1]),some (sI g),some (sI t17)]⟩))) (id := 0) (link_loop (mk := fun (s : Int × (List Int)) => ⟨mkE 32 0 [(0,dL b),(2,.fn 65 [] [.ptr 0 0]),(7,.slc 2),(13,dL d),(14,dI t40),(15,dI s.1)],[some (.box [.slc 1]),some (sI g),some (sI s.2)]⟩) (fin := (fun (t17 : (List Int)) => ((Exit.exit 0),⟨mkE 32 0 [(7,.slc 2)],[some (.box [.slc 1]),some (sI g),some (sI t17)]⟩))) (by
  rintro t17 f K h
  · exact h) (fun s => link_map (Nz7 b d t40 s.1 g s.2) (Sum.elim (fun (t17 : Int × (List Int)) => Sum.inl (t17.1,t17.2)) (fun (t17 : (List Int)) => Sum.inr t17)) (by
  rintro (t17 | t17)
  · kernel_rfl
  · kernel_rfl)) (0,t)) (fun (t17 : (List Int)) => t17) (by
  rintro t17 K h
  · exact Eq.mp (by kernel_rfl) h)))) (fun (t40 : (List Int)) => (Nog g t40))))))) (by unfold N54; kernel_rfl) (by
  intro t
  exact ret_mk [.slc 2] (by kernel_rfl) (by kernel_rfl) (by kernel_rfl) (by kernel_rfl)) h
def Nbq : Fun := fun avs H =>
  match avs,H with
  | [.dat (.list (.int .i64)) a,.dat (.list (.int .i64)) b,.fn 65 [] [.ptr 0 0]],[some (.box [.slc 1]),some (.seq (.int .i64) c)] => ⟨_,N54 a b c,fun (t : (List Int)) => (.slc 2,[some (.box [.slc 1]),some (sI c),some (sI t)]),[],none⟩
  | _,_ => Ans.no
theorem Ntz : Sound Tryd.prog 64 Nbq := by
  refine fn_sound' (C := N3q) (c := bodyOf Tryd.f64) (cok_of tys_ok (allc Nq1 alln) (allc Tryd.call65 alln) (by kernel_rfl)) Tryd.func64 (by kernel_rfl) LL Nx ?_
  intro avs H r H' h
  unfold Nbq at h
  split at h
  · refine Awp.cast ?_ ?_ ?_ (Now _ _ _ h) <;> kernel_rfl
  · simp [Ans.no,Ans.run] at h

def Ndn : Ann := (.seq (.leaf [0,1]) (.seq (.seq (.leaf [0,1,16]) (.cond (.seq (.leaf [4,5]) (.leaf [4,5])) (.leaf [0,1]))) (.seq (.leaf [0,1,6]) (.seq (.leaf [4,5]) (.leaf [4,5])))))
noncomputable def Nb5 : Ctx := ⟨tlook tys,olook [(42,N1d),(62,N9r),(63,Nbt),(64,Nbq)],ioF,0,false,[]⟩
theorem Npk (a b : List Int) : Link Nb5 LL (bodyOf Tryd.f59) Ndn ⟨mkE 23 0 [(0,dL a),(1,dL b)],[]⟩ (N9b a b) (fun (t : Bool × (List Int)) => (Exit.ret,⟨mkE 23 0 [(4,.slc 0),(5,dB t.1)],[some (sI t.2)]⟩)) := .of fun K h => by
  simp only [N9b,wpW] at h
  exact .of (by kernel_rfl) h
theorem Nsf (a b : List Int) {r : AV} {H' : Heap} (h : (Ans.mk _ (N4c a b) (fun (t : Bool × (List Int)) => (.tup [.slc 0,dB t.1],[some (sI t.2)])) [] none).run = some (r,H')) : Awp Nb5 LL (bodyOf Tryd.f59) Ndn ⟨mkE 23 0 [(0,dL a),(1,dL b)],[]⟩ (Ret (tlook tys) Tryd.f59.results.toList r H') :=
  ret_of' (Npk a b) (by unfold N4c; kernel_rfl) (by
  intro t
  exact ret_mk [.slc 0,dB t.1] (by kernel_rfl) (by kernel_rfl) (by kernel_rfl) (by kernel_rfl)) h
def N5s : Fun := fun avs H =>
  match avs,H with
  | [.dat (.list (.int .i64)) a,.dat (.list (.int .i64)) b],[] => ⟨_,N4c a b,fun (t : Bool × (List Int)) => (.tup [.slc 0,dB t.1],[some (sI t.2)]),[],none⟩
  | _,_ => Ans.no
theorem Nh3 : Sound Tryd.prog 59 N5s := by
  refine fn_sound' (C := Nb5) (c := bodyOf Tryd.f59) (cok_of tys_ok (allc N1s (allc Nzj (allc Nje (allc Ntz alln)))) (allc Tryd.call42 (allc Tryd.call62 (allc Tryd.call63 (allc Tryd.call64 alln)))) (by kernel_rfl)) Tryd.func59 (by kernel_rfl) LL Ndn ?_
  intro avs H r H' h
  unfold N5s at h
  split at h
  · refine Awp.cast ?_ ?_ ?_ (Nsf _ _ h) <;> kernel_rfl
  · simp [Ans.no,Ans.run] at h

def Ndu : Ann := (.seq (.leaf [0]) (.seq (.seq (.leaf [0,7]) (.cond (.seq (.leaf [2]) (.leaf [2])) (.leaf [0]))) (.seq (.leaf [3]) (.seq (.leaf [2]) (.leaf [2])))))
noncomputable def N9d : Ctx := ⟨tlook tys,olook [(42,N1d),(60,N9y),(59,N5s)],ioF,0,false,[]⟩
theorem Nw3 (a : List Int) : Link N9d LL (bodyOf Tryd.f53) Ndu ⟨mkE 17 0 [(0,dL a)],[]⟩ (Ncj a) (fun (t : (List Int)) => (Exit.ret,⟨mkE 17 0 [(2,.slc 0)],[some (sI t)]⟩)) := .of fun K h => by
  simp only [Ncj,wpW] at h
  exact .of (by kernel_rfl) h
theorem Nud (a : List Int) {r : AV} {H' : Heap} (h : (Ans.mk _ (N6o a) (fun (t : (List Int)) => (.slc 0,[some (sI t)])) [] none).run = some (r,H')) : Awp N9d LL (bodyOf Tryd.f53) Ndu ⟨mkE 17 0 [(0,dL a)],[]⟩ (Ret (tlook tys) Tryd.f53.results.toList r H') :=
  ret_of' (Nw3 a) (by unfold N6o; kernel_rfl) (by
  intro t
  exact ret_mk [.slc 0] (by kernel_rfl) (by kernel_rfl) (by kernel_rfl) (by kernel_rfl)) h
def Ndx : Fun := fun avs H =>
  match avs,H with
  | [.dat (.list (.int .i64)) a],[] => ⟨_,N6o a,fun (t : (List Int)) => (.slc 0,[some (sI t)]),[],none⟩
  | _,_ => Ans.no
theorem Ny3 : Sound Tryd.prog 53 Ndx := by
  refine fn_sound' (C := N9d) (c := bodyOf Tryd.f53) (cok_of tys_ok (allc N1s (allc Nl3 (allc Nh3 alln))) (allc Tryd.call42 (allc Tryd.call60 (allc Tryd.call59 alln))) (by kernel_rfl)) Tryd.func53 (by kernel_rfl) LL Ndu ?_
  intro avs H r H' h
  unfold Ndx at h
  split at h
  · refine Awp.cast ?_ ?_ ?_ (Nud _ h) <;> kernel_rfl
  · simp [Ans.no,Ans.run] at h

def Nm : Ann := (.seq (.leaf [0]) (.seq (.seq (.leaf [0,6]) (.cond (.seq (.leaf [2]) (.leaf [2])) (.leaf [0]))) (.seq (.leaf [3]) (.seq (.block (.loop (.seq (.seq (.leaf [3,9]) (.cond (.leaf [3]) (.leaf [3]))) (.block (.leaf [3]))))) (.seq (.leaf [2]) (.leaf [2]))))))
noncomputable def N4b : Ctx := ⟨tlook tys,olook [(42,N1d),(58,N5k)],ioF,0,false,[]⟩
theorem Nlp (a : List Int) : Link N4b LL (Code.seq (cq [0] (bodyOf Tryd.f67)) (Code.seq (cq [0,1] (bodyOf Tryd.f67)) (cq [0,1,1] (bodyOf Tryd.f67)))) (Ann.seq (aq [0] Nm) (Ann.seq (aq [0,1] Nm) (aq [0,1,1] Nm))) ⟨mkE 12 0 [(0,dL a)],[]⟩ (Na1 a) (Sum.elim (fun (t : Unit) => (Exit.normal,⟨mkE 12 0 [(3,.ptr 0 0)],[some (.box [dL a,dI 1,dI 0])]⟩)) (fun (t : Int) => (Exit.ret,⟨mkE 12 0 [(2,dI t)],[]⟩))) := .of fun K h => by
  simp only [Na1,wpW] at h
  exact .of (by kernel_rfl) h
theorem Nr7 (a : List Int) (b c : Int) : Link N4b LL (cq [0,0,0,1,1,1] (bodyOf Tryd.f67)) (aq [0,0,0,1,1,1] Nm) ⟨mkE 12 0 [(3,.ptr 0 0)],[some (.box [dL a,dI b,dI c])]⟩ (Nea a b c) (Sum.elim (fun (t : Int × Int) => (Exit.normal,⟨mkE 12 0 [(3,.ptr 0 0)],[some (.box [dL a,dI t.1,dI t.2])]⟩)) (fun (t : Int × Int) => ((Exit.exit 0),⟨mkE 12 0 [(3,.ptr 0 0)],[some (.box [dL a,dI t.1,dI t.2])]⟩))) := .of fun K h => by
  simp only [Nea,wpW] at h
  exact .of (by kernel_rfl) h
theorem Nme (a : List Int) (b c : Int) : Link N4b LL (cq [1,1,1,1] (bodyOf Tryd.f67)) (aq [1,1,1,1] Nm) ⟨mkE 12 0 [(3,.ptr 0 0)],[some (.box [dL a,dI b,dI c])]⟩ (Ndl b) (fun (t : Int) => (Exit.ret,⟨mkE 12 0 [(2,dI t)],[]⟩)) := .of fun K h => by
  simp only [Ndl,wpW] at h
  exact .of (by kernel_rfl) h
theorem N10k (b : List Int) {r : AV} {H' : Heap} (h : (Ans.mk _ (N82 b) (fun (t : Int) => (dI t,[])) [] none).run = some (r,H')) : Awp N4b LL (bodyOf Tryd.f67) Nm ⟨mkE 12 0 [(0,dL b)],[]⟩ (Ret (tlook tys) Tryd.f67.results.toList r H') :=
  ret_of' (Link.cast (by kernel_rfl) (by kernel_rfl) (link_group (c := (cq [0,1,1] (bodyOf Tryd.f67))) (a := (aq [0,1,1] Nm)) [(cq [0] (bodyOf Tryd.f67)),(cq [0,1] (bodyOf Tryd.f67))] [(aq [0] Nm),(aq [0,1] Nm)] rfl (link_seq2 (Nlp b) (fun (t : Unit) => (link_seq (link_block (fin2 := (fun (t : Int × Int) => (Exit.normal,⟨mkE 12 0 [(3,.ptr 0 0)],[some (.box [dL b,dI t.1,dI t.2])]⟩))) (id := 0) (link_loop (mk := fun (s : Int × Int) => ⟨mkE 12 0 [(3,.ptr 0 0)],[some (.box [dL b,dI s.1,dI s.2])]⟩) (fin := (fun (t : Int × Int) => ((Exit.exit 0),⟨mkE 12 0 [(3,.ptr 0 0)],[some (.box [dL b,dI t.1,dI t.2])]⟩))) (by
  rintro t f K h
  · exact h) (fun s => link_map (Nr7 b s.1 s.2) (Sum.elim (fun (t : Int × Int) => Sum.inl (t.1,t.2)) (fun (t : Int × Int) => Sum.inr t)) (by
  rintro (t | t)
  · kernel_rfl
  · kernel_rfl)) (1,0)) (fun (t : Int × Int) => (t.1,t.2)) (by
  rintro t K h
  · exact Eq.mp (by kernel_rfl) h)) (fun (t : Int × Int) => (Nme b t.1 t.2)))) (fun (t : Int) => t) (by
  rintro t
  · kernel_rfl) (by
  rintro t f K h
  · exact h)))) (by unfold N82; kernel_rfl) (by
  intro t
  exact ret_mk [dI t] (by kernel_rfl) (by kernel_rfl) (by kernel_rfl) (by kernel_rfl)) h
def Nds : Fun := fun avs H =>
  match avs,H with
  | [.dat (.list (.int .i64)) a],[] => ⟨_,N82 a,fun (t : Int) => (dI t,[]),[],none⟩
  | _,_ => Ans.no
theorem Nok : Sound Tryd.prog 67 Nds := by
  refine fn_sound' (C := N4b) (c := bodyOf Tryd.f67) (cok_of tys_ok (allc N1s (allc Nfz alln)) (allc Tryd.call42 (allc Tryd.call58 alln)) (by kernel_rfl)) Tryd.func67 (by kernel_rfl) LL Nm ?_
  intro avs H r H' h
  unfold Nds at h
  split at h
  · refine Awp.cast ?_ ?_ ?_ (N10k _ h) <;> kernel_rfl
  · simp [Ans.no,Ans.run] at h

def Nd0 : Ann := (.seq (.leaf [0]) (.seq (.leaf [2]) (.leaf [2])))
noncomputable def Na2 : Ctx := ⟨tlook tys,olook [],ioF,0,false,[]⟩
theorem Nn8 (a : Int) : Link Na2 LL (bodyOf Tryd.f73) Nd0 ⟨mkE 6 0 [(0,dI a)],[]⟩ (N8t a) (fun (t : Int) => (Exit.ret,⟨mkE 6 0 [(2,dW t)],[]⟩)) := .of fun K h => by
  simp only [N8t,wpW] at h
  exact .of (by kernel_rfl) h
theorem Nk0 (a : Int) {r : AV} {H' : Heap} (h : (Ans.mk _ (N4e a) (fun (t : Int) => (dW t,[])) [] none).run = some (r,H')) : Awp Na2 LL (bodyOf Tryd.f73) Nd0 ⟨mkE 6 0 [(0,dI a)],[]⟩ (Ret (tlook tys) Tryd.f73.results.toList r H') :=
  ret_of' (Nn8 a) (by unfold N4e; kernel_rfl) (by
  intro t
  exact ret_mk [dW t] (by kernel_rfl) (by kernel_rfl) (by kernel_rfl) (by kernel_rfl)) h
def N6l : Fun := fun avs H =>
  match avs,H with
  | [.dat (.int .i64) a],[] => ⟨_,N4e a,fun (t : Int) => (dW t,[]),[],none⟩
  | _,_ => Ans.no
theorem Nho : Sound Tryd.prog 73 N6l := by
  refine fn_sound' (C := Na2) (c := bodyOf Tryd.f73) (cok_of tys_ok (alln) (alln) (by kernel_rfl)) Tryd.func73 (by kernel_rfl) LL Nd0 ?_
  intro avs H r H' h
  unfold N6l at h
  split at h
  · refine Awp.cast ?_ ?_ ?_ (Nk0 _ h) <;> kernel_rfl
  · simp [Ans.no,Ans.run] at h

def N1f : Ann := (.seq (.leaf [0,1]) (.seq (.leaf [0,1,5]) (.seq (.seq (.leaf [0,1,5,8,9]) (.block (.loop (.seq (.leaf [0,1,5,8,9,10]) (.seq (.cond (.leaf [0,1,5,8,9]) (.leaf [5])) (.seq (.block (.seq (.leaf [0,1,5,6,8,9]) (.seq (.leaf [0,1,5,6,8,9,17]) (.cond (.leaf [0,1,5,8,9]) (.leaf [0,1,5,8,9]))))) (.leaf [0,1,5,8,9]))))))) (.seq (.leaf [4]) (.leaf [4])))))
noncomputable def N2t : Ctx := ⟨tlook tys,olook [(73,N6l)],ioF,0,false,[]⟩
theorem Nyq (a : List Int) (b : Int) : Link N2t LL (Code.seq (cq [0] (bodyOf Tryd.f70)) (cq [0,1] (bodyOf Tryd.f70))) (Ann.seq (aq [0] N1f) (aq [0,1] N1f)) ⟨mkE 25 0 [(0,dL a),(1,dI b)],[]⟩ (Nbe) (fun (t : Unit) => (Exit.normal,⟨mkE 25 0 [(0,dL a),(1,dI b),(5,dW 0)],[]⟩)) := .of fun K h => by
  simp only [Nbe,wpW] at h
  exact .of (by kernel_rfl) h
theorem Nvc (a : List Int) (b : Int) : Link N2t LL (cq [0,0,1,1] (bodyOf Tryd.f70)) (aq [0,0,1,1] N1f) ⟨mkE 25 0 [(0,dL a),(1,dI b),(5,dW 0)],[]⟩ (Nef a) (fun (t : Int) => (Exit.normal,⟨mkE 25 0 [(0,dL a),(1,dI b),(5,dW 0),(8,dI t),(9,dI 0)],[]⟩)) := .of fun K h => by
  simp only [Nef,wpW] at h
  exact .of (by kernel_rfl) h
theorem Nx0 (a : List Int) (b c d g : Int) : Link N2t LL (cq [0,0,1,0,1,1] (bodyOf Tryd.f70)) (aq [0,0,1,0,1,1] N1f) ⟨mkE 25 0 [(0,dL a),(1,dI b),(5,dW c),(8,dI d),(9,dI g)],[]⟩ (Ndp a b c d g) (Sum.elim (fun (t : Int × Int) => (Exit.normal,⟨mkE 25 0 [(0,dL a),(1,dI b),(5,dW t.1),(8,dI d),(9,dI t.2)],[]⟩)) (fun (t : Int) => ((Exit.exit 0),⟨mkE 25 0 [(5,dW t)],[]⟩))) := .of fun K h => by
  simp only [Ndp,wpW] at h
  exact .of (by kernel_rfl) h
theorem Nlv (a : Int) : Link N2t LL (cq [1,1,1] (bodyOf Tryd.f70)) (aq [1,1,1] N1f) ⟨mkE 25 0 [(5,dW a)],[]⟩ (N9m a) (fun (t : Int) => (Exit.ret,⟨mkE 25 0 [(4,dW t)],[]⟩)) := .of fun K h => by
  simp only [N9m,wpW] at h
  exact .of (by kernel_rfl) h
theorem Nqe (b : List Int) (d : Int) {r : AV} {H' : Heap} (h : (Ans.mk _ (N8c b d) (fun (t : Int) => (dW t,[])) [] none).run = some (r,H')) : Awp N2t LL (bodyOf Tryd.f70) N1f ⟨mkE 25 0 [(0,dL b),(1,dI d)],[]⟩ (Ret (tlook tys) Tryd.f70.results.toList r H') :=
  ret_of' (Link.cast (by kernel_rfl) (by kernel_rfl) (link_group (c := (cq [0,1] (bodyOf Tryd.f70))) (a := (aq [0,1] N1f)) [(cq [0] (bodyOf Tryd.f70))] [(aq [0] N1f)] rfl (link_seq (Nyq b d) (fun (t : Unit) => (link_seq (link_seq (Nvc b d) (fun (t : Int) => (link_block (fin2 := (fun (t18 : Int) => (Exit.normal,⟨mkE 25 0 [(5,dW t18)],[]⟩))) (id := 0) (link_loop (mk := fun (s : Int × Int) => ⟨mkE 25 0 [(0,dL b),(1,dI d),(5,dW s.1),(8,dI t),(9,dI s.2)],[]⟩) (fin := (fun (t18 : Int) => ((Exit.exit 0),⟨mkE 25 0 [(5,dW t18)],[]⟩))) (by
  rintro t18 f K h
  · exact h) (fun s => link_map (Nx0 b d s.1 t s.2) (Sum.elim (fun (t18 : Int × Int) => Sum.inl (t18.1,t18.2)) (fun (t18 : Int) => Sum.inr t18)) (by
  rintro (t18 | t18)
  · kernel_rfl
  · kernel_rfl)) (0,0)) (fun (t18 : Int) => t18) (by
  rintro t18 K h
  · exact Eq.mp (by kernel_rfl) h)))) (fun (t : Int) => (Nlv t))))))) (by unfold N8c; kernel_rfl) (by
  intro t
  exact ret_mk [dW t] (by kernel_rfl) (by kernel_rfl) (by kernel_rfl) (by kernel_rfl)) h
def N9a : Fun := fun avs H =>
  match avs,H with
  | [.dat (.list (.int .i64)) a,.dat (.int .i64) b],[] => ⟨_,N8c a b,fun (t : Int) => (dW t,[]),[],none⟩
  | _,_ => Ans.no
theorem Nvn : Sound Tryd.prog 70 N9a := by
  refine fn_sound' (C := N2t) (c := bodyOf Tryd.f70) (cok_of tys_ok (allc Nho alln) (allc Tryd.call73 alln) (by kernel_rfl)) Tryd.func70 (by kernel_rfl) LL N1f ?_
  intro avs H r H' h
  unfold N9a at h
  split at h
  · refine Awp.cast ?_ ?_ ?_ (Nqe _ _ h) <;> kernel_rfl
  · simp [Ans.no,Ans.run] at h

def Nd6 : Ann := (.seq (.leaf [0]) (.seq (.leaf [2]) (.leaf [2])))
noncomputable def N9h : Ctx := ⟨tlook tys,olook [(73,N6l)],ioF,0,false,[]⟩
theorem Nqj (a : Int) : Link N9h LL (bodyOf Tryd.f71) Nd6 ⟨mkE 6 0 [(0,dI a)],[]⟩ (Nd5 a) (fun (t : Int) => (Exit.ret,⟨mkE 6 0 [(2,dW t)],[]⟩)) := .of fun K h => by
  simp only [Nd5,wpW] at h
  exact .of (by kernel_rfl) h
theorem Nxr (a : Int) {r : AV} {H' : Heap} (h : (Ans.mk _ (N48 a) (fun (t : Int) => (dW t,[])) [] none).run = some (r,H')) : Awp N9h LL (bodyOf Tryd.f71) Nd6 ⟨mkE 6 0 [(0,dI a)],[]⟩ (Ret (tlook tys) Tryd.f71.results.toList r H') :=
  ret_of' (Nqj a) (by unfold N48; kernel_rfl) (by
  intro t
  exact ret_mk [dW t] (by kernel_rfl) (by kernel_rfl) (by kernel_rfl) (by kernel_rfl)) h
def Nbl : Fun := fun avs H =>
  match avs,H with
  | [.dat (.int .i64) a],[] => ⟨_,N48 a,fun (t : Int) => (dW t,[]),[],none⟩
  | _,_ => Ans.no
theorem Nn1 : Sound Tryd.prog 71 Nbl := by
  refine fn_sound' (C := N9h) (c := bodyOf Tryd.f71) (cok_of tys_ok (allc Nho alln) (allc Tryd.call73 alln) (by kernel_rfl)) Tryd.func71 (by kernel_rfl) LL Nd6 ?_
  intro avs H r H' h
  unfold Nbl at h
  split at h
  · refine Awp.cast ?_ ?_ ?_ (Nxr _ h) <;> kernel_rfl
  · simp [Ans.no,Ans.run] at h

def N8g : Ann := (.seq (.leaf [0,1]) (.seq (.leaf [1,6]) (.seq (.leaf [4,5]) (.leaf [4,5]))))
noncomputable def Ner : Ctx := ⟨tlook tys,olook [(70,N9a),(71,Nbl)],ioF,0,false,[]⟩
theorem Nsi (a : List Int) (b : Int) : Link Ner LL (bodyOf Tryd.f68) N8g ⟨mkE 18 0 [(0,dL a),(1,dI b)],[]⟩ (Nc0 a b) (fun (t : Int × Int) => (Exit.ret,⟨mkE 18 0 [(4,dW t.1),(5,dW t.2)],[]⟩)) := .of fun K h => by
  simp only [Nc0,wpW] at h
  exact .of (by kernel_rfl) h
theorem Nl8 (a : List Int) (b : Int) {r : AV} {H' : Heap} (h : (Ans.mk _ (N4q a b) (fun (t : Int × Int) => (.tup [dW t.1,dW t.2],[])) [] none).run = some (r,H')) : Awp Ner LL (bodyOf Tryd.f68) N8g ⟨mkE 18 0 [(0,dL a),(1,dI b)],[]⟩ (Ret (tlook tys) Tryd.f68.results.toList r H') :=
  ret_of' (Nsi a b) (by unfold N4q; kernel_rfl) (by
  intro t
  exact ret_mk [dW t.1,dW t.2] (by kernel_rfl) (by kernel_rfl) (by kernel_rfl) (by kernel_rfl)) h
def Na9 : Fun := fun avs H =>
  match avs,H with
  | [.dat (.list (.int .i64)) a,.dat (.int .i64) b],[] => ⟨_,N4q a b,fun (t : Int × Int) => (.tup [dW t.1,dW t.2],[]),[],none⟩
  | _,_ => Ans.no
theorem N10h : Sound Tryd.prog 68 Na9 := by
  refine fn_sound' (C := Ner) (c := bodyOf Tryd.f68) (cok_of tys_ok (allc Nvn (allc Nn1 alln)) (allc Tryd.call70 (allc Tryd.call71 alln)) (by kernel_rfl)) Tryd.func68 (by kernel_rfl) LL N8g ?_
  intro avs H r H' h
  unfold Na9 at h
  split at h
  · refine Awp.cast ?_ ?_ ?_ (Nl8 _ _ h) <;> kernel_rfl
  · simp [Ans.no,Ans.run] at h

def N7 : Ann := (.seq (.leaf [0]) (.seq (.leaf [0]) (.seq (.leaf [0]) (.seq (.leaf [0]) (.seq (.leaf [0]) (.seq (.leaf [0]) (.seq (.leaf [0]) (.seq (.leaf [2]) (.leaf [2])))))))))
noncomputable def Nn : Ctx := ⟨tlook tys,olook [],ioF,0,false,[]⟩
theorem Nr8 (a : Int) : Link Nn LL (Code.seq (cq [0] (bodyOf Tryd.f80)) (cq [0,1] (bodyOf Tryd.f80))) (Ann.seq (aq [0] N7) (aq [0,1] N7)) ⟨mkE 35 0 [(0,dW a)],[]⟩ (Nas a) (fun (t : Int) => (Exit.normal,⟨mkE 35 0 [(0,dW t)],[]⟩)) := .of fun K h => by
  simp only [Nas,wpW] at h
  exact .of (by kernel_rfl) h
theorem Nt1 (a : Int) : Link Nn LL (cq [0,1,1] (bodyOf Tryd.f80)) (aq [0,1,1] N7) ⟨mkE 35 0 [(0,dW a)],[]⟩ (Naj a) (fun (t : Int) => (Exit.normal,⟨mkE 35 0 [(0,dW t)],[]⟩)) := .of fun K h => by
  simp only [Naj,wpW] at h
  exact .of (by kernel_rfl) h
theorem Nll (a : Int) : Link Nn LL (cq [0,1,1,1] (bodyOf Tryd.f80)) (aq [0,1,1,1] N7) ⟨mkE 35 0 [(0,dW a)],[]⟩ (Nca a) (fun (t : Int) => (Exit.normal,⟨mkE 35 0 [(0,dW t)],[]⟩)) := .of fun K h => by
  simp only [Nca,wpW] at h
  exact .of (by kernel_rfl) h
theorem Nqq (a : Int) : Link Nn LL (cq [0,1,1,1,1] (bodyOf Tryd.f80)) (aq [0,1,1,1,1] N7) ⟨mkE 35 0 [(0,dW a)],[]⟩ (Nbz a) (fun (t : Int) => (Exit.normal,⟨mkE 35 0 [(0,dW t)],[]⟩)) := .of fun K h => by
  simp only [Nbz,wpW] at h
  exact .of (by kernel_rfl) h
theorem Nvf (a : Int) : Link Nn LL (cq [0,1,1,1,1,1] (bodyOf Tryd.f80)) (aq [0,1,1,1,1,1] N7) ⟨mkE 35 0 [(0,dW a)],[]⟩ (Neb a) (fun (t : Int) => (Exit.normal,⟨mkE 35 0 [(0,dW t)],[]⟩)) := .of fun K h => by
  simp only [Neb,wpW] at h
  exact .of (by kernel_rfl) h
theorem Nm5 (a : Int) : Link Nn LL (cq [0,1,1,1,1,1,1] (bodyOf Tryd.f80)) (aq [0,1,1,1,1,1,1] N7) ⟨mkE 35 0 [(0,dW a)],[]⟩ (Ncc a) (fun (t : Int) => (Exit.normal,⟨mkE 35 0 [(0,dW t)],[]⟩)) := .of fun K h => by
  simp only [Ncc,wpW] at h
  exact .of (by kernel_rfl) h
theorem Nkf (a : Int) : Link Nn LL (cq [0,1,1,1,1,1,1,1] (bodyOf Tryd.f80)) (aq [0,1,1,1,1,1,1,1] N7) ⟨mkE 35 0 [(0,dW a)],[]⟩ (Ncn a) (fun (t : Int) => (Exit.normal,⟨mkE 35 0 [(2,dI t)],[]⟩)) := .of fun K h => by
  simp only [Ncn,wpW] at h
  exact .of (by kernel_rfl) h
theorem Nxg (a : Int) : Link Nn LL (cq [1,1,1,1,1,1,1,1] (bodyOf Tryd.f80)) (aq [1,1,1,1,1,1,1,1] N7) ⟨mkE 35 0 [(2,dI a)],[]⟩ (Nem a) (fun (t : Int) => (Exit.ret,⟨mkE 35 0 [(2,dI t)],[]⟩)) := .of fun K h => by
  simp only [Nem,wpW] at h
  exact .of (by kernel_rfl) h
theorem Nyk (b : Int) {r : AV} {H' : Heap} (h : (Ans.mk _ (N4m b) (fun (t : Int) => (dI t,[])) [] none).run = some (r,H')) : Awp Nn LL (bodyOf Tryd.f80) N7 ⟨mkE 35 0 [(0,dW b)],[]⟩ (Ret (tlook tys) Tryd.f80.results.toList r H') :=
  ret_of' (Link.cast (by kernel_rfl) (by kernel_rfl) (link_group (c := (cq [0,1] (bodyOf Tryd.f80))) (a := (aq [0,1] N7)) [(cq [0] (bodyOf Tryd.f80))] [(aq [0] N7)] rfl (link_seq (Nr8 b) (fun (t : Int) => (link_seq (Nt1 t) (fun (t19 : Int) => (link_seq (Nll t19) (fun (t5 : Int) => (link_seq (Nqq t5) (fun (t : Int) => (link_seq (Nvf t) (fun (t4 : Int) => (link_seq (Nm5 t4) (fun (t : Int) => (link_seq (Nkf t) (fun (t3 : Int) => (Nxg t3))))))))))))))))) (by unfold N4m; kernel_rfl) (by
  intro t
  exact ret_mk [dI t] (by kernel_rfl) (by kernel_rfl) (by kernel_rfl) (by kernel_rfl)) h
def Nc6 : Fun := fun avs H =>
  match avs,H with
  | [.dat (.int .u64) a],[] => ⟨_,N4m a,fun (t : Int) => (dI t,[]),[],none⟩
  | _,_ => Ans.no
theorem Nwi : Sound Tryd.prog 80 Nc6 := by
  refine fn_sound' (C := Nn) (c := bodyOf Tryd.f80) (cok_of tys_ok (alln) (alln) (by kernel_rfl)) Tryd.func80 (by kernel_rfl) LL N7 ?_
  intro avs H r H' h
  unfold Nc6 at h
  split at h
  · refine Awp.cast ?_ ?_ ?_ (Nyk _ h) <;> kernel_rfl
  · simp [Ans.no,Ans.run] at h

def N8p : Ann := (.seq (.leaf [0]) (.seq (.cond (.seq (.leaf [2]) (.leaf [2])) (.leaf [0])) (.seq (.leaf [2]) (.leaf [2]))))
noncomputable def Ncu : Ctx := ⟨tlook tys,olook [(80,Nc6)],ioF,0,false,[]⟩
theorem Nrn (a : Int) : Link Ncu LL (bodyOf Tryd.f76) N8p ⟨mkE 8 0 [(0,dW a)],[]⟩ (N8q a) (fun (t : Int) => (Exit.ret,⟨mkE 8 0 [(2,dI t)],[]⟩)) := .of fun K h => by
  simp only [N8q,wpW] at h
  exact .of (by kernel_rfl) h
theorem Njb (a : Int) {r : AV} {H' : Heap} (h : (Ans.mk _ (N5v a) (fun (t : Int) => (dI t,[])) [] none).run = some (r,H')) : Awp Ncu LL (bodyOf Tryd.f76) N8p ⟨mkE 8 0 [(0,dW a)],[]⟩ (Ret (tlook tys) Tryd.f76.results.toList r H') :=
  ret_of' (Nrn a) (by unfold N5v; kernel_rfl) (by
  intro t
  exact ret_mk [dI t] (by kernel_rfl) (by kernel_rfl) (by kernel_rfl) (by kernel_rfl)) h
def Naz : Fun := fun avs H =>
  match avs,H with
  | [.dat (.int .u64) a],[] => ⟨_,N5v a,fun (t : Int) => (dI t,[]),[],none⟩
  | _,_ => Ans.no
theorem Nwa : Sound Tryd.prog 76 Naz := by
  refine fn_sound' (C := Ncu) (c := bodyOf Tryd.f76) (cok_of tys_ok (allc Nwi alln) (allc Tryd.call80 alln) (by kernel_rfl)) Tryd.func76 (by kernel_rfl) LL N8p ?_
  intro avs H r H' h
  unfold Naz at h
  split at h
  · refine Awp.cast ?_ ?_ ?_ (Njb _ h) <;> kernel_rfl
  · simp [Ans.no,Ans.run] at h

def Nbb : Ann := (.seq (.leaf [0]) (.seq (.leaf [2]) (.leaf [2])))
noncomputable def Ne1 : Ctx := ⟨tlook tys,olook [(76,Naz)],ioF,0,false,[]⟩
theorem Nz2 (a : Int) : Link Ne1 LL (bodyOf Tryd.f74) Nbb ⟨mkE 5 0 [(0,dW a)],[]⟩ (Naf a) (fun (t : Int) => (Exit.ret,⟨mkE 5 0 [(2,dI t)],[]⟩)) := .of fun K h => by
  simp only [Naf,wpW] at h
  exact .of (by kernel_rfl) h
theorem Nxd (a : Int) {r : AV} {H' : Heap} (h : (Ans.mk _ (N6e a) (fun (t : Int) => (dI t,[])) [] none).run = some (r,H')) : Awp Ne1 LL (bodyOf Tryd.f74) Nbb ⟨mkE 5 0 [(0,dW a)],[]⟩ (Ret (tlook tys) Tryd.f74.results.toList r H') :=
  ret_of' (Nz2 a) (by unfold N6e; kernel_rfl) (by
  intro t
  exact ret_mk [dI t] (by kernel_rfl) (by kernel_rfl) (by kernel_rfl) (by kernel_rfl)) h
def Ncd : Fun := fun avs H =>
  match avs,H with
  | [.dat (.int .u64) a],[] => ⟨_,N6e a,fun (t : Int) => (dI t,[]),[],none⟩
  | _,_ => Ans.no
theorem Nrx : Sound Tryd.prog 74 Ncd := by
  refine fn_sound' (C := Ne1) (c := bodyOf Tryd.f74) (cok_of tys_ok (allc Nwa alln) (allc Tryd.call76 alln) (by kernel_rfl)) Tryd.func74 (by kernel_rfl) LL Nbb ?_
  intro avs H r H' h
  unfold Ncd at h
  split at h
  · refine Awp.cast ?_ ?_ ?_ (Nxd _ h) <;> kernel_rfl
  · simp [Ans.no,Ans.run] at h

def Na3 : Ann := (.seq (.leaf [0]) (.seq (.seq (.leaf [0,4]) (.cond (.seq (.leaf [2]) (.leaf [2])) (.leaf [0]))) (.seq (.leaf [2]) (.leaf [2]))))
noncomputable def Na5 : Ctx := ⟨tlook tys,olook [],ioF,0,false,[]⟩
theorem Nq0 (a : Int) : Link Na5 LL (bodyOf Tryd.f78) Na3 ⟨mkE 14 0 [(0,dW a)],[]⟩ (Nc5 a) (fun (t : Int) => (Exit.ret,⟨mkE 14 0 [(2,dI t)],[]⟩)) := .of fun K h => by
  simp only [Nc5,wpW] at h
  exact .of (by kernel_rfl) h
theorem Npz (a : Int) {r : AV} {H' : Heap} (h : (Ans.mk _ (N59 a) (fun (t : Int) => (dI t,[])) [] none).run = some (r,H')) : Awp Na5 LL (bodyOf Tryd.f78) Na3 ⟨mkE 14 0 [(0,dW a)],[]⟩ (Ret (tlook tys) Tryd.f78.results.toList r H') :=
  ret_of' (Nq0 a) (by unfold N59; kernel_rfl) (by
  intro t
  exact ret_mk [dI t] (by kernel_rfl) (by kernel_rfl) (by kernel_rfl) (by kernel_rfl)) h
def N94 : Fun := fun avs H =>
  match avs,H with
  | [.dat (.int .u64) a],[] => ⟨_,N59 a,fun (t : Int) => (dI t,[]),[],none⟩
  | _,_ => Ans.no
theorem Noi : Sound Tryd.prog 78 N94 := by
  refine fn_sound' (C := Na5) (c := bodyOf Tryd.f78) (cok_of tys_ok (alln) (alln) (by kernel_rfl)) Tryd.func78 (by kernel_rfl) LL Na3 ?_
  intro avs H r H' h
  unfold N94 at h
  split at h
  · refine Awp.cast ?_ ?_ ?_ (Npz _ h) <;> kernel_rfl
  · simp [Ans.no,Ans.run] at h

def Ndm : Ann := (.seq (.leaf [0]) (.seq (.cond (.seq (.leaf [2]) (.leaf [2])) (.leaf [0])) (.seq (.leaf [2]) (.leaf [2]))))
noncomputable def Nct : Ctx := ⟨tlook tys,olook [(78,N94)],ioF,0,false,[]⟩
theorem Nmu (a : Int) : Link Nct LL (bodyOf Tryd.f75) Ndm ⟨mkE 8 0 [(0,dW a)],[]⟩ (Ndh a) (fun (t : Int) => (Exit.ret,⟨mkE 8 0 [(2,dI t)],[]⟩)) := .of fun K h => by
  simp only [Ndh,wpW] at h
  exact .of (by kernel_rfl) h
theorem Nne (a : Int) {r : AV} {H' : Heap} (h : (Ans.mk _ (N50 a) (fun (t : Int) => (dI t,[])) [] none).run = some (r,H')) : Awp Nct LL (bodyOf Tryd.f75) Ndm ⟨mkE 8 0 [(0,dW a)],[]⟩ (Ret (tlook tys) Tryd.f75.results.toList r H') :=
  ret_of' (Nmu a) (by unfold N50; kernel_rfl) (by
  intro t
  exact ret_mk [dI t] (by kernel_rfl) (by kernel_rfl) (by kernel_rfl) (by kernel_rfl)) h
def Nec : Fun := fun avs H =>
  match avs,H with
  | [.dat (.int .u64) a],[] => ⟨_,N50 a,fun (t : Int) => (dI t,[]),[],none⟩
  | _,_ => Ans.no
theorem Nx8 : Sound Tryd.prog 75 Nec := by
  refine fn_sound' (C := Nct) (c := bodyOf Tryd.f75) (cok_of tys_ok (allc Noi alln) (allc Tryd.call78 alln) (by kernel_rfl)) Tryd.func75 (by kernel_rfl) LL Ndm ?_
  intro avs H r H' h
  unfold Nec at h
  split at h
  · refine Awp.cast ?_ ?_ ?_ (Nne _ h) <;> kernel_rfl
  · simp [Ans.no,Ans.run] at h

def N1h : Ann := (.seq (.leaf [0]) (.seq (.leaf [0,3]) (.seq (.seq (.leaf [3,4]) (.block (.loop (.seq (.seq (.leaf [3,4,10]) (.cond (.leaf [3,4]) (.leaf [3]))) (.seq (.block (.leaf [3,4])) (.leaf [3,4])))))) (.seq (.leaf [2]) (.leaf [2])))))
noncomputable def N34 : Ctx := ⟨tlook tys,olook [(74,Ncd),(75,Nec)],ioF,0,false,[]⟩
theorem Nlz (a : Int) : Link N34 LL (Code.seq (cq [0] (bodyOf Tryd.f72)) (cq [0,1] (bodyOf Tryd.f72))) (Ann.seq (aq [0] N1h) (aq [0,1] N1h)) ⟨mkE 22 0 [(0,dW a)],[]⟩ (N9w a) (fun (t : (List Int)) => (Exit.normal,⟨mkE 22 0 [(0,dW a),(3,.slc 0)],[some (sI t)]⟩)) := .of fun K h => by
  simp only [N9w,wpW] at h
  exact .of (by kernel_rfl) h
theorem Nr3 (a : Int) (b : List Int) : Link N34 LL (cq [0,0,1,1] (bodyOf Tryd.f72)) (aq [0,0,1,1] N1h) ⟨mkE 22 0 [(0,dW a),(3,.slc 0)],[some (sI b)]⟩ (Nbm) (fun (t : Unit) => (Exit.normal,⟨mkE 22 0 [(3,.slc 0),(4,dW a)],[some (sI b)]⟩)) := .of fun K h => by
  simp only [Nbm,wpW] at h
  exact .of (by kernel_rfl) h
theorem Ntk (a : Int) (b : List Int) : Link N34 LL (cq [0,0,1,0,1,1] (bodyOf Tryd.f72)) (aq [0,0,1,0,1,1] N1h) ⟨mkE 22 0 [(3,.slc 0),(4,dW a)],[some (sI b)]⟩ (Nay a b) (Sum.elim (fun (t : Int × (List Int)) => (Exit.normal,⟨mkE 22 0 [(3,.slc 0),(4,dW t.1)],[some (sI t.2)]⟩)) (fun (t : (List Int)) => ((Exit.exit 0),⟨mkE 22 0 [(3,.slc 0)],[some (sI t)]⟩))) := .of fun K h => by
  simp only [Nay,wpW] at h
  exact .of (by kernel_rfl) h
theorem Ny6 (a : List Int) : Link N34 LL (cq [1,1,1] (bodyOf Tryd.f72)) (aq [1,1,1] N1h) ⟨mkE 22 0 [(3,.slc 0)],[some (sI a)]⟩ (Nee a) (fun (t : (List Int)) => (Exit.ret,⟨mkE 22 0 [(2,.slc 0)],[some (sI t)]⟩)) := .of fun K h => by
  simp only [Nee,wpW] at h
  exact .of (by kernel_rfl) h
theorem Nzv (b : Int) {r : AV} {H' : Heap} (h : (Ans.mk _ (N6n b) (fun (t : (List Int)) => (.slc 0,[some (sI t)])) [] none).run = some (r,H')) : Awp N34 LL (bodyOf Tryd.f72) N1h ⟨mkE 22 0 [(0,dW b)],[]⟩ (Ret (tlook tys) Tryd.f72.results.toList r H') :=
  ret_of' (Link.cast (by kernel_rfl) (by kernel_rfl) (link_group (c := (cq [0,1] (bodyOf Tryd.f72))) (a := (aq [0,1] N1h)) [(cq [0] (bodyOf Tryd.f72))] [(aq [0] N1h)] rfl (link_seq (Nlz b) (fun (t : (List Int)) => (link_seq (link_seq (Nr3 b t) (fun (t41 : Unit) => (link_block (fin2 := (fun (t41 : (List Int)) => (Exit.normal,⟨mkE 22 0 [(3,.slc 0)],[some (sI t41)]⟩))) (id := 0) (link_loop (mk := fun (s : Int × (List Int)) => ⟨mkE 22 0 [(3,.slc 0),(4,dW s.1)],[some (sI s.2)]⟩) (fin := (fun (t41 : (List Int)) => ((Exit.exit 0),⟨mkE 22 0 [(3,.slc 0)],[some (sI t41)]⟩))) (by
  rintro t41 f K h
  · exact h) (fun s => link_map (Ntk s.1 s.2) (Sum.elim (fun (t41 : Int × (List Int)) => Sum.inl (t41.1,t41.2)) (fun (t41 : (List Int)) => Sum.inr t41)) (by
  rintro (t41 | t41)
  · kernel_rfl
  · kernel_rfl)) (b,t)) (fun (t41 : (List Int)) => t41) (by
  rintro t41 K h
  · exact Eq.mp (by kernel_rfl) h)))) (fun (t41 : (List Int)) => (Ny6 t41))))))) (by unfold N6n; kernel_rfl) (by
  intro t
  exact ret_mk [.slc 0] (by kernel_rfl) (by kernel_rfl) (by kernel_rfl) (by kernel_rfl)) h
def Nak : Fun := fun avs H =>
  match avs,H with
  | [.dat (.int .u64) a],[] => ⟨_,N6n a,fun (t : (List Int)) => (.slc 0,[some (sI t)]),[],none⟩
  | _,_ => Ans.no
theorem Nwh : Sound Tryd.prog 72 Nak := by
  refine fn_sound' (C := N34) (c := bodyOf Tryd.f72) (cok_of tys_ok (allc Nrx (allc Nx8 alln)) (allc Tryd.call74 (allc Tryd.call75 alln)) (by kernel_rfl)) Tryd.func72 (by kernel_rfl) LL N1h ?_
  intro avs H r H' h
  unfold Nak at h
  split at h
  · refine Awp.cast ?_ ?_ ?_ (Nzv _ h) <;> kernel_rfl
  · simp [Ans.no,Ans.run] at h

def Nb2 : Ann := (.seq (.leaf [0,1,2]) (.seq (.leaf [0,1,2,7,8]) (.seq (.leaf [0,1,8]) (.seq (.leaf [6]) (.leaf [6])))))
def N3c : Ann := (.seq (.leaf [0,1,2]) (.seq (.seq (.leaf [0,1,10,11,12]) (.block (.loop (.seq (.leaf [0,1,10,11,12,13]) (.seq (.cond (.leaf [0,1,10,11,12]) (.leaf [0])) (.seq (.block (.seq (.leaf [0,1,8,10,11,12]) (.leaf [0,1,10,11,12]))) (.leaf [0,1,10,11,12]))))))) (.seq (.leaf [6]) (.leaf [6]))))
def Nk (n : Nat) : Fun := fun avs H =>
  match avs,H with
  | [.slc 0,.dat (.list (.int .i64)) a,.dat (.int .i64) b],[some (.seq (.int .i64) c)] => ⟨_,N12 n a b c,fun (t : (List Int)) => (.slc 0,[some (sI t)]),[0],none⟩
  | _,_ => Ans.no
def Nj (n : Nat) : Fun := fun avs H =>
  match avs,H with
  | [.slc 0,.dat (.list (.int .i64)) a,.dat (.int .u64) b],[some (.seq (.int .i64) c)] => ⟨_,N1a n a b c,fun (t : (List Int)) => (.slc 0,[some (sI t)]),[0],none⟩
  | _,_ => Ans.no
noncomputable def N97 (n : Nat) : Ctx := ⟨tlook tys,olook [(68,Na9),(69,Nj n)],ioF,1,false,[0]⟩
noncomputable def N35 (n : Nat) : Ctx := ⟨tlook tys,olook [(72,Nak),(66,Nk n)],ioF,1,false,[0]⟩
theorem Npl (n : Nat) (a : List Int) (b : Int) (c : List Int) : Link (N97 n) LL (bodyOf Tryd.f66) Nb2 ⟨mkE 26 0 [(0,.slc 0),(1,dL a),(2,dI b)],[some (sI c)]⟩ (N9x (N12 n) (N1a n) a b c) (fun (t : (List Int)) => (Exit.ret,⟨mkE 26 0 [(6,.slc 0)],[some (sI t)]⟩)) := .of fun K h => by
  simp only [N9x,wpW] at h
  exact .of (by kernel_rfl) h
theorem Nqt (n : Nat) (a : List Int) (b : Int) (c : List Int) {r : AV} {H' : Heap} (h : (Ans.mk _ (N12 (n + 1) a b c) (fun (t : (List Int)) => (.slc 0,[some (sI t)])) [0] none).run = some (r,H')) : Awp (N97 n) LL (bodyOf Tryd.f66) Nb2 ⟨mkE 26 0 [(0,.slc 0),(1,dL a),(2,dI b)],[some (sI c)]⟩ (Ret (tlook tys) Tryd.f66.results.toList r H') :=
  ret_of' (Npl n a b c) (by (show _ = _); kernel_rfl) (by
  intro t
  exact ret_mk [.slc 0] (by kernel_rfl) (by kernel_rfl) (by kernel_rfl) (by kernel_rfl)) h
theorem Noj (n : Nat) (a : List Int) (b : Int) (c : List Int) : Link (N35 n) LL (cq [0] (bodyOf Tryd.f69)) (aq [0] N3c) ⟨mkE 22 0 [(0,.slc 0),(1,dL a),(2,dW b)],[some (sI c)]⟩ (Nce (N12 n) (N1a n)) (fun (t : Unit) => (Exit.normal,⟨mkE 22 0 [(0,.slc 0),(1,dL a),(2,dW b)],[some (sI c)]⟩)) := .of fun K h => by
  simp only [Nce,wpW] at h
  exact .of (by kernel_rfl) h
theorem N102 (n : Nat) (a : List Int) (b : Int) (c : List Int) : Link (N35 n) LL (cq [0,0,1] (bodyOf Tryd.f69)) (aq [0,0,1] N3c) ⟨mkE 22 0 [(0,.slc 0),(1,dL a),(2,dW b)],[some (sI c)]⟩ (Na7 (N12 n) (N1a n) b) (fun (t : Int × (List Int)) => (Exit.normal,⟨mkE 22 0 [(0,.slc 0),(1,dL a),(10,.slc 1),(11,dI t.1),(12,dI 0)],[some (sI c),some (sI t.2)]⟩)) := .of fun K h => by
  simp only [Na7,wpW] at h
  exact .of (by kernel_rfl) h
theorem Ntw (n : Nat) (a : List Int) (b c : Int) (d g : List Int) : Link (N35 n) LL (cq [0,0,1,0,1] (bodyOf Tryd.f69)) (aq [0,0,1,0,1] N3c) ⟨mkE 22 0 [(0,.slc 0),(1,dL a),(10,.slc 1),(11,dI b),(12,dI c)],[some (sI d),some (sI g)]⟩ (N96 (N12 n) (N1a n) a b c d g) (Sum.elim (fun (t : Int × (List Int)) => (Exit.normal,⟨mkE 22 0 [(0,.slc 0),(1,dL a),(10,.slc 1),(11,dI b),(12,dI t.1)],[some (sI t.2),some (sI g)]⟩)) (fun (t : (List Int)) => ((Exit.exit 0),⟨mkE 22 0 [(0,.slc 0)],[some (sI t)]⟩))) := .of fun K h => by
  simp only [N96,wpW] at h
  exact .of (by kernel_rfl) h
theorem Nws (n : Nat) (a : List Int) : Link (N35 n) LL (cq [1,1] (bodyOf Tryd.f69)) (aq [1,1] N3c) ⟨mkE 22 0 [(0,.slc 0)],[some (sI a)]⟩ (Ncs (N12 n) (N1a n) a) (fun (t : (List Int)) => (Exit.ret,⟨mkE 22 0 [(6,.slc 0)],[some (sI t)]⟩)) := .of fun K h => by
  simp only [Ncs,wpW] at h
  exact .of (by kernel_rfl) h
theorem Nlx (n : Nat) (a : List Int) (b : Int) (c : List Int) {r : AV} {H' : Heap} (h : (Ans.mk _ (N1a (n + 1) a b c) (fun (t : (List Int)) => (.slc 0,[some (sI t)])) [0] none).run = some (r,H')) : Awp (N35 n) LL (bodyOf Tryd.f69) N3c ⟨mkE 22 0 [(0,.slc 0),(1,dL a),(2,dW b)],[some (sI c)]⟩ (Ret (tlook tys) Tryd.f69.results.toList r H') :=
  ret_of' (Link.cast (by kernel_rfl) (by kernel_rfl) (link_seq (Noj n a b c) (fun (t : Unit) => (link_seq (link_seq (N102 n a b c) (fun (t : Int × (List Int)) => (link_block (fin2 := (fun (t20 : (List Int)) => (Exit.normal,⟨mkE 22 0 [(0,.slc 0)],[some (sI t20)]⟩))) (id := 0) (link_loop (mk := fun (s : Int × (List Int)) => ⟨mkE 22 0 [(0,.slc 0),(1,dL a),(10,.slc 1),(11,dI t.1),(12,dI s.1)],[some (sI s.2),some (sI t.2)]⟩) (fin := (fun (t20 : (List Int)) => ((Exit.exit 0),⟨mkE 22 0 [(0,.slc 0)],[some (sI t20)]⟩))) (by
  rintro t20 f K h
  · exact h) (fun s => link_map (Ntw n a t.1 s.1 s.2 t.2) (Sum.elim (fun (t20 : Int × (List Int)) => Sum.inl (t20.1,t20.2)) (fun (t20 : (List Int)) => Sum.inr t20)) (by
  rintro (t20 | t20)
  · kernel_rfl
  · kernel_rfl)) (0,c)) (fun (t20 : (List Int)) => t20) (by
  rintro t20 K h
  · exact Eq.mp (by kernel_rfl) h)))) (fun (t : (List Int)) => (Nws n t)))))) (by (show _ = _); kernel_rfl) (by
  intro t
  exact ret_mk [.slc 0] (by kernel_rfl) (by kernel_rfl) (by kernel_rfl) (by kernel_rfl)) h
theorem Nto (n : Nat) (h66 : Sound Tryd.prog 66 (Nk n)) (h69 : Sound Tryd.prog 69 (Nj n)) : Sound Tryd.prog 66 (Nk (n + 1)) := by
  refine fn_sound' (C := N97 n) (c := bodyOf Tryd.f66) (cok_of tys_ok (allc N10h (allc h69 alln)) (allc Tryd.call68 (allc Tryd.call69 alln)) (by kernel_rfl)) Tryd.func66 (by kernel_rfl) LL Nb2 ?_
  intro avs H r H' h
  unfold Nk at h
  split at h
  · refine Awp.cast ?_ ?_ ?_ (Nqt n _ _ _ h) <;> kernel_rfl
  · simp [Ans.no,Ans.run] at h
theorem Nyi : Sound Tryd.prog 66 (Nk 0) := by
  intro avs H r H' h
  unfold Nk at h
  split at h
  · simp [N12,N1n,Ans.run] at h
  · simp [Ans.no,Ans.run] at h
theorem Nm4 (n : Nat) (h66 : Sound Tryd.prog 66 (Nk n)) (h69 : Sound Tryd.prog 69 (Nj n)) : Sound Tryd.prog 69 (Nj (n + 1)) := by
  refine fn_sound' (C := N35 n) (c := bodyOf Tryd.f69) (cok_of tys_ok (allc Nwh (allc h66 alln)) (allc Tryd.call72 (allc Tryd.call66 alln)) (by kernel_rfl)) Tryd.func69 (by kernel_rfl) LL N3c ?_
  intro avs H r H' h
  unfold Nj at h
  split at h
  · refine Awp.cast ?_ ?_ ?_ (Nlx n _ _ _ h) <;> kernel_rfl
  · simp [Ans.no,Ans.run] at h
theorem Nu8 : Sound Tryd.prog 69 (Nj 0) := by
  intro avs H r H' h
  unfold Nj at h
  split at h
  · simp [N1a,N1n,Ans.run] at h
  · simp [Ans.no,Ans.run] at h
theorem Nbk : ∀ n,Sound Tryd.prog 66 (Nk n) ∧ Sound Tryd.prog 69 (Nj n)
  | 0 => ⟨Nyi,Nu8⟩
  | n + 1 => by
    obtain ⟨h66,h69⟩ := Nbk n
    exact ⟨Nto n h66 h69,Nm4 n h66 h69⟩
def N6a : Fun := fun avs H =>
  match avs,H with
  | [.slc 0,.dat (.list (.int .i64)) a,.dat (.int .i64) b],[some (.seq (.int .i64) c)] => ⟨_,Nd2 a b c,fun (t : (List Int)) => (.slc 0,[some (sI t)]),[0],none⟩
  | _,_ => Ans.no
theorem Nnf : Sound Tryd.prog 66 N6a := by
  have e : N6a = Nk RR := by
    funext avs H
    unfold N6a Nk
    split <;> first | rfl | (simp only [Nd2])
  rw [e]
  exact (Nbk RR).1
def Nam : Fun := fun avs H =>
  match avs,H with
  | [.slc 0,.dat (.list (.int .i64)) a,.dat (.int .u64) b],[some (.seq (.int .i64) c)] => ⟨_,Nhs a b c,fun (t : (List Int)) => (.slc 0,[some (sI t)]),[0],none⟩
  | _,_ => Ans.no
theorem N10q : Sound Tryd.prog 69 Nam := by
  have e : Nam = Nj RR := by
    funext avs H
    unfold Nam Nj
    split <;> first | rfl | (simp only [Nhs])
  rw [e]
  exact (Nbk RR).2

def Nbn : Ann := (.seq (.leaf [0]) (.seq (.seq (.leaf [0,5]) (.cond (.seq (.leaf [2]) (.leaf [2])) (.leaf [0]))) (.seq (.draw [5,100006] [0,1,3,4,5,2,6,7] [] [2]) (.leaf [2]))))
noncomputable def Nav : Ctx := ⟨tlook tys,olook [(42,N1d),(67,Nds),(66,N6a)],ioF,0,false,[]⟩
theorem Ns7 (a : List Int) : Link Nav LL (bodyOf Tryd.f61) Nbn ⟨mkE 13 0 [(0,dL a)],[]⟩ (Nd8 a) (fun (t : (List Int)) => (Exit.ret,⟨mkE 13 0 [(2,.slc 0)],[some (sI t)]⟩)) := .of fun K h => by
  simp only [Nd8,wpW] at h
  exact .of (by kernel_rfl) h
theorem Nra (a : List Int) {r : AV} {H' : Heap} (h : (Ans.mk _ (N75 a) (fun (t : (List Int)) => (.slc 0,[some (sI t)])) [] none).run = some (r,H')) : Awp Nav LL (bodyOf Tryd.f61) Nbn ⟨mkE 13 0 [(0,dL a)],[]⟩ (Ret (tlook tys) Tryd.f61.results.toList r H') :=
  ret_of' (Ns7 a) (by unfold N75; kernel_rfl) (by
  intro t
  exact ret_mk [.slc 0] (by kernel_rfl) (by kernel_rfl) (by kernel_rfl) (by kernel_rfl)) h
def Neh : Fun := fun avs H =>
  match avs,H with
  | [.dat (.list (.int .i64)) a],[] => ⟨_,N75 a,fun (t : (List Int)) => (.slc 0,[some (sI t)]),[],none⟩
  | _,_ => Ans.no
theorem Nju : Sound Tryd.prog 61 Neh := by
  refine fn_sound' (C := Nav) (c := bodyOf Tryd.f61) (cok_of tys_ok (allc N1s (allc Nok (allc Nnf alln))) (allc Tryd.call42 (allc Tryd.call67 (allc Tryd.call66 alln))) (by kernel_rfl)) Tryd.func61 (by kernel_rfl) LL Nbn ?_
  intro avs H r H' h
  unfold Neh at h
  split at h
  · refine Awp.cast ?_ ?_ ?_ (Nra _ h) <;> kernel_rfl
  · simp [Ans.no,Ans.run] at h

def Ndy : Ann := (.seq (.leaf [0]) (.seq (.leaf [3]) (.seq (.leaf [2]) (.leaf [2]))))
noncomputable def Na0 : Ctx := ⟨tlook tys,olook [(61,Neh),(59,N5s)],ioF,0,false,[]⟩
theorem Nvt (a : List Int) : Link Na0 LL (bodyOf Tryd.f54) Ndy ⟨mkE 13 0 [(0,dL a)],[]⟩ (Nbx a) (fun (t : (List Int)) => (Exit.ret,⟨mkE 13 0 [(2,.slc 0)],[some (sI t)]⟩)) := .of fun K h => by
  simp only [Nbx,wpW] at h
  exact .of (by kernel_rfl) h
theorem Np8 (a : List Int) {r : AV} {H' : Heap} (h : (Ans.mk _ (N4v a) (fun (t : (List Int)) => (.slc 0,[some (sI t)])) [] none).run = some (r,H')) : Awp Na0 LL (bodyOf Tryd.f54) Ndy ⟨mkE 13 0 [(0,dL a)],[]⟩ (Ret (tlook tys) Tryd.f54.results.toList r H') :=
  ret_of' (Nvt a) (by unfold N4v; kernel_rfl) (by
  intro t
  exact ret_mk [.slc 0] (by kernel_rfl) (by kernel_rfl) (by kernel_rfl) (by kernel_rfl)) h
def Nd3 : Fun := fun avs H =>
  match avs,H with
  | [.dat (.list (.int .i64)) a],[] => ⟨_,N4v a,fun (t : (List Int)) => (.slc 0,[some (sI t)]),[],none⟩
  | _,_ => Ans.no
theorem Nzw : Sound Tryd.prog 54 Nd3 := by
  refine fn_sound' (C := Na0) (c := bodyOf Tryd.f54) (cok_of tys_ok (allc Nju (allc Nh3 alln)) (allc Tryd.call61 (allc Tryd.call59 alln)) (by kernel_rfl)) Tryd.func54 (by kernel_rfl) LL Ndy ?_
  intro avs H r H' h
  unfold Nd3 at h
  split at h
  · refine Awp.cast ?_ ?_ ?_ (Np8 _ h) <;> kernel_rfl
  · simp [Ans.no,Ans.run] at h

def Ncw : Ann := (.seq (.leaf [0,3]) (.seq (.seq (.leaf [0,3,7]) (.block (.seq (.leaf [0,3,7,8]) (.cond (.seq (.seq (.leaf [0,3,14]) (.cond (.seq (.leaf [4]) (.leaf [4])) (.leaf [0,3]))) (.seq (.leaf [3,5]) (.seq (.leaf [5]) (.seq (.leaf [4]) (.leaf [4]))))) (.seq (.leaf [0,3,7,25]) (.cond (.seq (.draw [1,4] [0,2,3,4,1,5,6] [] [4]) (.leaf [4])) (.seq (.leaf [0,7,33]) (.cond (.seq (.leaf [4]) (.leaf [4])) (.seq (.leaf [0,7,41]) (.cond (.seq (.leaf [4]) (.leaf [4])) (.seq (.leaf [0,45]) (.cond (.seq (.leaf [4]) (.leaf [4])) (.leaf []))))))))))))) (.seq (.leaf [4]) (.leaf [4]))))
noncomputable def Naw : Ctx := ⟨tlook tys,olook [(52,Ndw),(44,Ncz),(53,Ndx),(54,Nd3)],ioF,0,false,[]⟩
theorem N104 (a : List Int) (b c d : Int) : Link Naw LL (bodyOf Tryd.f45) Ncw ⟨mkE 49 0 [(0,dL a),(1,.agg [dI b,dI c,dI d])],[]⟩ (Ndk a b c d) (fun (t : (List Int)) => (Exit.ret,⟨mkE 49 0 [(4,.slc 0)],[some (sI t)]⟩)) := .of fun K h => by
  simp only [Ndk,wpW] at h
  exact .of (by kernel_rfl) h
theorem Nsu (a : List Int) (b c d : Int) {r : AV} {H' : Heap} (h : (Ans.mk _ (N6t a b c d) (fun (t : (List Int)) => (.slc 0,[some (sI t)])) [] none).run = some (r,H')) : Awp Naw LL (bodyOf Tryd.f45) Ncw ⟨mkE 49 0 [(0,dL a),(1,.agg [dI b,dI c,dI d])],[]⟩ (Ret (tlook tys) Tryd.f45.results.toList r H') :=
  ret_of' (N104 a b c d) (by unfold N6t; kernel_rfl) (by
  intro t
  exact ret_mk [.slc 0] (by kernel_rfl) (by kernel_rfl) (by kernel_rfl) (by kernel_rfl)) h
def N8k : Fun := fun avs H =>
  match avs,H with
  | [.dat (.list (.int .i64)) a,.agg [.dat (.int .i64) b,.dat (.int .i64) c,.dat (.int .i64) d]],[] => ⟨_,N6t a b c d,fun (t : (List Int)) => (.slc 0,[some (sI t)]),[],none⟩
  | _,_ => Ans.no
theorem Nml : Sound Tryd.prog 45 N8k := by
  refine fn_sound' (C := Naw) (c := bodyOf Tryd.f45) (cok_of tys_ok (allc Nq8 (allc Nfl (allc Ny3 (allc Nzw alln)))) (allc Tryd.call52 (allc Tryd.call44 (allc Tryd.call53 (allc Tryd.call54 alln)))) (by kernel_rfl)) Tryd.func45 (by kernel_rfl) LL Ncw ?_
  intro avs H r H' h
  unfold N8k at h
  split at h
  · refine Awp.cast ?_ ?_ ?_ (Nsu _ _ _ _ h) <;> kernel_rfl
  · simp [Ans.no,Ans.run] at h

def N1c : Ann := (.seq (.leaf [0,1]) (.seq (.seq (.leaf [0,1,10]) (.cond (.seq (.leaf [4]) (.leaf [4])) (.leaf [0,1]))) (.seq (.seq (.leaf [0,1,12,13]) (.block (.loop (.seq (.leaf [0,1,12,13,14]) (.seq (.cond (.leaf [0,1,12,13]) (.leaf [])) (.seq (.block (.seq (.leaf [0,1,5,12,13]) (.seq (.draw [] [0,1,2,3,4,5,6,7,8] [] [0,1,12,13,24]) (.cond (.seq (.leaf [4]) (.leaf [4])) (.leaf [0,1,12,13]))))) (.leaf [0,1,12,13]))))))) (.seq (.leaf [4]) (.leaf [4])))))
noncomputable def N2f : Ctx := ⟨tlook tys,olook [],ioF,0,false,[]⟩
theorem Nit (a b : List Int) : Link N2f LL (Code.seq (cq [0] (bodyOf Tryd.f46)) (cq [0,1] (bodyOf Tryd.f46))) (Ann.seq (aq [0] N1c) (aq [0,1] N1c)) ⟨mkE 26 0 [(0,dL a),(1,dL b)],[]⟩ (Nbv a b) (Sum.elim (fun (t : Unit) => (Exit.normal,⟨mkE 26 0 [(0,dL a),(1,dL b)],[]⟩)) (fun (t : Bool) => (Exit.ret,⟨mkE 26 0 [(4,dB t)],[]⟩))) := .of fun K h => by
  simp only [Nbv,wpW] at h
  exact .of (by kernel_rfl) h
theorem Nz1 (a b : List Int) : Link N2f LL (cq [0,0,1,1] (bodyOf Tryd.f46)) (aq [0,0,1,1] N1c) ⟨mkE 26 0 [(0,dL a),(1,dL b)],[]⟩ (N8w a) (fun (t : Int) => (Exit.normal,⟨mkE 26 0 [(0,dL a),(1,dL b),(12,dI t),(13,dI 0)],[]⟩)) := .of fun K h => by
  simp only [N8w,wpW] at h
  exact .of (by kernel_rfl) h
theorem Nuv (a b : List Int) (c d : Int) : Link N2f LL (cq [0,0,1,0,1,1] (bodyOf Tryd.f46)) (aq [0,0,1,0,1,1] N1c) ⟨mkE 26 0 [(0,dL a),(1,dL b),(12,dI c),(13,dI d)],[]⟩ (Ndo a b c d) (Sum.elim (fun (t : Int) => (Exit.normal,⟨mkE 26 0 [(0,dL a),(1,dL b),(12,dI c),(13,dI t)],[]⟩)) (Sum.elim (fun (t : Bool) => (Exit.ret,⟨mkE 26 0 [(4,dB t)],[]⟩)) (fun (t : Unit) => ((Exit.exit 0),⟨mkE 26 0 [],[]⟩)))) := .of fun K h => by
  simp only [Ndo,wpW] at h
  exact .of (by kernel_rfl) h
theorem Ns2 : Link N2f LL (cq [1,1,1] (bodyOf Tryd.f46)) (aq [1,1,1] N1c) ⟨mkE 26 0 [],[]⟩ (N98) (fun (t : Bool) => (Exit.ret,⟨mkE 26 0 [(4,dB t)],[]⟩)) := .of fun K h => by
  simp only [N98,wpW] at h
  exact .of (by kernel_rfl) h
theorem Nv0 (b d : List Int) {r : AV} {H' : Heap} (h : (Ans.mk _ (N6s b d) (fun (t : Bool) => (dB t,[])) [] none).run = some (r,H')) : Awp N2f LL (bodyOf Tryd.f46) N1c ⟨mkE 26 0 [(0,dL b),(1,dL d)],[]⟩ (Ret (tlook tys) Tryd.f46.results.toList r H') :=
  ret_of' (Link.cast (by kernel_rfl) (by kernel_rfl) (link_group (c := (cq [0,1] (bodyOf Tryd.f46))) (a := (aq [0,1] N1c)) [(cq [0] (bodyOf Tryd.f46))] [(aq [0] N1c)] rfl (link_seq2 (Nit b d) (fun (t : Unit) => (link_seq2 (link_seq (Nz1 b d) (fun (t : Int) => (link_block (fin2 := (Sum.elim (fun (t21 : Unit) => (Exit.normal,⟨mkE 26 0 [],[]⟩)) (fun (t21 : Bool) => (Exit.ret,⟨mkE 26 0 [(4,dB t21)],[]⟩)))) (id := 0) (link_loop (mk := fun (s : Int) => ⟨mkE 26 0 [(0,dL b),(1,dL d),(12,dI t),(13,dI s)],[]⟩) (fin := (Sum.elim (fun (t21 : Bool) => (Exit.ret,⟨mkE 26 0 [(4,dB t21)],[]⟩)) (fun (t21 : Unit) => ((Exit.exit 0),⟨mkE 26 0 [],[]⟩)))) (by
  rintro (t21 | t21) f K h
  · exact h
  · exact h) (fun s => link_map (Nuv b d t s) (Sum.elim (fun (t21 : Int) => Sum.inl t21) (Sum.elim (fun (t21 : Bool) => Sum.inr (Sum.inl t21)) (fun (t21 : Unit) => Sum.inr (Sum.inr t21)))) (by
  rintro (t21 | t21 | t21)
  · kernel_rfl
  · kernel_rfl
  · kernel_rfl)) 0) (Sum.elim (fun (t21 : Bool) => (Sum.inr t21)) (fun (t21 : Unit) => (Sum.inl ()))) (by
  rintro (t21 | t21) K h
  · exact Eq.mp (by kernel_rfl) h
  · exact Eq.mp (by kernel_rfl) h)))) (fun (t : Unit) => (Ns2)) (fun (t : Bool) => t) (by
  rintro t
  · kernel_rfl) (by
  rintro t f K h
  · exact h))) (fun (t : Bool) => t) (by
  rintro t
  · kernel_rfl) (by
  rintro t f K h
  · exact h)))) (by unfold N6s; kernel_rfl) (by
  intro t
  exact ret_mk [dB t] (by kernel_rfl) (by kernel_rfl) (by kernel_rfl) (by kernel_rfl)) h
def Ncq : Fun := fun avs H =>
  match avs,H with
  | [.dat (.list (.int .i64)) a,.dat (.list (.int .i64)) b],[] => ⟨_,N6s a b,fun (t : Bool) => (dB t,[]),[],none⟩
  | _,_ => Ans.no
theorem N10a : Sound Tryd.prog 46 Ncq := by
  refine fn_sound' (C := N2f) (c := bodyOf Tryd.f46) (cok_of tys_ok (alln) (alln) (by kernel_rfl)) Tryd.func46 (by kernel_rfl) LL N1c ?_
  intro avs H r H' h
  unfold Ncq at h
  split at h
  · refine Awp.cast ?_ ?_ ?_ (Nv0 _ _ h) <;> kernel_rfl
  · simp [Ans.no,Ans.run] at h

def ren_slices_Clone_ints_int : Go.Shelf.Ren := ⟨fun | 41 => 47 | n => n,fun | 4 => 4 | 22 => 23 | 23 => 22 | n => n,fun n => n⟩
theorem lay_slices_Clone_ints_int : SlLaysE0.n41 Tryd.prog ren_slices_Clone_ints_int := {
  mixed := by kernel_rfl
  f41 := ⟨Tryd.f47.name,by kernel_rfl,Tryd.func47.trans (congrArg some (by kernel_rfl))⟩
  t4 := Tryd.underlying4
  a4 := Tryd.isAgg4
  z4 := Tryd.sizeOf4
  v4 := Tryd.zeroValue4
  t22 := Tryd.underlying23
  a22 := Tryd.isAgg23
  z22 := Tryd.sizeOf23
  v22 := Tryd.zeroValue23 }
def Ni0 : Fun := F_cloneD
theorem Nx7 : Sound Tryd.prog 47 Ni0 := cloneD_sound lay_slices_Clone_ints_int (infoOf (Tryd.prog.info? 22)) (.slice none 0 0) 24 (by kernel_rfl) (by kernel_rfl) (by kernel_rfl) (by kernel_rfl) (by kernel_rfl) (by decide) Tryd.sizeOf22

def Nbh : Ann := (.seq (.leaf [2,3,4]) (.seq (.leaf [2,4,6]) (.seq (.seq (.leaf [2,4,6,20]) (.cond (.seq (.leaf [4,5]) (.leaf [4,5])) (.leaf [2,4,6]))) (.seq (.draw [2,5] [0,1,3,4,5,2,6,7] [] [4,6,7]) (.seq (.leaf [4,5]) (.leaf [4,5]))))))
noncomputable def Nd7 : Ctx := ⟨tlook tys,olook [(45,N8k),(42,N1d),(29,N2e),(46,Ncq),(47,Ni0)],ioF,0,true,[]⟩
theorem Nuo (a : List Int) (b : List (List Int)) (c d g : Int) : Link Nd7 LL (bodyOf Tryd.f31) Nbh ⟨mkE 41 0 [(0,.agg [dL a,.dat (.list (.list (.int .i64))) b]),(1,.agg [dI c,dI d,dI g])],[]⟩ (Ncm a b c d g) (fun (t : Bool × (List Int) × (List (List Int))) => (Exit.ret,⟨mkE 41 0 [(4,.ptr 0 0),(5,dB t.1)],[some (.box [.slc 1,.slc 2]),some (sI t.2.1),some (.nest (.int .i64) t.2.2 0 [])]⟩)) := .of fun K h => by
  simp only [Ncm,wpW] at h
  exact .of (by kernel_rfl) h
theorem Nxh (a : List Int) (b : List (List Int)) (c d g : Int) {r : AV} {H' : Heap} (h : (Ans.mk _ (N88 a b c d g) (fun (t : Bool × (List Int) × (List (List Int))) => (.tup [.agg [.slc 1,.slc 2],dB t.1],[some (.box [.slc 1,.slc 2]),some (sI t.2.1),some (.nest (.int .i64) t.2.2 0 [])])) [] none).run = some (r,H')) : Awp Nd7 LL (bodyOf Tryd.f31) Nbh ⟨mkE 41 0 [(0,.agg [dL a,.dat (.list (.list (.int .i64))) b]),(1,.agg [dI c,dI d,dI g])],[]⟩ (Ret (tlook tys) Tryd.f31.results.toList r H') :=
  ret_of' (Nuo a b c d g) (by unfold N88; kernel_rfl) (by
  intro t
  exact ret_mk [.agg [.slc 1,.slc 2],dB t.1] (by kernel_rfl) (by kernel_rfl) (by kernel_rfl) (by kernel_rfl)) h
def N8x : Fun := fun avs H =>
  match avs,H with
  | [.agg [.dat (.list (.int .i64)) a,.dat (.list (.list (.int .i64))) b],.agg [.dat (.int .i64) c,.dat (.int .i64) d,.dat (.int .i64) g]],[] => ⟨_,N88 a b c d g,fun (t : Bool × (List Int) × (List (List Int))) => (.tup [.agg [.slc 1,.slc 2],dB t.1],[some (.box [.slc 1,.slc 2]),some (sI t.2.1),some (.nest (.int .i64) t.2.2 0 [])]),[],none⟩
  | _,_ => Ans.no
theorem Nko : Sound Tryd.prog 31 N8x := by
  refine fn_sound' (C := Nd7) (c := bodyOf Tryd.f31) (cok_of tys_ok (allc Nml (allc N1s (allc N7o (allc N10a (allc Nx7 alln))))) (allc Tryd.call45 (allc Tryd.call42 (allc Tryd.call29 (allc Tryd.call46 (allc Tryd.call47 alln))))) (by kernel_rfl)) Tryd.func31 (by kernel_rfl) LL Nbh ?_
  intro avs H r H' h
  unfold N8x at h
  split at h
  · refine Awp.cast ?_ ?_ ?_ (Nxh _ _ _ _ _ h) <;> kernel_rfl
  · simp [Ans.no,Ans.run] at h

def N9q : Ann := (.seq (.leaf [2,3,4]) (.seq (.seq (.leaf [2,3,4,8]) (.cond (.seq (.leaf [4,5]) (.leafF [⟨0,4,false,some 0,some (.int .i64)⟩,⟨0,4,true,some 1,some (.int .i64)⟩] [4,5])) (.leaf [2,3,4]))) (.seq (.seq (.leaf [2,3,4,12]) (.cond (.seq (.leaf [4,5]) (.leaf [4,5])) (.leaf [2,3,4]))) (.seq (.seq (.leaf [2,3,4,20]) (.cond (.seq (.leaf [4,5]) (.leaf [4,5])) (.leaf [2,3,4]))) (.seq (.leaf [4,5]) (.leaf [4,5]))))))
noncomputable def Na8 : Ctx := ⟨tlook tys,olook [(27,N69),(28,N9l),(29,N2e),(30,Nd4),(31,N8x)],ioF,0,true,[]⟩
theorem Nx9 (a : List Int) (b : List (List Int)) (c d g : Int) : Link Na8 LL (bodyOf Tryd.f9) N9q ⟨mkE 30 0 [(0,.agg [dL a,.dat (.list (.list (.int .i64))) b]),(1,.agg [dI c,dI d,dI g])],[]⟩ (Nai a b c d g) (fun (t : Bool × (List Int) × (List (List Int))) => (Exit.ret,⟨mkE 30 0 [(4,.ptr 0 0),(5,dB t.1)],[some (.box [.slc 1,.slc 2]),some (sI t.2.1),some (.nest (.int .i64) t.2.2 0 [])]⟩)) := .of fun K h => by
  simp only [Nai,wpW] at h
  exact .of (by kernel_rfl) h
theorem Nur (a : List Int) (b : List (List Int)) (c d g : Int) {r : AV} {H' : Heap} (h : (Ans.mk _ (N76 a b c d g) (fun (t : Bool × (List Int) × (List (List Int))) => (.tup [.agg [.slc 1,.slc 2],dB t.1],[some (.box [.slc 1,.slc 2]),some (sI t.2.1),some (.nest (.int .i64) t.2.2 0 [])])) [] none).run = some (r,H')) : Awp Na8 LL (bodyOf Tryd.f9) N9q ⟨mkE 30 0 [(0,.agg [dL a,.dat (.list (.list (.int .i64))) b]),(1,.agg [dI c,dI d,dI g])],[]⟩ (Ret (tlook tys) Tryd.f9.results.toList r H') :=
  ret_of' (Nx9 a b c d g) (by unfold N76; kernel_rfl) (by
  intro t
  exact ret_mk [.agg [.slc 1,.slc 2],dB t.1] (by kernel_rfl) (by kernel_rfl) (by kernel_rfl) (by kernel_rfl)) h
def Nb6 : Fun := fun avs H =>
  match avs,H with
  | [.agg [.dat (.list (.int .i64)) a,.dat (.list (.list (.int .i64))) b],.agg [.dat (.int .i64) c,.dat (.int .i64) d,.dat (.int .i64) g]],[] => ⟨_,N76 a b c d g,fun (t : Bool × (List Int) × (List (List Int))) => (.tup [.agg [.slc 1,.slc 2],dB t.1],[some (.box [.slc 1,.slc 2]),some (sI t.2.1),some (.nest (.int .i64) t.2.2 0 [])]),[],none⟩
  | _,_ => Ans.no
theorem Nnj : Sound Tryd.prog 9 Nb6 := by
  refine fn_sound' (C := Na8) (c := bodyOf Tryd.f9) (cok_of tys_ok (allc Nhi (allc Nky (allc N7o (allc Nv8 (allc Nko alln))))) (allc Tryd.call27 (allc Tryd.call28 (allc Tryd.call29 (allc Tryd.call30 (allc Tryd.call31 alln))))) (by kernel_rfl)) Tryd.func9 (by kernel_rfl) LL N9q ?_
  intro avs H r H' h
  unfold Nb6 at h
  split at h
  · refine Awp.cast ?_ ?_ ?_ (Nur _ _ _ _ _ h) <;> kernel_rfl
  · simp [Ans.no,Ans.run] at h

end Go.Rv
