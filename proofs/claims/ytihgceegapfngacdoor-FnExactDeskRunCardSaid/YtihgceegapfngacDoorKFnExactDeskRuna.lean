/-
  The checked code answers as the plain functions do; written by program. Conditions: none.
-/
import Derived.Test.YtihgceegapfngacDoorGFnExactDeskRun
import Derived.Test.YtihgceegapfngacDoorFB
import Derived.Test.YtihgceegapfngacDoorProg
set_option linter.unusedVariables false
set_option linter.unusedSimpArgs false
set_option linter.defProp false
set_option maxRecDepth 100000
namespace Go.Rv
open Go.Proofs
theorem ty3 : TIOk Tryd.prog 3 ⟨.int .i64,1,8,some (.int .i64),[.int .i64 0],false⟩ := ⟨⟨infoOf (Tryd.prog.info? 3),by kernel_rfl,by kernel_rfl,by kernel_rfl,.int .i64 0,by kernel_rfl,by kernel_rfl⟩,(by kernel_rfl : Tryd.prog.underlying 3 = some (.int .i64)),no_eq⟩
theorem ty4 : TIOk Tryd.prog 4 ⟨.bool,1,1,some .bool,[.bool false],false⟩ := ⟨⟨infoOf (Tryd.prog.info? 4),by kernel_rfl,by kernel_rfl,by kernel_rfl,.bool false,by kernel_rfl,by kernel_rfl⟩,(by kernel_rfl : Tryd.prog.underlying 4 = some .bool),no_eq⟩
theorem ty5 : TIOk Tryd.prog 5 ⟨.int .u8,1,1,some (.int .u8),[.int .u8 0],false⟩ := ⟨⟨infoOf (Tryd.prog.info? 5),by kernel_rfl,by kernel_rfl,by kernel_rfl,.int .u8 0,by kernel_rfl,by kernel_rfl⟩,(by kernel_rfl : Tryd.prog.underlying 5 = some (.int .u8)),no_eq⟩
theorem ty22 : TIOk Tryd.prog 22 ⟨.slice 3,1,24,some (.list (.int .i64)),[.slice none 0 0],false⟩ := ⟨⟨infoOf (Tryd.prog.info? 22),by kernel_rfl,by kernel_rfl,by kernel_rfl,.slice none 0 0,by kernel_rfl,by kernel_rfl⟩,(by kernel_rfl : Tryd.prog.underlying 22 = some (.slice 3)),no_eq⟩
theorem ty23 : TIOk Tryd.prog 23 ⟨.slice 22,1,24,some (.list (.list (.int .i64))),[.slice none 0 0],false⟩ := ⟨⟨infoOf (Tryd.prog.info? 23),by kernel_rfl,by kernel_rfl,by kernel_rfl,.slice none 0 0,by kernel_rfl,by kernel_rfl⟩,(by kernel_rfl : Tryd.prog.underlying 23 = some (.slice 22)),no_eq⟩
theorem ty25 : TIOk Tryd.prog 25 ⟨.strct [(0,22),(1,23)],2,48,some (.pair (.list (.int .i64)) (.pair (.list (.list (.int .i64))) .unit)),[.slice none 0 0,.slice none 0 0],false⟩ := ⟨⟨infoOf (Tryd.prog.info? 25),by kernel_rfl,by kernel_rfl,by kernel_rfl,.agg #[.slice none 0 0,.slice none 0 0],by kernel_rfl,by kernel_rfl⟩,⟨fieldsOf (Tryd.prog.underlying 25),by kernel_rfl,by kernel_rfl⟩,no_eq⟩
theorem ty27 : TIOk Tryd.prog 27 ⟨.strct [(0,3),(1,3),(2,3)],3,24,some (.pair (.int .i64) (.pair (.int .i64) (.pair (.int .i64) .unit))),[.int .i64 0,.int .i64 0,.int .i64 0],false⟩ := ⟨⟨infoOf (Tryd.prog.info? 27),by kernel_rfl,by kernel_rfl,by kernel_rfl,.agg #[.int .i64 0,.int .i64 0,.int .i64 0],by kernel_rfl,by kernel_rfl⟩,⟨fieldsOf (Tryd.prog.underlying 27),by kernel_rfl,by kernel_rfl⟩,no_eq⟩
theorem ty29 : TIOk Tryd.prog 29 ⟨.strct [(0,22),(1,23)],2,48,some (.pair (.list (.int .i64)) (.pair (.list (.list (.int .i64))) .unit)),[.slice none 0 0,.slice none 0 0],false⟩ := ⟨⟨infoOf (Tryd.prog.info? 29),by kernel_rfl,by kernel_rfl,by kernel_rfl,.agg #[.slice none 0 0,.slice none 0 0],by kernel_rfl,by kernel_rfl⟩,⟨fieldsOf (Tryd.prog.underlying 29),by kernel_rfl,by kernel_rfl⟩,no_eq⟩
theorem ty33 : TIOk Tryd.prog 33 ⟨.strct [(0,3),(1,3),(2,3)],3,24,some (.pair (.int .i64) (.pair (.int .i64) (.pair (.int .i64) .unit))),[.int .i64 0,.int .i64 0,.int .i64 0],true⟩ := ⟨⟨infoOf (Tryd.prog.info? 33),by kernel_rfl,by kernel_rfl,by kernel_rfl,.agg #[.int .i64 0,.int .i64 0,.int .i64 0],by kernel_rfl,by kernel_rfl⟩,⟨fieldsOf (Tryd.prog.underlying 33),by kernel_rfl,by kernel_rfl⟩,fun _ => by kernel_rfl⟩
theorem ty38 : TIOk Tryd.prog 38 ⟨.slice 27,1,24,some (.list (.pair (.int .i64) (.pair (.int .i64) (.pair (.int .i64) .unit)))),[.slice none 0 0],false⟩ := ⟨⟨infoOf (Tryd.prog.info? 38),by kernel_rfl,by kernel_rfl,by kernel_rfl,.slice none 0 0,by kernel_rfl,by kernel_rfl⟩,(by kernel_rfl : Tryd.prog.underlying 38 = some (.slice 27)),no_eq⟩
theorem ty42 : TIOk Tryd.prog 42 ⟨.slice 33,1,24,some (.list (.pair (.int .i64) (.pair (.int .i64) (.pair (.int .i64) .unit)))),[.slice none 0 0],false⟩ := ⟨⟨infoOf (Tryd.prog.info? 42),by kernel_rfl,by kernel_rfl,by kernel_rfl,.slice none 0 0,by kernel_rfl,by kernel_rfl⟩,(by kernel_rfl : Tryd.prog.underlying 42 = some (.slice 33)),no_eq⟩
theorem ty72 : TIOk Tryd.prog 72 ⟨.strct [(0,22),(1,3),(2,3)],3,40,some (.pair (.list (.int .i64)) (.pair (.int .i64) (.pair (.int .i64) .unit))),[.slice none 0 0,.int .i64 0,.int .i64 0],false⟩ := ⟨⟨infoOf (Tryd.prog.info? 72),by kernel_rfl,by kernel_rfl,by kernel_rfl,.agg #[.slice none 0 0,.int .i64 0,.int .i64 0],by kernel_rfl,by kernel_rfl⟩,⟨fieldsOf (Tryd.prog.underlying 72),by kernel_rfl,by kernel_rfl⟩,no_eq⟩
theorem ty77 : TIOk Tryd.prog 77 ⟨.arr 9 4,9,9,none,[.bool false,.bool false,.bool false,.bool false,.bool false,.bool false,.bool false,.bool false,.bool false],false⟩ := ⟨⟨infoOf (Tryd.prog.info? 77),by kernel_rfl,by kernel_rfl,by kernel_rfl,.agg #[.bool false,.bool false,.bool false,.bool false,.bool false,.bool false,.bool false,.bool false,.bool false],by kernel_rfl,by kernel_rfl⟩,(by kernel_rfl : Tryd.prog.underlying 77 = some (.array 9 4)),no_eq⟩
theorem ty79 : TIOk Tryd.prog 79 ⟨.int .u64,1,8,some (.int .u64),[.int .u64 0],false⟩ := ⟨⟨infoOf (Tryd.prog.info? 79),by kernel_rfl,by kernel_rfl,by kernel_rfl,.int .u64 0,by kernel_rfl,by kernel_rfl⟩,(by kernel_rfl : Tryd.prog.underlying 79 = some (.int .u64)),no_eq⟩
theorem ty91 : TIOk Tryd.prog 91 ⟨.int .u64,1,8,some (.int .u64),[.int .u64 0],false⟩ := ⟨⟨infoOf (Tryd.prog.info? 91),by kernel_rfl,by kernel_rfl,by kernel_rfl,.int .u64 0,by kernel_rfl,by kernel_rfl⟩,(by kernel_rfl : Tryd.prog.underlying 91 = some (.int .u64)),no_eq⟩
theorem ty93 : TIOk Tryd.prog 93 ⟨.arr 64 5,64,64,none,[.int .u8 0,.int .u8 0,.int .u8 0,.int .u8 0,.int .u8 0,.int .u8 0,.int .u8 0,.int .u8 0,.int .u8 0,.int .u8 0,.int .u8 0,.int .u8 0,.int .u8 0,.int .u8 0,.int .u8 0,.int .u8 0,.int .u8 0,.int .u8 0,.int .u8 0,.int .u8 0,.int .u8 0,.int .u8 0,.int .u8 0,.int .u8 0,.int .u8 0,.int .u8 0,.int .u8 0,.int .u8 0,.int .u8 0,.int .u8 0,.int .u8 0,.int .u8 0,.int .u8 0,.int .u8 0,.int .u8 0,.int .u8 0,.int .u8 0,.int .u8 0,.int .u8 0,.int .u8 0,.int .u8 0,.int .u8 0,.int .u8 0,.int .u8 0,.int .u8 0,.int .u8 0,.int .u8 0,.int .u8 0,.int .u8 0,.int .u8 0,.int .u8 0,.int .u8 0,.int .u8 0,.int .u8 0,.int .u8 0,.int .u8 0,.int .u8 0,.int .u8 0,.int .u8 0,.int .u8 0,.int .u8 0,.int .u8 0,.int .u8 0,.int .u8 0],false⟩ := ⟨⟨infoOf (Tryd.prog.info? 93),by kernel_rfl,by kernel_rfl,by kernel_rfl,.agg #[.int .u8 0,.int .u8 0,.int .u8 0,.int .u8 0,.int .u8 0,.int .u8 0,.int .u8 0,.int .u8 0,.int .u8 0,.int .u8 0,.int .u8 0,.int .u8 0,.int .u8 0,.int .u8 0,.int .u8 0,.int .u8 0,.int .u8 0,.int .u8 0,.int .u8 0,.int .u8 0,.int .u8 0,.int .u8 0,.int .u8 0,.int .u8 0,.int .u8 0,.int .u8 0,.int .u8 0,.int .u8 0,.int .u8 0,.int .u8 0,.int .u8 0,.int .u8 0,.int .u8 0,.int .u8 0,.int .u8 0,.int .u8 0,.int .u8 0,.int .u8 0,.int .u8 0,.int .u8 0,.int .u8 0,.int .u8 0,.int .u8 0,.int .u8 0,.int .u8 0,.int .u8 0,.int .u8 0,.int .u8 0,.int .u8 0,.int .u8 0,.int .u8 0,.int .u8 0,.int .u8 0,.int .u8 0,.int .u8 0,.int .u8 0,.int .u8 0,.int .u8 0,.int .u8 0,.int .u8 0,.int .u8 0,.int .u8 0,.int .u8 0,.int .u8 0],by kernel_rfl,by kernel_rfl⟩,(by kernel_rfl : Tryd.prog.underlying 93 = some (.array 64 5)),no_eq⟩
def tys : List (TypeId × TI) := [(3,⟨.int .i64,1,8,some (.int .i64),[.int .i64 0],false⟩),(4,⟨.bool,1,1,some .bool,[.bool false],false⟩),(5,⟨.int .u8,1,1,some (.int .u8),[.int .u8 0],false⟩),(22,⟨.slice 3,1,24,some (.list (.int .i64)),[.slice none 0 0],false⟩),(23,⟨.slice 22,1,24,some (.list (.list (.int .i64))),[.slice none 0 0],false⟩),(25,⟨.strct [(0,22),(1,23)],2,48,some (.pair (.list (.int .i64)) (.pair (.list (.list (.int .i64))) .unit)),[.slice none 0 0,.slice none 0 0],false⟩),(27,⟨.strct [(0,3),(1,3),(2,3)],3,24,some (.pair (.int .i64) (.pair (.int .i64) (.pair (.int .i64) .unit))),[.int .i64 0,.int .i64 0,.int .i64 0],false⟩),(29,⟨.strct [(0,22),(1,23)],2,48,some (.pair (.list (.int .i64)) (.pair (.list (.list (.int .i64))) .unit)),[.slice none 0 0,.slice none 0 0],false⟩),(33,⟨.strct [(0,3),(1,3),(2,3)],3,24,some (.pair (.int .i64) (.pair (.int .i64) (.pair (.int .i64) .unit))),[.int .i64 0,.int .i64 0,.int .i64 0],true⟩),(38,⟨.slice 27,1,24,some (.list (.pair (.int .i64) (.pair (.int .i64) (.pair (.int .i64) .unit)))),[.slice none 0 0],false⟩),(42,⟨.slice 33,1,24,some (.list (.pair (.int .i64) (.pair (.int .i64) (.pair (.int .i64) .unit)))),[.slice none 0 0],false⟩),(72,⟨.strct [(0,22),(1,3),(2,3)],3,40,some (.pair (.list (.int .i64)) (.pair (.int .i64) (.pair (.int .i64) .unit))),[.slice none 0 0,.int .i64 0,.int .i64 0],false⟩),(77,⟨.arr 9 4,9,9,none,[.bool false,.bool false,.bool false,.bool false,.bool false,.bool false,.bool false,.bool false,.bool false],false⟩),(79,⟨.int .u64,1,8,some (.int .u64),[.int .u64 0],false⟩),(91,⟨.int .u64,1,8,some (.int .u64),[.int .u64 0],false⟩),(93,⟨.arr 64 5,64,64,none,[.int .u8 0,.int .u8 0,.int .u8 0,.int .u8 0,.int .u8 0,.int .u8 0,.int .u8 0,.int .u8 0,.int .u8 0,.int .u8 0,.int .u8 0,.int .u8 0,.int .u8 0,.int .u8 0,.int .u8 0,.int .u8 0,.int .u8 0,.int .u8 0,.int .u8 0,.int .u8 0,.int .u8 0,.int .u8 0,.int .u8 0,.int .u8 0,.int .u8 0,.int .u8 0,.int .u8 0,.int .u8 0,.int .u8 0,.int .u8 0,.int .u8 0,.int .u8 0,.int .u8 0,.int .u8 0,.int .u8 0,.int .u8 0,.int .u8 0,.int .u8 0,.int .u8 0,.int .u8 0,.int .u8 0,.int .u8 0,.int .u8 0,.int .u8 0,.int .u8 0,.int .u8 0,.int .u8 0,.int .u8 0,.int .u8 0,.int .u8 0,.int .u8 0,.int .u8 0,.int .u8 0,.int .u8 0,.int .u8 0,.int .u8 0,.int .u8 0,.int .u8 0,.int .u8 0,.int .u8 0,.int .u8 0,.int .u8 0,.int .u8 0,.int .u8 0],false⟩)]
theorem tys_ok : TOk Tryd.prog (tlook tys) := tok_of (allc ty3 (allc ty4 (allc ty5 (allc ty22 (allc ty23 (allc ty25 (allc ty27 (allc ty29 (allc ty33 (allc ty38 (allc ty42 (allc ty72 (allc ty77 (allc ty79 (allc ty91 (allc ty93 alln))))))))))))))))
def ioF (f : FuncId) (i : Nat) : Bool := [(11,0),(18,0),(34,0),(35,0),(66,0),(69,0)].any fun (p : Nat × Nat) => Nat.beq p.1 f && Nat.beq p.2 i

def Neu : Ann := (.seq (.leaf [0,1]) (.seq (.leaf [1]) (.seq (.seq (.leaf [1,10]) (.cond (.seq (.leaf [4]) (.leaf [4])) (.leaf [1]))) (.seq (.leaf [4]) (.leaf [4])))))
noncomputable def Nbs : Ctx := ⟨tlook tys,olook [],ioF,0,false,[]⟩
theorem Ns7 (a : List Int) (b : Int) : Link Nbs LL (bodyOf Tryd.f19) Neu ⟨mkE 12 0 [(0,dL a),(1,dI b)],[]⟩ (N5c a b) (fun (t : Int) => (Exit.ret,⟨mkE 12 0 [(4,dI t)],[]⟩)) := .of fun K h => by
  simp only [N5c,wpW] at h
  exact .of (by kernel_rfl) h
theorem Nwb (a : List Int) (b : Int) {r : AV} {H' : Heap} (h : (Ans.mk _ (N1x a b) (fun (t : Int) => (dI t,[])) [] none).run = some (r,H')) : Awp Nbs LL (bodyOf Tryd.f19) Neu ⟨mkE 12 0 [(0,dL a),(1,dI b)],[]⟩ (Ret (tlook tys) Tryd.f19.results.toList r H') :=
  ret_of' (Ns7 a b) (by unfold N1x; kernel_rfl) (by
  intro t
  exact ret_mk [dI t] (by kernel_rfl) (by kernel_rfl) (by kernel_rfl) (by kernel_rfl)) h
def N66 : Fun := fun avs H =>
  match avs,H with
  | [.dat (.list (.int .i64)) a,.dat (.int .i64) b],[] => ⟨_,N1x a b,fun (t : Int) => (dI t,[]),[],none⟩
  | _,_ => Ans.no
theorem Nhg : Sound Tryd.prog 19 N66 := by
  refine fn_sound' (C := Nbs) (c := bodyOf Tryd.f19) (cok_of tys_ok (alln) (alln) (by kernel_rfl)) Tryd.func19 (by kernel_rfl) LL Neu ?_
  intro avs H r H' h
  unfold N66 at h
  split at h
  · refine Awp.cast ?_ ?_ ?_ (Nwb _ _ h) <;> kernel_rfl
  · simp [Ans.no,Ans.run] at h

def Nh : Ann := (.seq (.leaf [0,1]) (.seq (.leaf [0,1]) (.seq (.seq (.leaf [0,1,11]) (.cond (.seq (.leaf [4]) (.leaf [4])) (.leaf [0,1]))) (.seq (.seq (.leaf [0,1,5]) (.block (.loop (.seq (.seq (.leaf [0,1,5,15]) (.cond (.leaf [0,1,5]) (.leaf [1]))) (.seq (.block (.seq (.leaf [0,1,5]) (.seq (.leaf [0,1,5,25]) (.cond (.seq (.leaf [4]) (.leaf [4])) (.leaf [0,1,5]))))) (.leaf [0,1,5])))))) (.seq (.leaf [4]) (.leaf [4]))))))
noncomputable def N3k : Ctx := ⟨tlook tys,olook [(19,N66)],ioF,0,false,[]⟩
theorem Nks (a : List (List Int)) (b : Int) : Link N3k LL (Code.seq (cq [0] (bodyOf Tryd.f20)) (Code.seq (cq [0,1] (bodyOf Tryd.f20)) (cq [0,1,1] (bodyOf Tryd.f20)))) (Ann.seq (aq [0] Nh) (Ann.seq (aq [0,1] Nh) (aq [0,1,1] Nh))) ⟨mkE 27 0 [(0,.dat (.list (.list (.int .i64))) a),(1,dI b)],[]⟩ (N61 a b) (Sum.elim (fun (t : Int) => (Exit.normal,⟨mkE 27 0 [(0,.dat (.list (.list (.int .i64))) a),(1,dI t)],[]⟩)) (fun (t : Int) => (Exit.ret,⟨mkE 27 0 [(4,dI t)],[]⟩))) := .of fun K h => by
  simp only [N61,wpW] at h
  exact .of (by kernel_rfl) h
theorem Nlt (a : List (List Int)) (b : Int) : Link N3k LL (cq [0,0,1,1,1] (bodyOf Tryd.f20)) (aq [0,0,1,1,1] Nh) ⟨mkE 27 0 [(0,.dat (.list (.list (.int .i64))) a),(1,dI b)],[]⟩ (N64) (fun (t : Unit) => (Exit.normal,⟨mkE 27 0 [(0,.dat (.list (.list (.int .i64))) a),(1,dI b),(5,dI 0)],[]⟩)) := .of fun K h => by
  simp only [N64,wpW] at h
  exact .of (by kernel_rfl) h
theorem Nzp (a : List (List Int)) (b c : Int) : Link N3k LL (cq [0,0,1,0,1,1,1] (bodyOf Tryd.f20)) (aq [0,0,1,0,1,1,1] Nh) ⟨mkE 27 0 [(0,.dat (.list (.list (.int .i64))) a),(1,dI b),(5,dI c)],[]⟩ (N5f a b c) (Sum.elim (fun (t : Int × Int) => (Exit.normal,⟨mkE 27 0 [(0,.dat (.list (.list (.int .i64))) a),(1,dI t.1),(5,dI t.2)],[]⟩)) (Sum.elim (fun (t : Int) => (Exit.ret,⟨mkE 27 0 [(4,dI t)],[]⟩)) (fun (t : Int) => ((Exit.exit 0),⟨mkE 27 0 [(1,dI t)],[]⟩)))) := .of fun K h => by
  simp only [N5f,wpW] at h
  exact .of (by kernel_rfl) h
theorem Nuv (a : Int) : Link N3k LL (cq [1,1,1,1] (bodyOf Tryd.f20)) (aq [1,1,1,1] Nh) ⟨mkE 27 0 [(1,dI a)],[]⟩ (Ndf a) (fun (t : Int) => (Exit.ret,⟨mkE 27 0 [(4,dI t)],[]⟩)) := .of fun K h => by
  simp only [Ndf,wpW] at h
  exact .of (by kernel_rfl) h
theorem Nnt (b : List (List Int)) (d : Int) {r : AV} {H' : Heap} (h : (Ans.mk _ (N23 b d) (fun (t : Int) => (dI t,[])) [] none).run = some (r,H')) : Awp N3k LL (bodyOf Tryd.f20) Nh ⟨mkE 27 0 [(0,.dat (.list (.list (.int .i64))) b),(1,dI d)],[]⟩ (Ret (tlook tys) Tryd.f20.results.toList r H') :=
  ret_of' (Link.cast (by kernel_rfl) (by kernel_rfl) (link_group (c := (cq [0,1,1] (bodyOf Tryd.f20))) (a := (aq [0,1,1] Nh)) [(cq [0] (bodyOf Tryd.f20)),(cq [0,1] (bodyOf Tryd.f20))] [(aq [0] Nh),(aq [0,1] Nh)] rfl (link_seq2 (Nks b d) (fun (t : Int) => (link_seq2 (link_seq (Nlt b t) (fun (t26 : Unit) => (link_block (fin2 := (Sum.elim (fun (t26 : Int) => (Exit.normal,⟨mkE 27 0 [(1,dI t26)],[]⟩)) (fun (t26 : Int) => (Exit.ret,⟨mkE 27 0 [(4,dI t26)],[]⟩)))) (id := 0) (link_loop (mk := fun (s : Int × Int) => ⟨mkE 27 0 [(0,.dat (.list (.list (.int .i64))) b),(1,dI s.1),(5,dI s.2)],[]⟩) (fin := (Sum.elim (fun (t26 : Int) => (Exit.ret,⟨mkE 27 0 [(4,dI t26)],[]⟩)) (fun (t26 : Int) => ((Exit.exit 0),⟨mkE 27 0 [(1,dI t26)],[]⟩)))) (by
  rintro (t26 | t26) f K h
  · exact h
  · exact h) (fun s => link_map (Nzp b s.1 s.2) (Sum.elim (fun (t26 : Int × Int) => Sum.inl (t26.1,t26.2)) (Sum.elim (fun (t26 : Int) => Sum.inr (Sum.inl t26)) (fun (t26 : Int) => Sum.inr (Sum.inr t26)))) (by
  rintro (t26 | t26 | t26)
  · kernel_rfl
  · kernel_rfl
  · kernel_rfl)) (t,0)) (Sum.elim (fun (t26 : Int) => (Sum.inr t26)) (fun (t26 : Int) => (Sum.inl t26))) (by
  rintro (t26 | t26) K h
  · exact Eq.mp (by kernel_rfl) h
  · exact Eq.mp (by kernel_rfl) h)))) (fun (t26 : Int) => (Nuv t26)) (fun (t26 : Int) => t26) (by
  rintro t26
  · kernel_rfl) (by
  rintro t26 f K h
  · exact h))) (fun (t : Int) => t) (by
  rintro t
  · kernel_rfl) (by
  rintro t f K h
  · exact h)))) (by unfold N23; kernel_rfl) (by
  intro t
  exact ret_mk [dI t] (by kernel_rfl) (by kernel_rfl) (by kernel_rfl) (by kernel_rfl)) h
def Ncf : Fun := fun avs H =>
  match avs,H with
  | [.dat (.list (.list (.int .i64))) a,.dat (.int .i64) b],[] => ⟨_,N23 a b,fun (t : Int) => (dI t,[]),[],none⟩
  | _,_ => Ans.no
theorem Nu6 : Sound Tryd.prog 20 Ncf := by
  refine fn_sound' (C := N3k) (c := bodyOf Tryd.f20) (cok_of tys_ok (allc Nhg alln) (allc Tryd.call19 alln) (by kernel_rfl)) Tryd.func20 (by kernel_rfl) LL Nh ?_
  intro avs H r H' h
  unfold Ncf at h
  split at h
  · refine Awp.cast ?_ ?_ ?_ (Nnt _ _ h) <;> kernel_rfl
  · simp [Ans.no,Ans.run] at h

def Nah : Ann := (.seq (.leaf [1,2]) (.seq (.leaf [1,2]) (.seq (.seq (.leaf [1,2,10]) (.cond (.seq (.leaf [4]) (.leaf [4])) (.leaf [1,2]))) (.seq (.leaf [1]) (.seq (.seq (.leaf [1,16]) (.cond (.seq (.leaf [4]) (.leaf [4])) (.leaf [1]))) (.seq (.leaf [4]) (.leaf [4])))))))
noncomputable def Nd0 : Ctx := ⟨tlook tys,olook [(19,N66),(20,Ncf)],ioF,0,false,[]⟩
theorem Nwu (a : List Int) (b : List (List Int)) (c : Int) : Link Nd0 LL (bodyOf Tryd.f5) Nah ⟨mkE 18 0 [(0,.agg [dL a,.dat (.list (.list (.int .i64))) b]),(1,dI c)],[]⟩ (N9g a b c) (fun (t : Int) => (Exit.ret,⟨mkE 18 0 [(4,dI t)],[]⟩)) := .of fun K h => by
  simp only [N9g,wpW] at h
  exact .of (by kernel_rfl) h
theorem Ny8 (a : List Int) (b : List (List Int)) (c : Int) {r : AV} {H' : Heap} (h : (Ans.mk _ (N47 a b c) (fun (t : Int) => (dI t,[])) [] none).run = some (r,H')) : Awp Nd0 LL (bodyOf Tryd.f5) Nah ⟨mkE 18 0 [(0,.agg [dL a,.dat (.list (.list (.int .i64))) b]),(1,dI c)],[]⟩ (Ret (tlook tys) Tryd.f5.results.toList r H') :=
  ret_of' (Nwu a b c) (by unfold N47; kernel_rfl) (by
  intro t
  exact ret_mk [dI t] (by kernel_rfl) (by kernel_rfl) (by kernel_rfl) (by kernel_rfl)) h
def Nbn : Fun := fun avs H =>
  match avs,H with
  | [.agg [.dat (.list (.int .i64)) a,.dat (.list (.list (.int .i64))) b],.dat (.int .i64) c],[] => ⟨_,N47 a b c,fun (t : Int) => (dI t,[]),[],none⟩
  | _,_ => Ans.no
theorem Nq8 : Sound Tryd.prog 5 Nbn := by
  refine fn_sound' (C := Nd0) (c := bodyOf Tryd.f5) (cok_of tys_ok (allc Nhg (allc Nu6 alln)) (allc Tryd.call19 (allc Tryd.call20 alln)) (by kernel_rfl)) Tryd.func5 (by kernel_rfl) LL Nah ?_
  intro avs H r H' h
  unfold Nbn at h
  split at h
  · refine Awp.cast ?_ ?_ ?_ (Ny8 _ _ _ h) <;> kernel_rfl
  · simp [Ans.no,Ans.run] at h

def N1c : Ann := (.seq (.leaf [0]) (.seq (.leaf [0,3]) (.seq (.seq (.leaf [0,3,4]) (.block (.loop (.seq (.seq (.leaf [0,3,4,11]) (.cond (.leaf [0,3,4]) (.leaf [3]))) (.seq (.block (.leaf [0,3,4])) (.leaf [0,3,4])))))) (.seq (.leaf [2]) (.leaf [2])))))
noncomputable def N4i : Ctx := ⟨tlook tys,olook [],ioF,0,false,[]⟩
theorem Ntu (a : List Int) : Link N4i LL (Code.seq (cq [0] (bodyOf Tryd.f25)) (cq [0,1] (bodyOf Tryd.f25))) (Ann.seq (aq [0] N1c) (aq [0,1] N1c)) ⟨mkE 22 0 [(0,dL a)],[]⟩ (N60 a) (fun (t : (List Int)) => (Exit.normal,⟨mkE 22 0 [(0,dL a),(3,.slc 0)],[some (sI t)]⟩)) := .of fun K h => by
  simp only [N60,wpW] at h
  exact .of (by kernel_rfl) h
theorem Nly (a b : List Int) : Link N4i LL (cq [0,0,1,1] (bodyOf Tryd.f25)) (aq [0,0,1,1] N1c) ⟨mkE 22 0 [(0,dL a),(3,.slc 0)],[some (sI b)]⟩ (N7b) (fun (t : Unit) => (Exit.normal,⟨mkE 22 0 [(0,dL a),(3,.slc 0),(4,dI 0)],[some (sI b)]⟩)) := .of fun K h => by
  simp only [N7b,wpW] at h
  exact .of (by kernel_rfl) h
theorem Nq5 (a : List Int) (b : Int) (c : List Int) : Link N4i LL (cq [0,0,1,0,1,1] (bodyOf Tryd.f25)) (aq [0,0,1,0,1,1] N1c) ⟨mkE 22 0 [(0,dL a),(3,.slc 0),(4,dI b)],[some (sI c)]⟩ (N4l a b c) (Sum.elim (fun (t : Int × (List Int)) => (Exit.normal,⟨mkE 22 0 [(0,dL a),(3,.slc 0),(4,dI t.1)],[some (sI t.2)]⟩)) (fun (t : (List Int)) => ((Exit.exit 0),⟨mkE 22 0 [(3,.slc 0)],[some (sI t)]⟩))) := .of fun K h => by
  simp only [N4l,wpW] at h
  exact .of (by kernel_rfl) h
theorem Nqc (a : List Int) : Link N4i LL (cq [1,1,1] (bodyOf Tryd.f25)) (aq [1,1,1] N1c) ⟨mkE 22 0 [(3,.slc 0)],[some (sI a)]⟩ (N8f a) (fun (t : (List Int)) => (Exit.ret,⟨mkE 22 0 [(2,.slc 0)],[some (sI t)]⟩)) := .of fun K h => by
  simp only [N8f,wpW] at h
  exact .of (by kernel_rfl) h
theorem Nzd (b : List Int) {r : AV} {H' : Heap} (h : (Ans.mk _ (N21 b) (fun (t : (List Int)) => (.slc 0,[some (sI t)])) [] none).run = some (r,H')) : Awp N4i LL (bodyOf Tryd.f25) N1c ⟨mkE 22 0 [(0,dL b)],[]⟩ (Ret (tlook tys) Tryd.f25.results.toList r H') :=
  ret_of' (Link.cast (by kernel_rfl) (by kernel_rfl) (link_group (c := (cq [0,1] (bodyOf Tryd.f25))) (a := (aq [0,1] N1c)) [(cq [0] (bodyOf Tryd.f25))] [(aq [0] N1c)] rfl (link_seq (Ntu b) (fun (t : (List Int)) => (link_seq (link_seq (Nly b t) (fun (t27 : Unit) => (link_block (fin2 := (fun (t27 : (List Int)) => (Exit.normal,⟨mkE 22 0 [(3,.slc 0)],[some (sI t27)]⟩))) (id := 0) (link_loop (mk := fun (s : Int × (List Int)) => ⟨mkE 22 0 [(0,dL b),(3,.slc 0),(4,dI s.1)],[some (sI s.2)]⟩) (fin := (fun (t27 : (List Int)) => ((Exit.exit 0),⟨mkE 22 0 [(3,.slc 0)],[some (sI t27)]⟩))) (by
  rintro t27 f K h
  · exact h) (fun s => link_map (Nq5 b s.1 s.2) (Sum.elim (fun (t27 : Int × (List Int)) => Sum.inl (t27.1,t27.2)) (fun (t27 : (List Int)) => Sum.inr t27)) (by
  rintro (t27 | t27)
  · kernel_rfl
  · kernel_rfl)) (0,t)) (fun (t27 : (List Int)) => t27) (by
  rintro t27 K h
  · exact Eq.mp (by kernel_rfl) h)))) (fun (t27 : (List Int)) => (Nqc t27))))))) (by unfold N21; kernel_rfl) (by
  intro t
  exact ret_mk [.slc 0] (by kernel_rfl) (by kernel_rfl) (by kernel_rfl) (by kernel_rfl)) h
def N9a : Fun := fun avs H =>
  match avs,H with
  | [.dat (.list (.int .i64)) a],[] => ⟨_,N21 a,fun (t : (List Int)) => (.slc 0,[some (sI t)]),[],none⟩
  | _,_ => Ans.no
theorem Niv : Sound Tryd.prog 25 N9a := by
  refine fn_sound' (C := N4i) (c := bodyOf Tryd.f25) (cok_of tys_ok (alln) (alln) (by kernel_rfl)) Tryd.func25 (by kernel_rfl) LL N1c ?_
  intro avs H r H' h
  unfold N9a at h
  split at h
  · refine Awp.cast ?_ ?_ ?_ (Nzd _ h) <;> kernel_rfl
  · simp [Ans.no,Ans.run] at h

def N10 : Ann := (.seq (.leaf [0]) (.seq (.leaf [0,3]) (.seq (.seq (.leaf [0,3,4]) (.block (.loop (.seq (.seq (.leaf [0,3,4,11]) (.cond (.leaf [0,3,4]) (.leaf [3]))) (.seq (.block (.leaf [0,3,4])) (.leaf [0,3,4])))))) (.seq (.leaf [2]) (.leaf [2])))))
noncomputable def N4j : Ctx := ⟨tlook tys,olook [(25,N9a)],ioF,0,true,[]⟩
theorem Nmd (a : List (List Int)) : Link N4j LL (Code.seq (cq [0] (bodyOf Tryd.f26)) (cq [0,1] (bodyOf Tryd.f26))) (Ann.seq (aq [0] N10) (aq [0,1] N10)) ⟨mkE 23 0 [(0,.dat (.list (.list (.int .i64))) a)],[]⟩ (N6k a) (fun (t : (List (List Int))) => (Exit.normal,⟨mkE 23 0 [(0,.dat (.list (.list (.int .i64))) a),(3,.slc 0)],[some (.nest (.int .i64) t 0 [])]⟩)) := .of fun K h => by
  simp only [N6k,wpW] at h
  exact .of (by kernel_rfl) h
theorem Nr5 (a b : List (List Int)) : Link N4j LL (cq [0,0,1,1] (bodyOf Tryd.f26)) (aq [0,0,1,1] N10) ⟨mkE 23 0 [(0,.dat (.list (.list (.int .i64))) a),(3,.slc 0)],[some (.nest (.int .i64) b 0 [])]⟩ (Na4) (fun (t : Unit) => (Exit.normal,⟨mkE 23 0 [(0,.dat (.list (.list (.int .i64))) a),(3,.slc 0),(4,dI 0)],[some (.nest (.int .i64) b 0 [])]⟩)) := .of fun K h => by
  simp only [Na4,wpW] at h
  exact .of (by kernel_rfl) h
theorem Nm6 (a : List (List Int)) (b : Int) (c : List (List Int)) : Link N4j LL (cq [0,0,1,0,1,1] (bodyOf Tryd.f26)) (aq [0,0,1,0,1,1] N10) ⟨mkE 23 0 [(0,.dat (.list (.list (.int .i64))) a),(3,.slc 0),(4,dI b)],[some (.nest (.int .i64) c 0 [])]⟩ (N3i a b c) (Sum.elim (fun (t : Int × (List (List Int))) => (Exit.normal,⟨mkE 23 0 [(0,.dat (.list (.list (.int .i64))) a),(3,.slc 0),(4,dI t.1)],[some (.nest (.int .i64) t.2 0 [])]⟩)) (fun (t : (List (List Int))) => ((Exit.exit 0),⟨mkE 23 0 [(3,.slc 0)],[some (.nest (.int .i64) t 0 [])]⟩))) := .of fun K h => by
  simp only [N3i,wpW] at h
  exact .of (by kernel_rfl) h
theorem Nkp (a : List (List Int)) : Link N4j LL (cq [1,1,1] (bodyOf Tryd.f26)) (aq [1,1,1] N10) ⟨mkE 23 0 [(3,.slc 0)],[some (.nest (.int .i64) a 0 [])]⟩ (N65 a) (fun (t : (List (List Int))) => (Exit.ret,⟨mkE 23 0 [(2,.slc 0)],[some (.nest (.int .i64) t 0 [])]⟩)) := .of fun K h => by
  simp only [N65,wpW] at h
  exact .of (by kernel_rfl) h
theorem Nv0 (b : List (List Int)) {r : AV} {H' : Heap} (h : (Ans.mk _ (N2w b) (fun (t : (List (List Int))) => (.slc 0,[some (.nest (.int .i64) t 0 [])])) [] none).run = some (r,H')) : Awp N4j LL (bodyOf Tryd.f26) N10 ⟨mkE 23 0 [(0,.dat (.list (.list (.int .i64))) b)],[]⟩ (Ret (tlook tys) Tryd.f26.results.toList r H') :=
  ret_of' (Link.cast (by kernel_rfl) (by kernel_rfl) (link_group (c := (cq [0,1] (bodyOf Tryd.f26))) (a := (aq [0,1] N10)) [(cq [0] (bodyOf Tryd.f26))] [(aq [0] N10)] rfl (link_seq (Nmd b) (fun (t : (List (List Int))) => (link_seq (link_seq (Nr5 b t) (fun (t28 : Unit) => (link_block (fin2 := (fun (t28 : (List (List Int))) => (Exit.normal,⟨mkE 23 0 [(3,.slc 0)],[some (.nest (.int .i64) t28 0 [])]⟩))) (id := 0) (link_loop (mk := fun (s : Int × (List (List Int))) => ⟨mkE 23 0 [(0,.dat (.list (.list (.int .i64))) b),(3,.slc 0),(4,dI s.1)],[some (.nest (.int .i64) s.2 0 [])]⟩) (fin := (fun (t28 : (List (List Int))) => ((Exit.exit 0),⟨mkE 23 0 [(3,.slc 0)],[some (.nest (.int .i64) t28 0 [])]⟩))) (by
  rintro t28 f K h
  · exact h) (fun s => link_map (Nm6 b s.1 s.2) (Sum.elim (fun (t28 : Int × (List (List Int))) => Sum.inl (t28.1,t28.2)) (fun (t28 : (List (List Int))) => Sum.inr t28)) (by
  rintro (t28 | t28)
  · kernel_rfl
  · kernel_rfl)) (0,t)) (fun (t28 : (List (List Int))) => t28) (by
  rintro t28 K h
  · exact Eq.mp (by kernel_rfl) h)))) (fun (t28 : (List (List Int))) => (Nkp t28))))))) (by unfold N2w; kernel_rfl) (by
  intro t
  exact ret_mk [.slc 0] (by kernel_rfl) (by kernel_rfl) (by kernel_rfl) (by kernel_rfl)) h
def Nf1 : Fun := fun avs H =>
  match avs,H with
  | [.dat (.list (.list (.int .i64))) a],[] => ⟨_,N2w a,fun (t : (List (List Int))) => (.slc 0,[some (.nest (.int .i64) t 0 [])]),[],none⟩
  | _,_ => Ans.no
theorem N10f : Sound Tryd.prog 26 Nf1 := by
  refine fn_sound' (C := N4j) (c := bodyOf Tryd.f26) (cok_of tys_ok (allc Niv alln) (allc Tryd.call25 alln) (by kernel_rfl)) Tryd.func26 (by kernel_rfl) LL N10 ?_
  intro avs H r H' h
  unfold Nf1 at h
  split at h
  · refine Awp.cast ?_ ?_ ?_ (Nv0 _ h) <;> kernel_rfl
  · simp [Ans.no,Ans.run] at h

def Nb0 : Ann := (.seq (.leaf [1,2]) (.seq (.leaf [1,2,3]) (.seq (.leaf [1,2,3]) (.seq (.leaf [2,3]) (.seq (.leaf [2]) (.leaf [2]))))))
noncomputable def Nad : Ctx := ⟨tlook tys,olook [(25,N9a),(26,Nf1)],ioF,0,true,[]⟩
theorem Nso (a : List Int) (b : List (List Int)) : Link Nad LL (bodyOf Tryd.f7) Nb0 ⟨mkE 13 0 [(0,.agg [dL a,.dat (.list (.list (.int .i64))) b])],[]⟩ (N9x a b) (fun (t : (List Int) × (List (List Int))) => (Exit.ret,⟨mkE 13 0 [(2,.ptr 0 0)],[some (.box [.slc 1,.slc 2]),some (sI t.1),some (.nest (.int .i64) t.2 0 [])]⟩)) := .of fun K h => by
  simp only [N9x,wpW] at h
  exact .of (by kernel_rfl) h
theorem Nlj (a : List Int) (b : List (List Int)) {r : AV} {H' : Heap} (h : (Ans.mk _ (N16 a b) (fun (t : (List Int) × (List (List Int))) => (.agg [.slc 1,.slc 2],[some (.box [.slc 1,.slc 2]),some (sI t.1),some (.nest (.int .i64) t.2 0 [])])) [] none).run = some (r,H')) : Awp Nad LL (bodyOf Tryd.f7) Nb0 ⟨mkE 13 0 [(0,.agg [dL a,.dat (.list (.list (.int .i64))) b])],[]⟩ (Ret (tlook tys) Tryd.f7.results.toList r H') :=
  ret_of' (Nso a b) (by unfold N16; kernel_rfl) (by
  intro t
  exact ret_mk [.agg [.slc 1,.slc 2]] (by kernel_rfl) (by kernel_rfl) (by kernel_rfl) (by kernel_rfl)) h
def Nam : Fun := fun avs H =>
  match avs,H with
  | [.agg [.dat (.list (.int .i64)) a,.dat (.list (.list (.int .i64))) b]],[] => ⟨_,N16 a b,fun (t : (List Int) × (List (List Int))) => (.agg [.slc 1,.slc 2],[some (.box [.slc 1,.slc 2]),some (sI t.1),some (.nest (.int .i64) t.2 0 [])]),[],none⟩
  | _,_ => Ans.no
theorem Nvf : Sound Tryd.prog 7 Nam := by
  refine fn_sound' (C := Nad) (c := bodyOf Tryd.f7) (cok_of tys_ok (allc Niv (allc N10f alln)) (allc Tryd.call25 (allc Tryd.call26 alln)) (by kernel_rfl)) Tryd.func7 (by kernel_rfl) LL Nb0 ?_
  intro avs H r H' h
  unfold Nam at h
  split at h
  · refine Awp.cast ?_ ?_ ?_ (Nlj _ _ h) <;> kernel_rfl
  · simp [Ans.no,Ans.run] at h

def Nf2 : Ann := (.seq (.leaf [1,2]) (.seq (.leaf [1,2,3]) (.seq (.leaf [1,2,3]) (.seq (.leaf [1,2,3]) (.seq (.leaf [2,3]) (.seq (.leaf [2]) (.leaf [2])))))))
noncomputable def Ne8 : Ctx := ⟨tlook tys,olook [],ioF,0,false,[]⟩
theorem Nur (a b c : Int) : Link Ne8 LL (bodyOf Tryd.f8) Nf2 ⟨mkE 14 0 [(0,.agg [dI a,dI b,dI c])],[]⟩ (Na3) (fun (t : Unit) => (Exit.ret,⟨mkE 14 0 [(2,.ptr 0 0)],[some (.box [dI a,dI b,dI c])]⟩)) := .of fun K h => by
  simp only [Na3,wpW] at h
  exact .of (by kernel_rfl) h
theorem Nlw (a b c : Int) {r : AV} {H' : Heap} (h : (Ans.mk _ (N31 a b c) (fun (t : Unit) => (.agg [dI a,dI b,dI c],[some (.box [dI a,dI b,dI c])])) [] none).run = some (r,H')) : Awp Ne8 LL (bodyOf Tryd.f8) Nf2 ⟨mkE 14 0 [(0,.agg [dI a,dI b,dI c])],[]⟩ (Ret (tlook tys) Tryd.f8.results.toList r H') :=
  ret_of' (Nur a b c) (by unfold N31; kernel_rfl) (by
  intro t
  exact ret_mk [.agg [dI a,dI b,dI c]] (by kernel_rfl) (by kernel_rfl) (by kernel_rfl) (by kernel_rfl)) h
def Ndp : Fun := fun avs H =>
  match avs,H with
  | [.agg [.dat (.int .i64) a,.dat (.int .i64) b,.dat (.int .i64) c]],[] => ⟨_,N31 a b c,fun (t : Unit) => (.agg [dI a,dI b,dI c],[some (.box [dI a,dI b,dI c])]),[],none⟩
  | _,_ => Ans.no
theorem Nnf : Sound Tryd.prog 8 Ndp := by
  refine fn_sound' (C := Ne8) (c := bodyOf Tryd.f8) (cok_of tys_ok (alln) (alln) (by kernel_rfl)) Tryd.func8 (by kernel_rfl) LL Nf2 ?_
  intro avs H r H' h
  unfold Ndp at h
  split at h
  · refine Awp.cast ?_ ?_ ?_ (Nlw _ _ _ h) <;> kernel_rfl
  · simp [Ans.no,Ans.run] at h

def Nby : Ann := (.seq (.leaf [0,1,2]) (.seq (.leaf [6]) (.leaf [6])))
noncomputable def Ne6 : Ctx := ⟨tlook tys,olook [],ioF,0,false,[]⟩
theorem Nnp (a b c : Int) : Link Ne6 LL (bodyOf Tryd.f39) Nby ⟨mkE 15 0 [(0,dI a),(1,dI b),(2,dI c)],[]⟩ (N7t a b c) (fun (t : Bool) => (Exit.ret,⟨mkE 15 0 [(6,dB t)],[]⟩)) := .of fun K h => by
  simp only [N7t,wpW] at h
  exact .of (by kernel_rfl) h
theorem Nuo (a b c : Int) {r : AV} {H' : Heap} (h : (Ans.mk _ (Ni a b c) (fun (t : Bool) => (dB t,[])) [] none).run = some (r,H')) : Awp Ne6 LL (bodyOf Tryd.f39) Nby ⟨mkE 15 0 [(0,dI a),(1,dI b),(2,dI c)],[]⟩ (Ret (tlook tys) Tryd.f39.results.toList r H') :=
  ret_of' (Nnp a b c) (by unfold Ni; kernel_rfl) (by
  intro t
  exact ret_mk [dB t] (by kernel_rfl) (by kernel_rfl) (by kernel_rfl) (by kernel_rfl)) h
def N53 : Fun := fun avs H =>
  match avs,H with
  | [.dat (.int .i64) a,.dat (.int .i64) b,.dat (.int .i64) c],[] => ⟨_,Ni a b c,fun (t : Bool) => (dB t,[]),[],none⟩
  | _,_ => Ans.no
theorem Nbh : Sound Tryd.prog 39 N53 := by
  refine fn_sound' (C := Ne6) (c := bodyOf Tryd.f39) (cok_of tys_ok (alln) (alln) (by kernel_rfl)) Tryd.func39 (by kernel_rfl) LL Nby ?_
  intro avs H r H' h
  unfold N53 at h
  split at h
  · refine Awp.cast ?_ ?_ ?_ (Nuo _ _ _ h) <;> kernel_rfl
  · simp [Ans.no,Ans.run] at h

def N1 : Ann := (.seq (.leaf [0]) (.seq (.leaf [0,3]) (.seq (.seq (.leaf [0,3,12]) (.cond (.seq (.leaf [2]) (.leaf [2])) (.leaf [0,3]))) (.seq (.leaf [0,3,4]) (.seq (.seq (.leaf [0,3,4,5]) (.block (.loop (.seq (.seq (.leaf [0,3,4,5,15]) (.cond (.leaf [0,3,4,5]) (.leaf [4]))) (.seq (.block (.seq (.seq (.leaf [0,3,4,5,33]) (.cond (.seq (.leaf [2]) (.leaf [2])) (.leaf [0,3,4,5]))) (.seq (.seq (.leaf [0,3,4,5,38]) (.cond (.leaf [0,3,4,5]) (.leaf [0,3,4,5]))) (.seq (.leaf [0,3,4,5,6]) (.seq (.seq (.leaf [0,3,4,5,6,7]) (.block (.loop (.seq (.seq (.leaf [0,3,4,5,6,7,49]) (.cond (.leaf [0,3,4,5,6,7]) (.leaf [0,3,4,5,6]))) (.seq (.block (.seq (.leaf [0,3,4,5,6,7]) (.seq (.leaf [0,3,4,5,6,7,60]) (.cond (.seq (.leaf [2]) (.leaf [2])) (.leaf [0,3,4,5,6,7]))))) (.leaf [0,3,4,5,6,7])))))) (.seq (.leaf [0,3,4,5,62]) (.cond (.seq (.leaf [2]) (.leaf [2])) (.leaf [0,3,4,5])))))))) (.leaf [0,3,4,5])))))) (.seq (.leaf [2]) (.leaf [2])))))))
noncomputable def Ng : Ctx := ⟨tlook tys,olook [(39,N53)],ioF,0,false,[]⟩
theorem Ny4 (a : List Int) : Link Ng LL (Code.seq (cq [0] (bodyOf Tryd.f24)) (Code.seq (cq [0,1] (bodyOf Tryd.f24)) (Code.seq (cq [0,1,1] (bodyOf Tryd.f24)) (cq [0,1,1,1] (bodyOf Tryd.f24))))) (Ann.seq (aq [0] N1) (Ann.seq (aq [0,1] N1) (Ann.seq (aq [0,1,1] N1) (aq [0,1,1,1] N1)))) ⟨mkE 65 0 [(0,dL a)],[]⟩ (N9o a) (Sum.elim (fun (t : Int) => (Exit.normal,⟨mkE 65 0 [(0,dL a),(3,dI t),(4,dI 0)],[]⟩)) (fun (t : Bool) => (Exit.ret,⟨mkE 65 0 [(2,dB t)],[]⟩))) := .of fun K h => by
  simp only [N9o,wpW] at h
  exact .of (by kernel_rfl) h
theorem Num (a : List Int) (b : Int) : Link Ng LL (cq [0,0,1,1,1,1] (bodyOf Tryd.f24)) (aq [0,0,1,1,1,1] N1) ⟨mkE 65 0 [(0,dL a),(3,dI b),(4,dI 0)],[]⟩ (N73) (fun (t : Unit) => (Exit.normal,⟨mkE 65 0 [(0,dL a),(3,dI b),(4,dI 0),(5,dI 0)],[]⟩)) := .of fun K h => by
  simp only [N73,wpW] at h
  exact .of (by kernel_rfl) h
theorem Nzx (a : List Int) (b c d : Int) : Link Ng LL (cq [0,0,0,1,0,1,1,1,1] (bodyOf Tryd.f24)) (aq [0,0,0,1,0,1,1,1,1] N1) ⟨mkE 65 0 [(0,dL a),(3,dI b),(4,dI c),(5,dI d)],[]⟩ (N5v b c d) (Sum.elim (fun (t : Unit) => (Exit.normal,⟨mkE 65 0 [(0,dL a),(3,dI b),(4,dI c),(5,dI d)],[]⟩)) (fun (t : Int) => ((Exit.exit 0),⟨mkE 65 0 [(4,dI t)],[]⟩))) := .of fun K h => by
  simp only [N5v,wpW] at h
  exact .of (by kernel_rfl) h
theorem Nu9 (a : List Int) (b c d : Int) : Link Ng LL (Code.seq (cq [0,0,0,1,0,0,1,0,1,1,1,1] (bodyOf Tryd.f24)) (Code.seq (cq [0,1,0,0,1,0,0,1,0,1,1,1,1] (bodyOf Tryd.f24)) (cq [0,1,1,0,0,1,0,0,1,0,1,1,1,1] (bodyOf Tryd.f24)))) (Ann.seq (aq [0,0,0,1,0,0,1,0,1,1,1,1] N1) (Ann.seq (aq [0,1,0,0,1,0,0,1,0,1,1,1,1] N1) (aq [0,1,1,0,0,1,0,0,1,0,1,1,1,1] N1))) ⟨mkE 65 0 [(0,dL a),(3,dI b),(4,dI c),(5,dI d)],[]⟩ (N78 a b c d) (Sum.elim (fun (t : Int × Int) => (Exit.normal,⟨mkE 65 0 [(0,dL a),(3,dI b),(4,dI t.1),(5,dI d),(6,dI t.2)],[]⟩)) (fun (t : Bool) => (Exit.ret,⟨mkE 65 0 [(2,dB t)],[]⟩))) := .of fun K h => by
  simp only [N78,wpW] at h
  exact .of (by kernel_rfl) h
theorem Np0 (a : List Int) (b c d g : Int) : Link Ng LL (cq [0,0,1,1,1,0,0,1,0,0,1,0,1,1,1,1] (bodyOf Tryd.f24)) (aq [0,0,1,1,1,0,0,1,0,0,1,0,1,1,1,1] N1) ⟨mkE 65 0 [(0,dL a),(3,dI b),(4,dI c),(5,dI d),(6,dI g)],[]⟩ (N99) (fun (t : Unit) => (Exit.normal,⟨mkE 65 0 [(0,dL a),(3,dI b),(4,dI c),(5,dI d),(6,dI g),(7,dI 0)],[]⟩)) := .of fun K h => by
  simp only [N99,wpW] at h
  exact .of (by kernel_rfl) h
theorem Nvp (a : List Int) (b c d g i : Int) : Link Ng LL (cq [0,0,1,0,1,1,1,0,0,1,0,0,1,0,1,1,1,1] (bodyOf Tryd.f24)) (aq [0,0,1,0,1,1,1,0,0,1,0,0,1,0,1,1,1,1] N1) ⟨mkE 65 0 [(0,dL a),(3,dI b),(4,dI c),(5,dI d),(6,dI g),(7,dI i)],[]⟩ (N5o a b g i) (Sum.elim (fun (t : Int × Int) => (Exit.normal,⟨mkE 65 0 [(0,dL a),(3,dI b),(4,dI c),(5,dI d),(6,dI t.1),(7,dI t.2)],[]⟩)) (Sum.elim (fun (t : Bool) => (Exit.ret,⟨mkE 65 0 [(2,dB t)],[]⟩)) (fun (t : Int) => ((Exit.exit 2),⟨mkE 65 0 [(0,dL a),(3,dI b),(4,dI c),(5,dI d),(6,dI t)],[]⟩)))) := .of fun K h => by
  simp only [N5o,wpW] at h
  exact .of (by kernel_rfl) h
theorem Nwh (a : List Int) (b c d g : Int) : Link Ng LL (cq [1,1,1,1,0,0,1,0,0,1,0,1,1,1,1] (bodyOf Tryd.f24)) (aq [1,1,1,1,0,0,1,0,0,1,0,1,1,1,1] N1) ⟨mkE 65 0 [(0,dL a),(3,dI b),(4,dI c),(5,dI d),(6,dI g)],[]⟩ (N9p g) (Sum.elim (fun (t : Unit) => (Exit.normal,⟨mkE 65 0 [(0,dL a),(3,dI b),(4,dI c),(5,dI d)],[]⟩)) (fun (t : Bool) => (Exit.ret,⟨mkE 65 0 [(2,dB t)],[]⟩))) := .of fun K h => by
  simp only [N9p,wpW] at h
  exact .of (by kernel_rfl) h
theorem Nnj (a : List Int) (b c d : Int) : Link Ng LL (cq [1,1,0,0,1,0,1,1,1,1] (bodyOf Tryd.f24)) (aq [1,1,0,0,1,0,1,1,1,1] N1) ⟨mkE 65 0 [(0,dL a),(3,dI b),(4,dI c),(5,dI d)],[]⟩ (N7d d) (fun (t : Int) => (Exit.normal,⟨mkE 65 0 [(0,dL a),(3,dI b),(4,dI c),(5,dI t)],[]⟩)) := .of fun K h => by
  simp only [N7d,wpW] at h
  exact .of (by kernel_rfl) h
theorem Nzu (a : Int) : Link Ng LL (cq [1,1,1,1,1] (bodyOf Tryd.f24)) (aq [1,1,1,1,1] N1) ⟨mkE 65 0 [(4,dI a)],[]⟩ (N9z a) (fun (t : Bool) => (Exit.ret,⟨mkE 65 0 [(2,dB t)],[]⟩)) := .of fun K h => by
  simp only [N9z,wpW] at h
  exact .of (by kernel_rfl) h
theorem Nx2 (b : List Int) {r : AV} {H' : Heap} (h : (Ans.mk _ (N8 b) (fun (t : Bool) => (dB t,[])) [] none).run = some (r,H')) : Awp Ng LL (bodyOf Tryd.f24) N1 ⟨mkE 65 0 [(0,dL b)],[]⟩ (Ret (tlook tys) Tryd.f24.results.toList r H') :=
  ret_of' (Link.cast (by kernel_rfl) (by kernel_rfl) (link_group (c := (cq [0,1,1,1] (bodyOf Tryd.f24))) (a := (aq [0,1,1,1] N1)) [(cq [0] (bodyOf Tryd.f24)),(cq [0,1] (bodyOf Tryd.f24)),(cq [0,1,1] (bodyOf Tryd.f24))] [(aq [0] N1),(aq [0,1] N1),(aq [0,1,1] N1)] rfl (link_seq2 (Ny4 b) (fun (t : Int) => (link_seq2 (link_seq (Num b t) (fun (t30 : Unit) => (link_block (fin2 := (Sum.elim (fun (t30 : Int) => (Exit.normal,⟨mkE 65 0 [(4,dI t30)],[]⟩)) (fun (t30 : Bool) => (Exit.ret,⟨mkE 65 0 [(2,dB t30)],[]⟩)))) (id := 0) (link_loop (mk := fun (s : Int × Int) => ⟨mkE 65 0 [(0,dL b),(3,dI t),(4,dI s.1),(5,dI s.2)],[]⟩) (fin := (Sum.elim (fun (t30 : Bool) => (Exit.ret,⟨mkE 65 0 [(2,dB t30)],[]⟩)) (fun (t30 : Int) => ((Exit.exit 0),⟨mkE 65 0 [(4,dI t30)],[]⟩)))) (by
  rintro (t30 | t30) f K h
  · exact h
  · exact h) (fun s => link_map (link_seq2 (Nzx b t s.1 s.2) (fun (t43 : Unit) => (link_map (fin2 := (Sum.elim (fun (t43 : Int × Int) => (Exit.normal,⟨mkE 65 0 [(0,dL b),(3,dI t),(4,dI t43.1),(5,dI t43.2)],[]⟩)) (Sum.elim (fun (t43 : Bool) => (Exit.ret,⟨mkE 65 0 [(2,dB t43)],[]⟩)) (fun (t43 : Int) => ((Exit.exit 0),⟨mkE 65 0 [(4,dI t43)],[]⟩))))) (link_seq2 (link_block (fin2 := (Sum.elim (fun (t43 : Int) => (Exit.normal,⟨mkE 65 0 [(0,dL b),(3,dI t),(4,dI t43),(5,dI s.2)],[]⟩)) (fun (t43 : Bool) => (Exit.ret,⟨mkE 65 0 [(2,dB t43)],[]⟩)))) (id := 1) (link_group (c := (cq [0,1,1,0,0,1,0,0,1,0,1,1,1,1] (bodyOf Tryd.f24))) (a := (aq [0,1,1,0,0,1,0,0,1,0,1,1,1,1] N1)) [(cq [0,0,0,1,0,0,1,0,1,1,1,1] (bodyOf Tryd.f24)),(cq [0,1,0,0,1,0,0,1,0,1,1,1,1] (bodyOf Tryd.f24))] [(aq [0,0,0,1,0,0,1,0,1,1,1,1] N1),(aq [0,1,0,0,1,0,0,1,0,1,1,1,1] N1)] rfl (link_seq2 (Nu9 b t s.1 s.2) (fun (t43 : Int × Int) => (link_map (fin2 := (Sum.elim (fun (t43 : Int) => (Exit.normal,⟨mkE 65 0 [(0,dL b),(3,dI t),(4,dI t43),(5,dI s.2)],[]⟩)) (fun (t43 : Bool) => (Exit.ret,⟨mkE 65 0 [(2,dB t43)],[]⟩)))) (link_seq2 (link_seq (Np0 b t t43.1 s.2 t43.2) (fun (t29 : Unit) => (link_block (fin2 := (Sum.elim (fun (t29 : Int) => (Exit.normal,⟨mkE 65 0 [(0,dL b),(3,dI t),(4,dI t43.1),(5,dI s.2),(6,dI t29)],[]⟩)) (fun (t29 : Bool) => (Exit.ret,⟨mkE 65 0 [(2,dB t29)],[]⟩)))) (id := 2) (link_loop (mk := fun (s42 : Int × Int) => ⟨mkE 65 0 [(0,dL b),(3,dI t),(4,dI t43.1),(5,dI s.2),(6,dI s42.1),(7,dI s42.2)],[]⟩) (fin := (Sum.elim (fun (t29 : Bool) => (Exit.ret,⟨mkE 65 0 [(2,dB t29)],[]⟩)) (fun (t29 : Int) => ((Exit.exit 2),⟨mkE 65 0 [(0,dL b),(3,dI t),(4,dI t43.1),(5,dI s.2),(6,dI t29)],[]⟩)))) (by
  rintro (t29 | t29) f K h
  · exact h
  · exact h) (fun s42 => link_map (Nvp b t t43.1 s.2 s42.1 s42.2) (Sum.elim (fun (t29 : Int × Int) => Sum.inl (t29.1,t29.2)) (Sum.elim (fun (t29 : Bool) => Sum.inr (Sum.inl t29)) (fun (t29 : Int) => Sum.inr (Sum.inr t29)))) (by
  rintro (t29 | t29 | t29)
  · kernel_rfl
  · kernel_rfl
  · kernel_rfl)) (t43.2,0)) (Sum.elim (fun (t29 : Bool) => (Sum.inr t29)) (fun (t29 : Int) => (Sum.inl t29))) (by
  rintro (t29 | t29) K h
  · exact Eq.mp (by kernel_rfl) h
  · exact Eq.mp (by kernel_rfl) h)))) (fun (t29 : Int) => (Nwh b t t43.1 s.2 t29)) (fun (t29 : Bool) => (Sum.inr t29)) (by
  rintro t29
  · kernel_rfl) (by
  rintro t29 f K h
  · exact h)) (Sum.elim (fun (u : Unit) => (Sum.inl t43.1)) (fun (u : Bool) => (Sum.inr u))) (by
  rintro (t43 | t43)
  · kernel_rfl
  · kernel_rfl))) (fun (t43 : Bool) => (Sum.inr t43)) (by
  rintro t43
  · kernel_rfl) (by
  rintro t43 f K h
  · exact h))) (Sum.elim (fun (t43 : Int) => (Sum.inl t43)) (fun (t43 : Bool) => (Sum.inr t43))) (by
  rintro (t43 | t43) K h
  · exact Eq.mp (by kernel_rfl) h
  · exact Eq.mp (by kernel_rfl) h)) (fun (t43 : Int) => (link_map (fin2 := (Sum.elim (fun (t43 : Int × Int) => (Exit.normal,⟨mkE 65 0 [(0,dL b),(3,dI t),(4,dI t43.1),(5,dI t43.2)],[]⟩)) (fun (t43 : Bool) => (Exit.ret,⟨mkE 65 0 [(2,dB t43)],[]⟩)))) (Nnj b t t43 s.2) (fun (u : Int) => (Sum.inl (t43,u))) (by
  rintro t43
  · kernel_rfl))) (fun (t43 : Bool) => (Sum.inr t43)) (by
  rintro t43
  · kernel_rfl) (by
  rintro t43 f K h
  · exact h)) (Sum.elim (fun (t43 : Int × Int) => (Sum.inl (t43.1,t43.2))) (fun (t43 : Bool) => (Sum.inr (Sum.inl t43)))) (by
  rintro (t43 | t43)
  · kernel_rfl
  · kernel_rfl))) (fun (t43 : Int) => (Sum.inr (Sum.inr t43))) (by
  rintro t43
  · kernel_rfl) (by
  rintro t43 f K h
  · exact h)) (Sum.elim (fun (t30 : Int × Int) => Sum.inl (t30.1,t30.2)) (Sum.elim (fun (t30 : Bool) => Sum.inr (Sum.inl t30)) (fun (t30 : Int) => Sum.inr (Sum.inr t30)))) (by
  rintro (t30 | t30 | t30)
  · kernel_rfl
  · kernel_rfl
  · kernel_rfl)) (0,0)) (Sum.elim (fun (t30 : Bool) => (Sum.inr t30)) (fun (t30 : Int) => (Sum.inl t30))) (by
  rintro (t30 | t30) K h
  · exact Eq.mp (by kernel_rfl) h
  · exact Eq.mp (by kernel_rfl) h)))) (fun (t30 : Int) => (Nzu t30)) (fun (t30 : Bool) => t30) (by
  rintro t30
  · kernel_rfl) (by
  rintro t30 f K h
  · exact h))) (fun (t : Bool) => t) (by
  rintro t
  · kernel_rfl) (by
  rintro t f K h
  · exact h)))) (by unfold N8; kernel_rfl) (by
  intro t
  exact ret_mk [dB t] (by kernel_rfl) (by kernel_rfl) (by kernel_rfl) (by kernel_rfl)) h
def N1n : Fun := fun avs H =>
  match avs,H with
  | [.dat (.list (.int .i64)) a],[] => ⟨_,N8 a,fun (t : Bool) => (dB t,[]),[],none⟩
  | _,_ => Ans.no
theorem N48 : Sound Tryd.prog 24 N1n := by
  refine fn_sound' (C := Ng) (c := bodyOf Tryd.f24) (cok_of tys_ok (allc Nbh alln) (allc Tryd.call39 alln) (by kernel_rfl)) Tryd.func24 (by kernel_rfl) LL N1 ?_
  intro avs H r H' h
  unfold N1n at h
  split at h
  · refine Awp.cast ?_ ?_ ?_ (Nx2 _ h) <;> kernel_rfl
  · simp [Ans.no,Ans.run] at h

def N44 : Ann := (.seq (.leaf [1]) (.seq (.seq (.leaf [1,3]) (.block (.loop (.seq (.seq (.leaf [1,3,8]) (.cond (.leaf [1,3]) (.leaf [1]))) (.seq (.block (.seq (.leaf [1,3,17]) (.cond (.seq (.leaf [2]) (.leaf [2])) (.leaf [1,3])))) (.leaf [1,3])))))) (.seq (.leaf [2]) (.leaf [2]))))
noncomputable def N40 : Ctx := ⟨tlook tys,olook [(24,N1n)],ioF,0,false,[]⟩
theorem Nr4 (a : List Int) (b : List (List Int)) : Link N40 LL (cq [0] (bodyOf Tryd.f21)) (aq [0] N44) ⟨mkE 27 0 [(0,.agg [dL a,.dat (.list (.list (.int .i64))) b])],[]⟩ (N7a) (fun (t : Unit) => (Exit.normal,⟨mkE 27 0 [(1,.ptr 0 0)],[some (.box [dL a,.dat (.list (.list (.int .i64))) b])]⟩)) := .of fun K h => by
  simp only [N7a,wpW] at h
  exact .of (by kernel_rfl) h
theorem Nmc (a : List Int) (b : List (List Int)) : Link N40 LL (cq [0,0,1] (bodyOf Tryd.f21)) (aq [0,0,1] N44) ⟨mkE 27 0 [(1,.ptr 0 0)],[some (.box [dL a,.dat (.list (.list (.int .i64))) b])]⟩ (N84) (fun (t : Unit) => (Exit.normal,⟨mkE 27 0 [(1,.ptr 0 0),(3,dI 0)],[some (.box [dL a,.dat (.list (.list (.int .i64))) b])]⟩)) := .of fun K h => by
  simp only [N84,wpW] at h
  exact .of (by kernel_rfl) h
theorem Nri (a : Int) (b : List Int) (c : List (List Int)) : Link N40 LL (cq [0,0,1,0,1] (bodyOf Tryd.f21)) (aq [0,0,1,0,1] N44) ⟨mkE 27 0 [(1,.ptr 0 0),(3,dI a)],[some (.box [dL b,.dat (.list (.list (.int .i64))) c])]⟩ (N20 a c) (Sum.elim (fun (t : Int) => (Exit.normal,⟨mkE 27 0 [(1,.ptr 0 0),(3,dI t)],[some (.box [dL b,.dat (.list (.list (.int .i64))) c])]⟩)) (Sum.elim (fun (t : Bool) => (Exit.ret,⟨mkE 27 0 [(2,dB t)],[]⟩)) (fun (t : Unit) => ((Exit.exit 0),⟨mkE 27 0 [(1,.ptr 0 0)],[some (.box [dL b,.dat (.list (.list (.int .i64))) c])]⟩)))) := .of fun K h => by
  simp only [N20,wpW] at h
  exact .of (by kernel_rfl) h
theorem N100 (a : List Int) (b : List (List Int)) : Link N40 LL (cq [1,1] (bodyOf Tryd.f21)) (aq [1,1] N44) ⟨mkE 27 0 [(1,.ptr 0 0)],[some (.box [dL a,.dat (.list (.list (.int .i64))) b])]⟩ (N5z a b) (fun (t : Bool) => (Exit.ret,⟨mkE 27 0 [(2,dB t)],[]⟩)) := .of fun K h => by
  simp only [N5z,wpW] at h
  exact .of (by kernel_rfl) h
theorem No6 (a : List Int) (b : List (List Int)) {r : AV} {H' : Heap} (h : (Ans.mk _ (N1s a b) (fun (t : Bool) => (dB t,[])) [] none).run = some (r,H')) : Awp N40 LL (bodyOf Tryd.f21) N44 ⟨mkE 27 0 [(0,.agg [dL a,.dat (.list (.list (.int .i64))) b])],[]⟩ (Ret (tlook tys) Tryd.f21.results.toList r H') :=
  ret_of' (Link.cast (by kernel_rfl) (by kernel_rfl) (link_seq (Nr4 a b) (fun (t : Unit) => (link_seq2 (link_seq (Nmc a b) (fun (t : Unit) => (link_block (fin2 := (Sum.elim (fun (t : Unit) => (Exit.normal,⟨mkE 27 0 [(1,.ptr 0 0)],[some (.box [dL a,.dat (.list (.list (.int .i64))) b])]⟩)) (fun (t : Bool) => (Exit.ret,⟨mkE 27 0 [(2,dB t)],[]⟩)))) (id := 0) (link_loop (mk := fun (s : Int) => ⟨mkE 27 0 [(1,.ptr 0 0),(3,dI s)],[some (.box [dL a,.dat (.list (.list (.int .i64))) b])]⟩) (fin := (Sum.elim (fun (t : Bool) => (Exit.ret,⟨mkE 27 0 [(2,dB t)],[]⟩)) (fun (t : Unit) => ((Exit.exit 0),⟨mkE 27 0 [(1,.ptr 0 0)],[some (.box [dL a,.dat (.list (.list (.int .i64))) b])]⟩)))) (by
  rintro (t | t) f K h
  · exact h
  · exact h) (fun s => link_map (Nri s a b) (Sum.elim (fun (t : Int) => Sum.inl t) (Sum.elim (fun (t : Bool) => Sum.inr (Sum.inl t)) (fun (t : Unit) => Sum.inr (Sum.inr t)))) (by
  rintro (t | t | t)
  · kernel_rfl
  · kernel_rfl
  · kernel_rfl)) 0) (Sum.elim (fun (t : Bool) => (Sum.inr t)) (fun (t : Unit) => (Sum.inl ()))) (by
  rintro (t | t) K h
  · exact Eq.mp (by kernel_rfl) h
  · exact Eq.mp (by kernel_rfl) h)))) (fun (t : Unit) => (N100 a b)) (fun (t : Bool) => t) (by
  rintro t
  · kernel_rfl) (by
  rintro t f K h
  · exact h))))) (by unfold N1s; kernel_rfl) (by
  intro t
  exact ret_mk [dB t] (by kernel_rfl) (by kernel_rfl) (by kernel_rfl) (by kernel_rfl)) h
def Na7 : Fun := fun avs H =>
  match avs,H with
  | [.agg [.dat (.list (.int .i64)) a,.dat (.list (.list (.int .i64))) b]],[] => ⟨_,N1s a b,fun (t : Bool) => (dB t,[]),[],none⟩
  | _,_ => Ans.no
theorem Niz : Sound Tryd.prog 21 Na7 := by
  refine fn_sound' (C := N40) (c := bodyOf Tryd.f21) (cok_of tys_ok (allc N48 alln) (allc Tryd.call24 alln) (by kernel_rfl)) Tryd.func21 (by kernel_rfl) LL N44 ?_
  intro avs H r H' h
  unfold Na7 at h
  split at h
  · refine Awp.cast ?_ ?_ ?_ (No6 _ _ h) <;> kernel_rfl
  · simp [Ans.no,Ans.run] at h

def Nw : Ann := (.seq (.leaf [1,2]) (.seq (.leaf [1,2,3]) (.seq (.seq (.leafF [⟨1,3,true,some 1,some (.int .i64)⟩] [1,2,3,4]) (.block (.loop (.seq (.seq (.leaf [1,2,3,4,14]) (.cond (.leaf [1,2,3,4]) (.leaf [2,3]))) (.seq (.block (.draw [8,2,100010] [0,1,2,3,4,5,6,7,8,9,10,11,12] [] [1,2,3,4])) (.leaf [1,2,3,4])))))) (.seq (.leaf [2]) (.leaf [2])))))
noncomputable def N30 : Ctx := ⟨tlook tys,olook [],ioF,0,true,[]⟩
theorem Nve (a : List Int) (b : List (List Int)) : Link N30 LL (Code.seq (cq [0] (bodyOf Tryd.f22)) (cq [0,1] (bodyOf Tryd.f22))) (Ann.seq (aq [0] Nw) (aq [0,1] Nw)) ⟨mkE 30 0 [(0,.agg [dL a,.dat (.list (.list (.int .i64))) b])],[]⟩ (N7r a) (fun (t : (List Int)) => (Exit.normal,⟨mkE 30 0 [(1,.ptr 0 0),(2,.ptr 1 0),(3,.ptr 2 0)],[some (.box [dL a,.dat (.list (.list (.int .i64))) b]),some (.box [.nils,.nils]),some (.box [.slc 3,.nils]),some (sI t)]⟩)) := .of fun K h => by
  simp only [N7r,wpW] at h
  exact .of (by kernel_rfl) h
theorem No0 (a : List Int) (b : List (List Int)) (c : List Int) : Link N30 LL (cq [0,0,1,1] (bodyOf Tryd.f22)) (aq [0,0,1,1] Nw) ⟨mkE 30 0 [(1,.ptr 0 0),(2,.ptr 1 0),(3,.ptr 2 0)],[some (.box [dL a,.dat (.list (.list (.int .i64))) b]),some (.box [.nils,.nils]),some (.box [.slc 3,.nils]),some (sI c)]⟩ (N7o) (fun (t : Unit) => (Exit.normal,⟨mkE 30 0 [(1,.ptr 0 0),(2,.ptr 1 0),(3,.ptr 2 0),(4,dI 0)],[some (.box [dL a,.dat (.list (.list (.int .i64))) b]),some (.box [.nils,.nils]),some (.box [.slc 3,.slc 4]),some (sI c),some (.nest (.int .i64) ([] : List (List Int)) 0 [])]⟩)) := .of fun K h => by
  simp only [N7o,wpW] at h
  exact .of (by kernel_rfl) h
theorem Nku (a : Int) (b : List Int) (c : List (List Int)) (d : List Int) (g : List (List Int)) : Link N30 LL (cq [0,0,1,0,1,1] (bodyOf Tryd.f22)) (aq [0,0,1,0,1,1] Nw) ⟨mkE 30 0 [(1,.ptr 0 0),(2,.ptr 1 0),(3,.ptr 2 0),(4,dI a)],[some (.box [dL b,.dat (.list (.list (.int .i64))) c]),some (.box [.nils,.nils]),some (.box [.slc 3,.slc 4]),some (sI d),some (.nest (.int .i64) g 0 [])]⟩ (N33 a c g) (Sum.elim (fun (t : Int × (List (List Int))) => (Exit.normal,⟨mkE 30 0 [(1,.ptr 0 0),(2,.ptr 1 0),(3,.ptr 2 0),(4,dI t.1)],[some (.box [dL b,.dat (.list (.list (.int .i64))) c]),some (.box [.nils,.nils]),some (.box [.slc 3,.slc 4]),some (sI d),some (.nest (.int .i64) t.2 0 [])]⟩)) (fun (t : (List (List Int))) => ((Exit.exit 0),⟨mkE 30 0 [(2,.ptr 0 0),(3,.ptr 1 0)],[some (.box [.nils,.nils]),some (.box [.slc 2,.slc 3]),some (sI d),some (.nest (.int .i64) t 0 [])]⟩))) := .of fun K h => by
  simp only [N33,wpW] at h
  exact .of (by kernel_rfl) h
theorem Nqb (a : List Int) (b : List (List Int)) : Link N30 LL (cq [1,1,1] (bodyOf Tryd.f22)) (aq [1,1,1] Nw) ⟨mkE 30 0 [(2,.ptr 0 0),(3,.ptr 1 0)],[some (.box [.nils,.nils]),some (.box [.slc 2,.slc 3]),some (sI a),some (.nest (.int .i64) b 0 [])]⟩ (N6i a b) (fun (t : (List Int) × (List (List Int))) => (Exit.ret,⟨mkE 30 0 [(2,.ptr 0 0)],[some (.box [.slc 1,.slc 2]),some (sI t.1),some (.nest (.int .i64) t.2 0 [])]⟩)) := .of fun K h => by
  simp only [N6i,wpW] at h
  exact .of (by kernel_rfl) h
theorem Nwo (b : List Int) (d : List (List Int)) {r : AV} {H' : Heap} (h : (Ans.mk _ (N1l b d) (fun (t : (List Int) × (List (List Int))) => (.agg [.slc 1,.slc 2],[some (.box [.slc 1,.slc 2]),some (sI t.1),some (.nest (.int .i64) t.2 0 [])])) [] none).run = some (r,H')) : Awp N30 LL (bodyOf Tryd.f22) Nw ⟨mkE 30 0 [(0,.agg [dL b,.dat (.list (.list (.int .i64))) d])],[]⟩ (Ret (tlook tys) Tryd.f22.results.toList r H') :=
  ret_of' (Link.cast (by kernel_rfl) (by kernel_rfl) (link_group (c := (cq [0,1] (bodyOf Tryd.f22))) (a := (aq [0,1] Nw)) [(cq [0] (bodyOf Tryd.f22))] [(aq [0] Nw)] rfl (link_seq (Nve b d) (fun (t : (List Int)) => (link_seq (link_seq (No0 b d t) (fun (t31 : Unit) => (link_block (fin2 := (fun (t31 : (List (List Int))) => (Exit.normal,⟨mkE 30 0 [(2,.ptr 0 0),(3,.ptr 1 0)],[some (.box [.nils,.nils]),some (.box [.slc 2,.slc 3]),some (sI t),some (.nest (.int .i64) t31 0 [])]⟩))) (id := 0) (link_loop (mk := fun (s : Int × (List (List Int))) => ⟨mkE 30 0 [(1,.ptr 0 0),(2,.ptr 1 0),(3,.ptr 2 0),(4,dI s.1)],[some (.box [dL b,.dat (.list (.list (.int .i64))) d]),some (.box [.nils,.nils]),some (.box [.slc 3,.slc 4]),some (sI t),some (.nest (.int .i64) s.2 0 [])]⟩) (fin := (fun (t31 : (List (List Int))) => ((Exit.exit 0),⟨mkE 30 0 [(2,.ptr 0 0),(3,.ptr 1 0)],[some (.box [.nils,.nils]),some (.box [.slc 2,.slc 3]),some (sI t),some (.nest (.int .i64) t31 0 [])]⟩))) (by
  rintro t31 f K h
  · exact h) (fun s => link_map (Nku s.1 b d t s.2) (Sum.elim (fun (t31 : Int × (List (List Int))) => Sum.inl (t31.1,t31.2)) (fun (t31 : (List (List Int))) => Sum.inr t31)) (by
  rintro (t31 | t31)
  · kernel_rfl
  · kernel_rfl)) (0,([] : List (List Int)))) (fun (t31 : (List (List Int))) => t31) (by
  rintro t31 K h
  · exact Eq.mp (by kernel_rfl) h)))) (fun (t31 : (List (List Int))) => (Nqb t t31))))))) (by unfold N1l; kernel_rfl) (by
  intro t
  exact ret_mk [.agg [.slc 1,.slc 2]] (by kernel_rfl) (by kernel_rfl) (by kernel_rfl) (by kernel_rfl)) h
def N81 : Fun := fun avs H =>
  match avs,H with
  | [.agg [.dat (.list (.int .i64)) a,.dat (.list (.list (.int .i64))) b]],[] => ⟨_,N1l a b,fun (t : (List Int) × (List (List Int))) => (.agg [.slc 1,.slc 2],[some (.box [.slc 1,.slc 2]),some (sI t.1),some (.nest (.int .i64) t.2 0 [])]),[],none⟩
  | _,_ => Ans.no
theorem Ngi : Sound Tryd.prog 22 N81 := by
  refine fn_sound' (C := N30) (c := bodyOf Tryd.f22) (cok_of tys_ok (alln) (alln) (by kernel_rfl)) Tryd.func22 (by kernel_rfl) LL Nw ?_
  intro avs H r H' h
  unfold N81 at h
  split at h
  · refine Awp.cast ?_ ?_ ?_ (Nwo _ _ h) <;> kernel_rfl
  · simp [Ans.no,Ans.run] at h

def Nj : Ann := (.seq (.leaf [0]) (.seq (.leaf [0,3]) (.seq (.leaf [0,3,4]) (.seq (.seq (.leaf [0,3,4,5]) (.block (.loop (.seq (.seq (.leaf [0,3,4,5,16]) (.cond (.leaf [0,3,4,5]) (.leaf [3]))) (.seq (.block (.seq (.leaf [0,3,4,5,23]) (.cond (.leaf [0,3,4,5]) (.leaf [0,3,4,5])))) (.leaf [0,3,4,5])))))) (.seq (.leaf [2]) (.leaf [2]))))))
noncomputable def N3o : Ctx := ⟨tlook tys,olook [(24,N1n)],ioF,0,false,[]⟩
theorem Nm7 (a : List Int) : Link N3o LL (Code.seq (cq [0] (bodyOf Tryd.f40)) (Code.seq (cq [0,1] (bodyOf Tryd.f40)) (cq [0,1,1] (bodyOf Tryd.f40)))) (Ann.seq (aq [0] Nj) (Ann.seq (aq [0,1] Nj) (aq [0,1,1] Nj))) ⟨mkE 38 0 [(0,dL a)],[]⟩ (N9u a) (fun (t : Int) => (Exit.normal,⟨mkE 38 0 [(0,dL a),(3,.slc 0),(4,dI t)],[some (sI ([] : List Int))]⟩)) := .of fun K h => by
  simp only [N9u,wpW] at h
  exact .of (by kernel_rfl) h
theorem Ntv (a : List Int) (b : Int) : Link N3o LL (cq [0,0,1,1,1] (bodyOf Tryd.f40)) (aq [0,0,1,1,1] Nj) ⟨mkE 38 0 [(0,dL a),(3,.slc 0),(4,dI b)],[some (sI ([] : List Int))]⟩ (N70 b) (fun (t : Int) => (Exit.normal,⟨mkE 38 0 [(0,dL a),(3,.slc 0),(4,dI b),(5,dI t)],[some (sI ([] : List Int))]⟩)) := .of fun K h => by
  simp only [N70,wpW] at h
  exact .of (by kernel_rfl) h
theorem No1 (a : List Int) (b c : Int) (d : List Int) : Link N3o LL (cq [0,0,1,0,1,1,1] (bodyOf Tryd.f40)) (aq [0,0,1,0,1,1,1] Nj) ⟨mkE 38 0 [(0,dL a),(3,.slc 0),(4,dI b),(5,dI c)],[some (sI d)]⟩ (N1p a b c d) (Sum.elim (fun (t : Int × (List Int)) => (Exit.normal,⟨mkE 38 0 [(0,dL a),(3,.slc 0),(4,dI b),(5,dI t.1)],[some (sI t.2)]⟩)) (fun (t : (List Int)) => ((Exit.exit 0),⟨mkE 38 0 [(3,.slc 0)],[some (sI t)]⟩))) := .of fun K h => by
  simp only [N1p,wpW] at h
  exact .of (by kernel_rfl) h
theorem Nva (a : List Int) : Link N3o LL (cq [1,1,1,1] (bodyOf Tryd.f40)) (aq [1,1,1,1] Nj) ⟨mkE 38 0 [(3,.slc 0)],[some (sI a)]⟩ (N9w a) (fun (t : (List Int)) => (Exit.ret,⟨mkE 38 0 [(2,.slc 0)],[some (sI t)]⟩)) := .of fun K h => by
  simp only [N9w,wpW] at h
  exact .of (by kernel_rfl) h
theorem Ny1 (b : List Int) {r : AV} {H' : Heap} (h : (Ans.mk _ (N1h b) (fun (t : (List Int)) => (.slc 0,[some (sI t)])) [] none).run = some (r,H')) : Awp N3o LL (bodyOf Tryd.f40) Nj ⟨mkE 38 0 [(0,dL b)],[]⟩ (Ret (tlook tys) Tryd.f40.results.toList r H') :=
  ret_of' (Link.cast (by kernel_rfl) (by kernel_rfl) (link_group (c := (cq [0,1,1] (bodyOf Tryd.f40))) (a := (aq [0,1,1] Nj)) [(cq [0] (bodyOf Tryd.f40)),(cq [0,1] (bodyOf Tryd.f40))] [(aq [0] Nj),(aq [0,1] Nj)] rfl (link_seq (Nm7 b) (fun (t : Int) => (link_seq (link_seq (Ntv b t) (fun (t32 : Int) => (link_block (fin2 := (fun (t7 : (List Int)) => (Exit.normal,⟨mkE 38 0 [(3,.slc 0)],[some (sI t7)]⟩))) (id := 0) (link_loop (mk := fun (s : Int × (List Int)) => ⟨mkE 38 0 [(0,dL b),(3,.slc 0),(4,dI t),(5,dI s.1)],[some (sI s.2)]⟩) (fin := (fun (t7 : (List Int)) => ((Exit.exit 0),⟨mkE 38 0 [(3,.slc 0)],[some (sI t7)]⟩))) (by
  rintro t7 f K h
  · exact h) (fun s => link_map (No1 b t s.1 s.2) (Sum.elim (fun (t7 : Int × (List Int)) => Sum.inl (t7.1,t7.2)) (fun (t7 : (List Int)) => Sum.inr t7)) (by
  rintro (t7 | t7)
  · kernel_rfl
  · kernel_rfl)) (t32,([] : List Int))) (fun (t7 : (List Int)) => t7) (by
  rintro t7 K h
  · exact Eq.mp (by kernel_rfl) h)))) (fun (t32 : (List Int)) => (Nva t32))))))) (by unfold N1h; kernel_rfl) (by
  intro t
  exact ret_mk [.slc 0] (by kernel_rfl) (by kernel_rfl) (by kernel_rfl) (by kernel_rfl)) h
def Nci : Fun := fun avs H =>
  match avs,H with
  | [.dat (.list (.int .i64)) a],[] => ⟨_,N1h a,fun (t : (List Int)) => (.slc 0,[some (sI t)]),[],none⟩
  | _,_ => Ans.no
theorem Nuf : Sound Tryd.prog 40 Nci := by
  refine fn_sound' (C := N3o) (c := bodyOf Tryd.f40) (cok_of tys_ok (allc N48 alln) (allc Tryd.call24 alln) (by kernel_rfl)) Tryd.func40 (by kernel_rfl) LL Nj ?_
  intro avs H r H' h
  unfold Nci at h
  split at h
  · refine Awp.cast ?_ ?_ ?_ (Ny1 _ h) <;> kernel_rfl
  · simp [Ans.no,Ans.run] at h

def N4g : Ann := (.seq (.leaf [0]) (.seq (.seq (.leaf [0,3]) (.block (.loop (.seq (.seq (.leaf [0,3,11]) (.cond (.leaf [0,3]) (.leaf []))) (.seq (.block (.seq (.leaf [0,3,18]) (.cond (.seq (.leaf [2]) (.leaf [2])) (.leaf [0,3])))) (.leaf [0,3])))))) (.seq (.leaf [2]) (.leaf [2]))))
noncomputable def N3y : Ctx := ⟨tlook tys,olook [(24,N1n)],ioF,0,false,[]⟩
theorem Nzv (a : List Int) : Link N3y LL (cq [0] (bodyOf Tryd.f57)) (aq [0] N4g) ⟨mkE 21 0 [(0,dL a)],[]⟩ (N6a) (fun (t : Unit) => (Exit.normal,⟨mkE 21 0 [(0,dL a)],[]⟩)) := .of fun K h => by
  simp only [N6a,wpW] at h
  exact .of (by kernel_rfl) h
theorem Nsv (a : List Int) : Link N3y LL (cq [0,0,1] (bodyOf Tryd.f57)) (aq [0,0,1] N4g) ⟨mkE 21 0 [(0,dL a)],[]⟩ (N6t) (fun (t : Unit) => (Exit.normal,⟨mkE 21 0 [(0,dL a),(3,dI 0)],[]⟩)) := .of fun K h => by
  simp only [N6t,wpW] at h
  exact .of (by kernel_rfl) h
theorem Nlk (a : List Int) (b : Int) : Link N3y LL (cq [0,0,1,0,1] (bodyOf Tryd.f57)) (aq [0,0,1,0,1] N4g) ⟨mkE 21 0 [(0,dL a),(3,dI b)],[]⟩ (N2k a b) (Sum.elim (fun (t : Int) => (Exit.normal,⟨mkE 21 0 [(0,dL a),(3,dI t)],[]⟩)) (Sum.elim (fun (t : Int) => (Exit.ret,⟨mkE 21 0 [(2,dI t)],[]⟩)) (fun (t : Unit) => ((Exit.exit 0),⟨mkE 21 0 [],[]⟩)))) := .of fun K h => by
  simp only [N2k,wpW] at h
  exact .of (by kernel_rfl) h
theorem Nqr : Link N3y LL (cq [1,1] (bodyOf Tryd.f57)) (aq [1,1] N4g) ⟨mkE 21 0 [],[]⟩ (N7w) (fun (t : Int) => (Exit.ret,⟨mkE 21 0 [(2,dI t)],[]⟩)) := .of fun K h => by
  simp only [N7w,wpW] at h
  exact .of (by kernel_rfl) h
theorem Npj (a : List Int) {r : AV} {H' : Heap} (h : (Ans.mk _ (N4w a) (fun (t : Int) => (dI t,[])) [] none).run = some (r,H')) : Awp N3y LL (bodyOf Tryd.f57) N4g ⟨mkE 21 0 [(0,dL a)],[]⟩ (Ret (tlook tys) Tryd.f57.results.toList r H') :=
  ret_of' (Link.cast (by kernel_rfl) (by kernel_rfl) (link_seq (Nzv a) (fun (t : Unit) => (link_seq2 (link_seq (Nsv a) (fun (t : Unit) => (link_block (fin2 := (Sum.elim (fun (t : Unit) => (Exit.normal,⟨mkE 21 0 [],[]⟩)) (fun (t : Int) => (Exit.ret,⟨mkE 21 0 [(2,dI t)],[]⟩)))) (id := 0) (link_loop (mk := fun (s : Int) => ⟨mkE 21 0 [(0,dL a),(3,dI s)],[]⟩) (fin := (Sum.elim (fun (t : Int) => (Exit.ret,⟨mkE 21 0 [(2,dI t)],[]⟩)) (fun (t : Unit) => ((Exit.exit 0),⟨mkE 21 0 [],[]⟩)))) (by
  rintro (t | t) f K h
  · exact h
  · exact h) (fun s => link_map (Nlk a s) (Sum.elim (fun (t : Int) => Sum.inl t) (Sum.elim (fun (t : Int) => Sum.inr (Sum.inl t)) (fun (t : Unit) => Sum.inr (Sum.inr t)))) (by
  rintro (t | t | t)
  · kernel_rfl
  · kernel_rfl
  · kernel_rfl)) 0) (Sum.elim (fun (t : Int) => (Sum.inr t)) (fun (t : Unit) => (Sum.inl ()))) (by
  rintro (t | t) K h
  · exact Eq.mp (by kernel_rfl) h
  · exact Eq.mp (by kernel_rfl) h)))) (fun (t : Unit) => (Nqr)) (fun (t : Int) => t) (by
  rintro t
  · kernel_rfl) (by
  rintro t f K h
  · exact h))))) (by unfold N4w; kernel_rfl) (by
  intro t
  exact ret_mk [dI t] (by kernel_rfl) (by kernel_rfl) (by kernel_rfl) (by kernel_rfl)) h
def Nb9 : Fun := fun avs H =>
  match avs,H with
  | [.dat (.list (.int .i64)) a],[] => ⟨_,N4w a,fun (t : Int) => (dI t,[]),[],none⟩
  | _,_ => Ans.no
theorem Nug : Sound Tryd.prog 57 Nb9 := by
  refine fn_sound' (C := N3y) (c := bodyOf Tryd.f57) (cok_of tys_ok (allc N48 alln) (allc Tryd.call24 alln) (by kernel_rfl)) Tryd.func57 (by kernel_rfl) LL N4g ?_
  intro avs H r H' h
  unfold Nb9 at h
  split at h
  · refine Awp.cast ?_ ?_ ?_ (Npj _ h) <;> kernel_rfl
  · simp [Ans.no,Ans.run] at h

def Nf : Ann := (.seq (.leaf [0,1]) (.seq (.leaf [0,1,5]) (.seq (.seq (.leaf [0,1,5,6]) (.block (.loop (.seq (.seq (.leaf [0,1,5,6,11]) (.cond (.leaf [0,1,5,6]) (.leaf [0,1,5]))) (.seq (.block (.seq (.leaf [0,1,5,6,20]) (.cond (.leaf [0,1,5,6]) (.leaf [0,1,5,6])))) (.leaf [0,1,5,6])))))) (.seq (.leaf [0,1,5]) (.seq (.seq (.leaf [0,1,5,7]) (.block (.loop (.seq (.seq (.leaf [0,1,5,7,35]) (.cond (.leaf [0,1,5,7]) (.leaf [5]))) (.seq (.block (.seq (.leaf [0,1,5,7,44]) (.cond (.leaf [0,1,5,7]) (.leaf [0,1,5,7])))) (.leaf [0,1,5,7])))))) (.seq (.leaf [4]) (.leaf [4])))))))
def N19 (n : Nat) : Fun := fun avs H =>
  match avs,H with
  | [.dat (.list (.int .i64)) a,.dat (.int .i64) b],[] => ⟨_,N6 n a b,fun (t : (List Int)) => (.slc 0,[some (sI t)]),[],none⟩
  | _,_ => Ans.no
noncomputable def N1e (n : Nat) : Ctx := ⟨tlook tys,olook [(56,N19 n)],ioF,0,false,[]⟩
theorem Nkw (n : Nat) (a : List Int) (b : Int) : Link (N1e n) LL (Code.seq (cq [0] (bodyOf Tryd.f56)) (cq [0,1] (bodyOf Tryd.f56))) (Ann.seq (aq [0] Nf) (aq [0,1] Nf)) ⟨mkE 51 0 [(0,dL a),(1,dI b)],[]⟩ (N6j (N6 n)) (fun (t : Unit) => (Exit.normal,⟨mkE 51 0 [(0,dL a),(1,dI b),(5,.slc 0)],[some (sI ([] : List Int))]⟩)) := .of fun K h => by
  simp only [N6j,wpW] at h
  exact .of (by kernel_rfl) h
theorem Nxc (n : Nat) (a : List Int) (b : Int) : Link (N1e n) LL (cq [0,0,1,1] (bodyOf Tryd.f56)) (aq [0,0,1,1] Nf) ⟨mkE 51 0 [(0,dL a),(1,dI b),(5,.slc 0)],[some (sI ([] : List Int))]⟩ (N8t (N6 n)) (fun (t : Unit) => (Exit.normal,⟨mkE 51 0 [(0,dL a),(1,dI b),(5,.slc 0),(6,dI 1)],[some (sI ([] : List Int))]⟩)) := .of fun K h => by
  simp only [N8t,wpW] at h
  exact .of (by kernel_rfl) h
theorem Nwk (n : Nat) (a : List Int) (b c : Int) (d : List Int) : Link (N1e n) LL (cq [0,0,1,0,1,1] (bodyOf Tryd.f56)) (aq [0,0,1,0,1,1] Nf) ⟨mkE 51 0 [(0,dL a),(1,dI b),(5,.slc 0),(6,dI c)],[some (sI d)]⟩ (N3w (N6 n) a b c d) (Sum.elim (fun (t : Int × (List Int)) => (Exit.normal,⟨mkE 51 0 [(0,dL a),(1,dI b),(5,.slc 0),(6,dI t.1)],[some (sI t.2)]⟩)) (fun (t : (List Int)) => ((Exit.exit 0),⟨mkE 51 0 [(0,dL a),(1,dI b),(5,.slc 0)],[some (sI t)]⟩))) := .of fun K h => by
  simp only [N3w,wpW] at h
  exact .of (by kernel_rfl) h
theorem Nuj (n : Nat) (a : List Int) (b : Int) (c : List Int) : Link (N1e n) LL (cq [0,1,1,1] (bodyOf Tryd.f56)) (aq [0,1,1,1] Nf) ⟨mkE 51 0 [(0,dL a),(1,dI b),(5,.slc 0)],[some (sI c)]⟩ (N98 (N6 n) b c) (fun (t : (List Int)) => (Exit.normal,⟨mkE 51 0 [(0,dL a),(1,dI b),(5,.slc 0)],[some (sI t)]⟩)) := .of fun K h => by
  simp only [N98,wpW] at h
  exact .of (by kernel_rfl) h
theorem Nzk (n : Nat) (a : List Int) (b : Int) (c : List Int) : Link (N1e n) LL (cq [0,0,1,1,1,1] (bodyOf Tryd.f56)) (aq [0,0,1,1,1,1] Nf) ⟨mkE 51 0 [(0,dL a),(1,dI b),(5,.slc 0)],[some (sI c)]⟩ (N8g (N6 n) b) (fun (t : Int) => (Exit.normal,⟨mkE 51 0 [(0,dL a),(1,dI b),(5,.slc 0),(7,dI t)],[some (sI c)]⟩)) := .of fun K h => by
  simp only [N8g,wpW] at h
  exact .of (by kernel_rfl) h
theorem Nw8 (n : Nat) (a : List Int) (b c : Int) (d : List Int) : Link (N1e n) LL (cq [0,0,1,0,1,1,1,1] (bodyOf Tryd.f56)) (aq [0,0,1,0,1,1,1,1] Nf) ⟨mkE 51 0 [(0,dL a),(1,dI b),(5,.slc 0),(7,dI c)],[some (sI d)]⟩ (N4x (N6 n) a b c d) (Sum.elim (fun (t : Int × (List Int)) => (Exit.normal,⟨mkE 51 0 [(0,dL a),(1,dI b),(5,.slc 0),(7,dI t.1)],[some (sI t.2)]⟩)) (fun (t : (List Int)) => ((Exit.exit 2),⟨mkE 51 0 [(5,.slc 0)],[some (sI t)]⟩))) := .of fun K h => by
  simp only [N4x,wpW] at h
  exact .of (by kernel_rfl) h
theorem Nmb (n : Nat) (a : List Int) : Link (N1e n) LL (cq [1,1,1,1,1] (bodyOf Tryd.f56)) (aq [1,1,1,1,1] Nf) ⟨mkE 51 0 [(5,.slc 0)],[some (sI a)]⟩ (N5x (N6 n) a) (fun (t : (List Int)) => (Exit.ret,⟨mkE 51 0 [(4,.slc 0)],[some (sI t)]⟩)) := .of fun K h => by
  simp only [N5x,wpW] at h
  exact .of (by kernel_rfl) h
theorem Nw0 (n : Nat) (b : List Int) (d : Int) {r : AV} {H' : Heap} (h : (Ans.mk _ (N6 (n + 1) b d) (fun (t : (List Int)) => (.slc 0,[some (sI t)])) [] none).run = some (r,H')) : Awp (N1e n) LL (bodyOf Tryd.f56) Nf ⟨mkE 51 0 [(0,dL b),(1,dI d)],[]⟩ (Ret (tlook tys) Tryd.f56.results.toList r H') :=
  ret_of' (Link.cast (by kernel_rfl) (by kernel_rfl) (link_group (c := (cq [0,1] (bodyOf Tryd.f56))) (a := (aq [0,1] Nf)) [(cq [0] (bodyOf Tryd.f56))] [(aq [0] Nf)] rfl (link_seq (Nkw n b d) (fun (t : Unit) => (link_seq (link_seq (Nxc n b d) (fun (t : Unit) => (link_block (fin2 := (fun (t : (List Int)) => (Exit.normal,⟨mkE 51 0 [(0,dL b),(1,dI d),(5,.slc 0)],[some (sI t)]⟩))) (id := 0) (link_loop (mk := fun (s : Int × (List Int)) => ⟨mkE 51 0 [(0,dL b),(1,dI d),(5,.slc 0),(6,dI s.1)],[some (sI s.2)]⟩) (fin := (fun (t : (List Int)) => ((Exit.exit 0),⟨mkE 51 0 [(0,dL b),(1,dI d),(5,.slc 0)],[some (sI t)]⟩))) (by
  rintro t f K h
  · exact h) (fun s => link_map (Nwk n b d s.1 s.2) (Sum.elim (fun (t : Int × (List Int)) => Sum.inl (t.1,t.2)) (fun (t : (List Int)) => Sum.inr t)) (by
  rintro (t | t)
  · kernel_rfl
  · kernel_rfl)) (1,([] : List Int))) (fun (t : (List Int)) => t) (by
  rintro t K h
  · exact Eq.mp (by kernel_rfl) h)))) (fun (t : (List Int)) => (link_seq (Nuj n b d t) (fun (t44 : (List Int)) => (link_seq (link_seq (Nzk n b d t44) (fun (t33 : Int) => (link_block (fin2 := (fun (t8 : (List Int)) => (Exit.normal,⟨mkE 51 0 [(5,.slc 0)],[some (sI t8)]⟩))) (id := 2) (link_loop (mk := fun (s : Int × (List Int)) => ⟨mkE 51 0 [(0,dL b),(1,dI d),(5,.slc 0),(7,dI s.1)],[some (sI s.2)]⟩) (fin := (fun (t8 : (List Int)) => ((Exit.exit 2),⟨mkE 51 0 [(5,.slc 0)],[some (sI t8)]⟩))) (by
  rintro t8 f K h
  · exact h) (fun s => link_map (Nw8 n b d s.1 s.2) (Sum.elim (fun (t8 : Int × (List Int)) => Sum.inl (t8.1,t8.2)) (fun (t8 : (List Int)) => Sum.inr t8)) (by
  rintro (t8 | t8)
  · kernel_rfl
  · kernel_rfl)) (t33,t44)) (fun (t8 : (List Int)) => t8) (by
  rintro t8 K h
  · exact Eq.mp (by kernel_rfl) h)))) (fun (t33 : (List Int)) => (Nmb n t33))))))))))) (by (show _ = _); kernel_rfl) (by
  intro t
  exact ret_mk [.slc 0] (by kernel_rfl) (by kernel_rfl) (by kernel_rfl) (by kernel_rfl)) h
theorem Nsh (n : Nat) (h56 : Sound Tryd.prog 56 (N19 n)) : Sound Tryd.prog 56 (N19 (n + 1)) := by
  refine fn_sound' (C := N1e n) (c := bodyOf Tryd.f56) (cok_of tys_ok (allc h56 alln) (allc Tryd.call56 alln) (by kernel_rfl)) Tryd.func56 (by kernel_rfl) LL Nf ?_
  intro avs H r H' h
  unfold N19 at h
  split at h
  · refine Awp.cast ?_ ?_ ?_ (Nw0 n _ _ h) <;> kernel_rfl
  · simp [Ans.no,Ans.run] at h
theorem Np9 : Sound Tryd.prog 56 (N19 0) := by
  intro avs H r H' h
  unfold N19 at h
  split at h
  · simp [N6,N2r,Ans.run] at h
  · simp [Ans.no,Ans.run] at h
theorem Ngf : ∀ n,Sound Tryd.prog 56 (N19 n)
  | 0 => Np9
  | n + 1 => by
    have h56 := Ngf n
    exact Nsh n h56
def N9y : Fun := fun avs H =>
  match avs,H with
  | [.dat (.list (.int .i64)) a,.dat (.int .i64) b],[] => ⟨_,N5m a b,fun (t : (List Int)) => (.slc 0,[some (sI t)]),[],none⟩
  | _,_ => Ans.no
theorem Nzo : Sound Tryd.prog 56 N9y := by
  have e : N9y = N19 RR := by
    funext avs H
    unfold N9y N19
    split <;> first | rfl | (simp only [N5m])
  rw [e]
  exact (Ngf RR)

def Ndq : Ann := (.seq (.leaf [0]) (.seq (.seq (.leaf [0,5]) (.cond (.seq (.leaf [2]) (.leaf [2])) (.leaf [0]))) (.seq (.leaf [2]) (.leaf [2]))))
noncomputable def Nc7 : Ctx := ⟨tlook tys,olook [(24,N1n),(57,Nb9),(56,N9y)],ioF,0,false,[]⟩
theorem Nsz (a : List Int) : Link Nc7 LL (bodyOf Tryd.f49) Ndq ⟨mkE 11 0 [(0,dL a)],[]⟩ (N9s a) (fun (t : (List Int)) => (Exit.ret,⟨mkE 11 0 [(2,.slc 0)],[some (sI t)]⟩)) := .of fun K h => by
  simp only [N9s,wpW] at h
  exact .of (by kernel_rfl) h
theorem Noa (a : List Int) {r : AV} {H' : Heap} (h : (Ans.mk _ (N4e a) (fun (t : (List Int)) => (.slc 0,[some (sI t)])) [] none).run = some (r,H')) : Awp Nc7 LL (bodyOf Tryd.f49) Ndq ⟨mkE 11 0 [(0,dL a)],[]⟩ (Ret (tlook tys) Tryd.f49.results.toList r H') :=
  ret_of' (Nsz a) (by unfold N4e; kernel_rfl) (by
  intro t
  exact ret_mk [.slc 0] (by kernel_rfl) (by kernel_rfl) (by kernel_rfl) (by kernel_rfl)) h
def Ncb : Fun := fun avs H =>
  match avs,H with
  | [.dat (.list (.int .i64)) a],[] => ⟨_,N4e a,fun (t : (List Int)) => (.slc 0,[some (sI t)]),[],none⟩
  | _,_ => Ans.no
theorem Nra : Sound Tryd.prog 49 Ncb := by
  refine fn_sound' (C := Nc7) (c := bodyOf Tryd.f49) (cok_of tys_ok (allc N48 (allc Nug (allc Nzo alln))) (allc Tryd.call24 (allc Tryd.call57 (allc Tryd.call56 alln))) (by kernel_rfl)) Tryd.func49 (by kernel_rfl) LL Ndq ?_
  intro avs H r H' h
  unfold Ncb at h
  split at h
  · refine Awp.cast ?_ ?_ ?_ (Noa _ h) <;> kernel_rfl
  · simp [Ans.no,Ans.run] at h

def Nc : Ann := (.seq (.leaf [0,1]) (.seq (.seq (.leaf [0,1,5]) (.block (.loop (.seq (.seq (.leaf [0,1,5,10]) (.cond (.leaf [0,1,5]) (.leaf [0,1]))) (.seq (.block (.seq (.seq (.leaf [0,1,5,19]) (.cond (.seq (.leaf [4]) (.leaf [4])) (.leaf [0,1,5]))) (.seq (.leaf [0,1,5,6]) (.block (.loop (.seq (.seq (.leaf [0,1,5,6,22]) (.cond (.leaf [0,1,5,6]) (.leaf [0,1,5]))) (.seq (.block (.seq (.draw [] [0,1,2,3,4,5,6,7,8] [] [0,1,5,6,33]) (.cond (.seq (.leaf [4]) (.leaf [4])) (.leaf [0,1,5,6])))) (.leaf [0,1,5,6])))))))) (.leaf [0,1,5])))))) (.seq (.leaf [4]) (.leaf [4]))))
noncomputable def Nu : Ctx := ⟨tlook tys,olook [(39,N53)],ioF,0,false,[]⟩
theorem Nv8 (a : List Int) (b : Int) : Link Nu LL (cq [0] (bodyOf Tryd.f55)) (aq [0] Nc) ⟨mkE 42 0 [(0,dL a),(1,dI b)],[]⟩ (N9i) (fun (t : Unit) => (Exit.normal,⟨mkE 42 0 [(0,dL a),(1,dI b)],[]⟩)) := .of fun K h => by
  simp only [N9i,wpW] at h
  exact .of (by kernel_rfl) h
theorem Nw9 (a : List Int) (b : Int) : Link Nu LL (cq [0,0,1] (bodyOf Tryd.f55)) (aq [0,0,1] Nc) ⟨mkE 42 0 [(0,dL a),(1,dI b)],[]⟩ (N6v) (fun (t : Unit) => (Exit.normal,⟨mkE 42 0 [(0,dL a),(1,dI b),(5,dI 0)],[]⟩)) := .of fun K h => by
  simp only [N6v,wpW] at h
  exact .of (by kernel_rfl) h
theorem N10c (a : List Int) (b c : Int) : Link Nu LL (cq [0,0,0,1,0,1] (bodyOf Tryd.f55)) (aq [0,0,0,1,0,1] Nc) ⟨mkE 42 0 [(0,dL a),(1,dI b),(5,dI c)],[]⟩ (N7c a c) (Sum.elim (fun (t : Unit) => (Exit.normal,⟨mkE 42 0 [(0,dL a),(1,dI b),(5,dI c)],[]⟩)) (fun (t : Unit) => ((Exit.exit 0),⟨mkE 42 0 [(0,dL a),(1,dI b)],[]⟩))) := .of fun K h => by
  simp only [N7c,wpW] at h
  exact .of (by kernel_rfl) h
theorem Nv2 (a : List Int) (b c : Int) : Link Nu LL (Code.seq (cq [0,0,0,1,0,0,1,0,1] (bodyOf Tryd.f55)) (cq [0,1,0,0,1,0,0,1,0,1] (bodyOf Tryd.f55))) (Ann.seq (aq [0,0,0,1,0,0,1,0,1] Nc) (aq [0,1,0,0,1,0,0,1,0,1] Nc)) ⟨mkE 42 0 [(0,dL a),(1,dI b),(5,dI c)],[]⟩ (N67 a b c) (Sum.elim (fun (t : Unit) => (Exit.normal,⟨mkE 42 0 [(0,dL a),(1,dI b),(5,dI c),(6,dI 0)],[]⟩)) (fun (t : Bool) => (Exit.ret,⟨mkE 42 0 [(4,dB t)],[]⟩))) := .of fun K h => by
  simp only [N67,wpW] at h
  exact .of (by kernel_rfl) h
theorem Nxq (a : List Int) (b c d : Int) : Link Nu LL (cq [0,0,1,1,0,0,1,0,0,1,0,1] (bodyOf Tryd.f55)) (aq [0,0,1,1,0,0,1,0,0,1,0,1] Nc) ⟨mkE 42 0 [(0,dL a),(1,dI b),(5,dI c),(6,dI d)],[]⟩ (N57 a c d) (Sum.elim (fun (t : Int) => (Exit.normal,⟨mkE 42 0 [(0,dL a),(1,dI b),(5,dI c),(6,dI t)],[]⟩)) (Sum.elim (fun (t : Bool) => (Exit.ret,⟨mkE 42 0 [(4,dB t)],[]⟩)) (fun (t : Unit) => ((Exit.exit 2),⟨mkE 42 0 [(0,dL a),(1,dI b),(5,dI c)],[]⟩)))) := .of fun K h => by
  simp only [N57,wpW] at h
  exact .of (by kernel_rfl) h
theorem Nth (a : List Int) (b c : Int) : Link Nu LL (cq [1,1,0,0,1,0,1] (bodyOf Tryd.f55)) (aq [1,1,0,0,1,0,1] Nc) ⟨mkE 42 0 [(0,dL a),(1,dI b),(5,dI c)],[]⟩ (Na6 c) (fun (t : Int) => (Exit.normal,⟨mkE 42 0 [(0,dL a),(1,dI b),(5,dI t)],[]⟩)) := .of fun K h => by
  simp only [Na6,wpW] at h
  exact .of (by kernel_rfl) h
theorem Nyh (a : List Int) (b : Int) : Link Nu LL (cq [1,1] (bodyOf Tryd.f55)) (aq [1,1] Nc) ⟨mkE 42 0 [(0,dL a),(1,dI b)],[]⟩ (N6u a b) (fun (t : Bool) => (Exit.ret,⟨mkE 42 0 [(4,dB t)],[]⟩)) := .of fun K h => by
  simp only [N6u,wpW] at h
  exact .of (by kernel_rfl) h
theorem Nvr (b : List Int) (d : Int) {r : AV} {H' : Heap} (h : (Ans.mk _ (N38 b d) (fun (t : Bool) => (dB t,[])) [] none).run = some (r,H')) : Awp Nu LL (bodyOf Tryd.f55) Nc ⟨mkE 42 0 [(0,dL b),(1,dI d)],[]⟩ (Ret (tlook tys) Tryd.f55.results.toList r H') :=
  ret_of' (Link.cast (by kernel_rfl) (by kernel_rfl) (link_seq (Nv8 b d) (fun (t : Unit) => (link_seq2 (link_seq (Nw9 b d) (fun (t : Unit) => (link_block (fin2 := (Sum.elim (fun (t : Unit) => (Exit.normal,⟨mkE 42 0 [(0,dL b),(1,dI d)],[]⟩)) (fun (t : Bool) => (Exit.ret,⟨mkE 42 0 [(4,dB t)],[]⟩)))) (id := 0) (link_loop (mk := fun (s : Int) => ⟨mkE 42 0 [(0,dL b),(1,dI d),(5,dI s)],[]⟩) (fin := (Sum.elim (fun (t : Bool) => (Exit.ret,⟨mkE 42 0 [(4,dB t)],[]⟩)) (fun (t : Unit) => ((Exit.exit 0),⟨mkE 42 0 [(0,dL b),(1,dI d)],[]⟩)))) (by
  rintro (t | t) f K h
  · exact h
  · exact h) (fun s => link_map (link_seq2 (N10c b d s) (fun (t : Unit) => (link_map (fin2 := (Sum.elim (fun (t : Int) => (Exit.normal,⟨mkE 42 0 [(0,dL b),(1,dI d),(5,dI t)],[]⟩)) (Sum.elim (fun (t : Bool) => (Exit.ret,⟨mkE 42 0 [(4,dB t)],[]⟩)) (fun (t : Unit) => ((Exit.exit 0),⟨mkE 42 0 [(0,dL b),(1,dI d)],[]⟩))))) (link_seq2 (link_block (fin2 := (Sum.elim (fun (t : Unit) => (Exit.normal,⟨mkE 42 0 [(0,dL b),(1,dI d),(5,dI s)],[]⟩)) (fun (t : Bool) => (Exit.ret,⟨mkE 42 0 [(4,dB t)],[]⟩)))) (id := 1) (link_group (c := (cq [0,1,0,0,1,0,0,1,0,1] (bodyOf Tryd.f55))) (a := (aq [0,1,0,0,1,0,0,1,0,1] Nc)) [(cq [0,0,0,1,0,0,1,0,1] (bodyOf Tryd.f55))] [(aq [0,0,0,1,0,0,1,0,1] Nc)] rfl (link_seq2 (Nv2 b d s) (fun (t : Unit) => (link_block (fin2 := (Sum.elim (fun (t : Unit) => (Exit.normal,⟨mkE 42 0 [(0,dL b),(1,dI d),(5,dI s)],[]⟩)) (fun (t : Bool) => (Exit.ret,⟨mkE 42 0 [(4,dB t)],[]⟩)))) (id := 2) (link_loop (mk := fun (s34 : Int) => ⟨mkE 42 0 [(0,dL b),(1,dI d),(5,dI s),(6,dI s34)],[]⟩) (fin := (Sum.elim (fun (t : Bool) => (Exit.ret,⟨mkE 42 0 [(4,dB t)],[]⟩)) (fun (t : Unit) => ((Exit.exit 2),⟨mkE 42 0 [(0,dL b),(1,dI d),(5,dI s)],[]⟩)))) (by
  rintro (t | t) f K h
  · exact h
  · exact h) (fun s34 => link_map (Nxq b d s s34) (Sum.elim (fun (t : Int) => Sum.inl t) (Sum.elim (fun (t : Bool) => Sum.inr (Sum.inl t)) (fun (t : Unit) => Sum.inr (Sum.inr t)))) (by
  rintro (t | t | t)
  · kernel_rfl
  · kernel_rfl
  · kernel_rfl)) 0) (Sum.elim (fun (t : Bool) => (Sum.inr t)) (fun (t : Unit) => (Sum.inl ()))) (by
  rintro (t | t) K h
  · exact Eq.mp (by kernel_rfl) h
  · exact Eq.mp (by kernel_rfl) h))) (fun (t : Bool) => (Sum.inr t)) (by
  rintro t
  · kernel_rfl) (by
  rintro t f K h
  · exact h))) (Sum.elim (fun (t : Unit) => (Sum.inl ())) (fun (t : Bool) => (Sum.inr t))) (by
  rintro (t | t) K h
  · exact Eq.mp (by kernel_rfl) h
  · exact Eq.mp (by kernel_rfl) h)) (fun (t : Unit) => (link_map (fin2 := (Sum.elim (fun (t : Int) => (Exit.normal,⟨mkE 42 0 [(0,dL b),(1,dI d),(5,dI t)],[]⟩)) (fun (t : Bool) => (Exit.ret,⟨mkE 42 0 [(4,dB t)],[]⟩)))) (Nth b d s) (fun (t : Int) => (Sum.inl t)) (by
  rintro t
  · kernel_rfl))) (fun (t : Bool) => (Sum.inr t)) (by
  rintro t
  · kernel_rfl) (by
  rintro t f K h
  · exact h)) (Sum.elim (fun (t : Int) => (Sum.inl t)) (fun (t : Bool) => (Sum.inr (Sum.inl t)))) (by
  rintro (t | t)
  · kernel_rfl
  · kernel_rfl))) (fun (t : Unit) => (Sum.inr (Sum.inr t))) (by
  rintro t
  · kernel_rfl) (by
  rintro t f K h
  · exact h)) (Sum.elim (fun (t : Int) => Sum.inl t) (Sum.elim (fun (t : Bool) => Sum.inr (Sum.inl t)) (fun (t : Unit) => Sum.inr (Sum.inr t)))) (by
  rintro (t | t | t)
  · kernel_rfl
  · kernel_rfl
  · kernel_rfl)) 0) (Sum.elim (fun (t : Bool) => (Sum.inr t)) (fun (t : Unit) => (Sum.inl ()))) (by
  rintro (t | t) K h
  · exact Eq.mp (by kernel_rfl) h
  · exact Eq.mp (by kernel_rfl) h)))) (fun (t : Unit) => (Nyh b d)) (fun (t : Bool) => t) (by
  rintro t
  · kernel_rfl) (by
  rintro t f K h
  · exact h))))) (by unfold N38; kernel_rfl) (by
  intro t
  exact ret_mk [dB t] (by kernel_rfl) (by kernel_rfl) (by kernel_rfl) (by kernel_rfl)) h
def Ndh : Fun := fun avs H =>
  match avs,H with
  | [.dat (.list (.int .i64)) a,.dat (.int .i64) b],[] => ⟨_,N38 a b,fun (t : Bool) => (dB t,[]),[],none⟩
  | _,_ => Ans.no
theorem Nna : Sound Tryd.prog 55 Ndh := by
  refine fn_sound' (C := Nu) (c := bodyOf Tryd.f55) (cok_of tys_ok (allc Nbh alln) (allc Tryd.call39 alln) (by kernel_rfl)) Tryd.func55 (by kernel_rfl) LL Nc ?_
  intro avs H r H' h
  unfold Ndh at h
  split at h
  · refine Awp.cast ?_ ?_ ?_ (Nvr _ _ h) <;> kernel_rfl
  · simp [Ans.no,Ans.run] at h

def N5 : Ann := (.seq (.leaf [0,1]) (.seq (.seq (.leaf [0,1,19]) (.cond (.seq (.leaf [4,5]) (.leaf [4,5])) (.leaf [0,1]))) (.seq (.leaf [0,1,6]) (.seq (.seq (.leaf [0,1,6,7]) (.block (.loop (.seq (.seq (.leaf [0,1,6,7,28]) (.cond (.leaf [0,1,6,7]) (.leaf [0,1,6]))) (.seq (.block (.leaf [0,1,6,7])) (.leaf [0,1,6,7])))))) (.seq (.leaf [0,1,6,8]) (.seq (.seq (.leaf [0,1,6,8,9]) (.block (.loop (.seq (.seq (.leaf [0,1,6,8,9,43]) (.cond (.leaf [0,1,6,8,9]) (.leaf [8]))) (.seq (.block (.leaf [0,1,6,8,9])) (.leaf [0,1,6,8,9])))))) (.seq (.leaf [4,5]) (.leaf [4,5]))))))))
noncomputable def N1a : Ctx := ⟨tlook tys,olook [(24,N1n),(55,Ndh)],ioF,0,false,[]⟩
theorem Nze (a b : List Int) : Link N1a LL (Code.seq (cq [0] (bodyOf Tryd.f48)) (Code.seq (cq [0,1] (bodyOf Tryd.f48)) (cq [0,1,1] (bodyOf Tryd.f48)))) (Ann.seq (aq [0] N5) (Ann.seq (aq [0,1] N5) (aq [0,1,1] N5))) ⟨mkE 61 0 [(0,dL a),(1,dL b)],[]⟩ (N88 a b) (Sum.elim (fun (t : (List Int)) => (Exit.normal,⟨mkE 61 0 [(0,dL a),(1,dL b),(6,.slc 0)],[some (sI t)]⟩)) (fun (t : Bool × (List Int)) => (Exit.ret,⟨mkE 61 0 [(4,.slc 0),(5,dB t.1)],[some (sI t.2)]⟩))) := .of fun K h => by
  simp only [N88,wpW] at h
  exact .of (by kernel_rfl) h
theorem Nyq (a b c : List Int) : Link N1a LL (cq [0,0,1,1,1] (bodyOf Tryd.f48)) (aq [0,0,1,1,1] N5) ⟨mkE 61 0 [(0,dL a),(1,dL b),(6,.slc 0)],[some (sI c)]⟩ (N75) (fun (t : Unit) => (Exit.normal,⟨mkE 61 0 [(0,dL a),(1,dL b),(6,.slc 0),(7,dI 0)],[some (sI c)]⟩)) := .of fun K h => by
  simp only [N75,wpW] at h
  exact .of (by kernel_rfl) h
theorem Noo (a b : List Int) (c : Int) (d : List Int) : Link N1a LL (cq [0,0,1,0,1,1,1] (bodyOf Tryd.f48)) (aq [0,0,1,0,1,1,1] N5) ⟨mkE 61 0 [(0,dL a),(1,dL b),(6,.slc 0),(7,dI c)],[some (sI d)]⟩ (N4v b c d) (Sum.elim (fun (t : Int × (List Int)) => (Exit.normal,⟨mkE 61 0 [(0,dL a),(1,dL b),(6,.slc 0),(7,dI t.1)],[some (sI t.2)]⟩)) (fun (t : (List Int)) => ((Exit.exit 0),⟨mkE 61 0 [(0,dL a),(1,dL b),(6,.slc 0)],[some (sI t)]⟩))) := .of fun K h => by
  simp only [N4v,wpW] at h
  exact .of (by kernel_rfl) h
theorem Npb (a b c : List Int) : Link N1a LL (cq [0,1,1,1,1] (bodyOf Tryd.f48)) (aq [0,1,1,1,1] N5) ⟨mkE 61 0 [(0,dL a),(1,dL b),(6,.slc 0)],[some (sI c)]⟩ (N9d) (fun (t : Unit) => (Exit.normal,⟨mkE 61 0 [(0,dL a),(1,dL b),(6,.slc 0),(8,.slc 1)],[some (sI c),some (sI ([] : List Int))]⟩)) := .of fun K h => by
  simp only [N9d,wpW] at h
  exact .of (by kernel_rfl) h
theorem Nph (a b c : List Int) : Link N1a LL (cq [0,0,1,1,1,1,1] (bodyOf Tryd.f48)) (aq [0,0,1,1,1,1,1] N5) ⟨mkE 61 0 [(0,dL a),(1,dL b),(6,.slc 0),(8,.slc 1)],[some (sI c),some (sI ([] : List Int))]⟩ (N9e) (fun (t : Unit) => (Exit.normal,⟨mkE 61 0 [(0,dL a),(1,dL b),(6,.slc 0),(8,.slc 1),(9,dI 0)],[some (sI c),some (sI ([] : List Int))]⟩)) := .of fun K h => by
  simp only [N9e,wpW] at h
  exact .of (by kernel_rfl) h
theorem Nta (a b : List Int) (c : Int) (d g : List Int) : Link N1a LL (cq [0,0,1,0,1,1,1,1,1] (bodyOf Tryd.f48)) (aq [0,0,1,0,1,1,1,1,1] N5) ⟨mkE 61 0 [(0,dL a),(1,dL b),(6,.slc 0),(8,.slc 1),(9,dI c)],[some (sI d),some (sI g)]⟩ (N5b a b c d g) (Sum.elim (fun (t : Int × (List Int)) => (Exit.normal,⟨mkE 61 0 [(0,dL a),(1,dL b),(6,.slc 0),(8,.slc 1),(9,dI t.1)],[some (sI d),some (sI t.2)]⟩)) (fun (t : (List Int)) => ((Exit.exit 2),⟨mkE 61 0 [(8,.slc 0)],[some (sI t)]⟩))) := .of fun K h => by
  simp only [N5b,wpW] at h
  exact .of (by kernel_rfl) h
theorem Nol (a : List Int) : Link N1a LL (cq [1,1,1,1,1,1] (bodyOf Tryd.f48)) (aq [1,1,1,1,1,1] N5) ⟨mkE 61 0 [(8,.slc 0)],[some (sI a)]⟩ (N9q a) (fun (t : Bool × (List Int)) => (Exit.ret,⟨mkE 61 0 [(4,.slc 0),(5,dB t.1)],[some (sI t.2)]⟩)) := .of fun K h => by
  simp only [N9q,wpW] at h
  exact .of (by kernel_rfl) h
theorem Nyo (b d : List Int) {r : AV} {H' : Heap} (h : (Ans.mk _ (N4m b d) (fun (t : Bool × (List Int)) => (.tup [.slc 0,dB t.1],[some (sI t.2)])) [] none).run = some (r,H')) : Awp N1a LL (bodyOf Tryd.f48) N5 ⟨mkE 61 0 [(0,dL b),(1,dL d)],[]⟩ (Ret (tlook tys) Tryd.f48.results.toList r H') :=
  ret_of' (Link.cast (by kernel_rfl) (by kernel_rfl) (link_group (c := (cq [0,1,1] (bodyOf Tryd.f48))) (a := (aq [0,1,1] N5)) [(cq [0] (bodyOf Tryd.f48)),(cq [0,1] (bodyOf Tryd.f48))] [(aq [0] N5),(aq [0,1] N5)] rfl (link_seq2 (Nze b d) (fun (t : (List Int)) => (link_seq (link_seq (Nyq b d t) (fun (t35 : Unit) => (link_block (fin2 := (fun (t35 : (List Int)) => (Exit.normal,⟨mkE 61 0 [(0,dL b),(1,dL d),(6,.slc 0)],[some (sI t35)]⟩))) (id := 0) (link_loop (mk := fun (s : Int × (List Int)) => ⟨mkE 61 0 [(0,dL b),(1,dL d),(6,.slc 0),(7,dI s.1)],[some (sI s.2)]⟩) (fin := (fun (t35 : (List Int)) => ((Exit.exit 0),⟨mkE 61 0 [(0,dL b),(1,dL d),(6,.slc 0)],[some (sI t35)]⟩))) (by
  rintro t35 f K h
  · exact h) (fun s => link_map (Noo b d s.1 s.2) (Sum.elim (fun (t35 : Int × (List Int)) => Sum.inl (t35.1,t35.2)) (fun (t35 : (List Int)) => Sum.inr t35)) (by
  rintro (t35 | t35)
  · kernel_rfl
  · kernel_rfl)) (0,t)) (fun (t35 : (List Int)) => t35) (by
  rintro t35 K h
  · exact Eq.mp (by kernel_rfl) h)))) (fun (t35 : (List Int)) => (link_seq (Npb b d t35) (fun (t : Unit) => (link_seq (link_seq (Nph b d t35) (fun (t : Unit) => (link_block (fin2 := (fun (t : (List Int)) => (Exit.normal,⟨mkE 61 0 [(8,.slc 0)],[some (sI t)]⟩))) (id := 2) (link_loop (mk := fun (s : Int × (List Int)) => ⟨mkE 61 0 [(0,dL b),(1,dL d),(6,.slc 0),(8,.slc 1),(9,dI s.1)],[some (sI t35),some (sI s.2)]⟩) (fin := (fun (t : (List Int)) => ((Exit.exit 2),⟨mkE 61 0 [(8,.slc 0)],[some (sI t)]⟩))) (by
  rintro t f K h
  · exact h) (fun s => link_map (Nta b d s.1 t35 s.2) (Sum.elim (fun (t : Int × (List Int)) => Sum.inl (t.1,t.2)) (fun (t : (List Int)) => Sum.inr t)) (by
  rintro (t | t)
  · kernel_rfl
  · kernel_rfl)) (0,([] : List Int))) (fun (t : (List Int)) => t) (by
  rintro t K h
  · exact Eq.mp (by kernel_rfl) h)))) (fun (t : (List Int)) => (Nol t)))))))) (fun (t : Bool × (List Int)) => t) (by
  rintro t
  · kernel_rfl) (by
  rintro t f K h
  · exact h)))) (by unfold N4m; kernel_rfl) (by
  intro t
  exact ret_mk [.slc 0,dB t.1] (by kernel_rfl) (by kernel_rfl) (by kernel_rfl) (by kernel_rfl)) h
def Nax : Fun := fun avs H =>
  match avs,H with
  | [.dat (.list (.int .i64)) a,.dat (.list (.int .i64)) b],[] => ⟨_,N4m a b,fun (t : Bool × (List Int)) => (.tup [.slc 0,dB t.1],[some (sI t.2)]),[],none⟩
  | _,_ => Ans.no
theorem Nyc : Sound Tryd.prog 48 Nax := by
  refine fn_sound' (C := N1a) (c := bodyOf Tryd.f48) (cok_of tys_ok (allc N48 (allc Nna alln)) (allc Tryd.call24 (allc Tryd.call55 alln)) (by kernel_rfl)) Tryd.func48 (by kernel_rfl) LL N5 ?_
  intro avs H r H' h
  unfold Nax at h
  split at h
  · refine Awp.cast ?_ ?_ ?_ (Nyo _ _ h) <;> kernel_rfl
  · simp [Ans.no,Ans.run] at h

def Ncu : Ann := (.seq (.leaf [0]) (.seq (.leaf [3]) (.seq (.leaf [2]) (.leaf [2]))))
noncomputable def Ndd : Ctx := ⟨tlook tys,olook [(49,Ncb),(48,Nax)],ioF,0,false,[]⟩
theorem Nq9 (a : List Int) : Link Ndd LL (bodyOf Tryd.f41) Ncu ⟨mkE 13 0 [(0,dL a)],[]⟩ (N6p a) (fun (t : (List Int)) => (Exit.ret,⟨mkE 13 0 [(2,.slc 0)],[some (sI t)]⟩)) := .of fun K h => by
  simp only [N6p,wpW] at h
  exact .of (by kernel_rfl) h
theorem Nyn (a : List Int) {r : AV} {H' : Heap} (h : (Ans.mk _ (N1q a) (fun (t : (List Int)) => (.slc 0,[some (sI t)])) [] none).run = some (r,H')) : Awp Ndd LL (bodyOf Tryd.f41) Ncu ⟨mkE 13 0 [(0,dL a)],[]⟩ (Ret (tlook tys) Tryd.f41.results.toList r H') :=
  ret_of' (Nq9 a) (by unfold N1q; kernel_rfl) (by
  intro t
  exact ret_mk [.slc 0] (by kernel_rfl) (by kernel_rfl) (by kernel_rfl) (by kernel_rfl)) h
def Naa : Fun := fun avs H =>
  match avs,H with
  | [.dat (.list (.int .i64)) a],[] => ⟨_,N1q a,fun (t : (List Int)) => (.slc 0,[some (sI t)]),[],none⟩
  | _,_ => Ans.no
theorem Nvc : Sound Tryd.prog 41 Naa := by
  refine fn_sound' (C := Ndd) (c := bodyOf Tryd.f41) (cok_of tys_ok (allc Nra (allc Nyc alln)) (allc Tryd.call49 (allc Tryd.call48 alln)) (by kernel_rfl)) Tryd.func41 (by kernel_rfl) LL Ncu ?_
  intro avs H r H' h
  unfold Naa at h
  split at h
  · refine Awp.cast ?_ ?_ ?_ (Nyn _ h) <;> kernel_rfl
  · simp [Ans.no,Ans.run] at h

def Nbc : Ann := (.seq (.leaf [0,3]) (.seq (.leaf [0,3,5]) (.seq (.block (.seq (.leaf [0,3,5,9]) (.cond (.seq (.leaf [5]) (.seq (.leaf [4]) (.leafF [⟨0,4,true,none,none⟩] [4]))) (.seq (.leaf [0,3,5,28]) (.cond (.seq (.leaf [4]) (.leafF [⟨0,4,true,none,none⟩] [4])) (.seq (.leaf [0,3,5,39]) (.cond (.seq (.leaf [4]) (.leaf [4])) (.seq (.leaf [0,3,48]) (.cond (.seq (.leaf [4]) (.leafF [⟨0,4,true,none,none⟩] [4])) (.seq (.leaf [0,54]) (.cond (.seq (.leaf [4]) (.leafF [⟨0,4,true,none,none⟩] [4])) (.leaf [])))))))))))) (.seq (.leaf [4]) (.leafF [⟨0,4,true,none,none⟩] [4])))))
noncomputable def Ncn : Ctx := ⟨tlook tys,olook [(39,N53),(40,Nci),(41,Naa)],ioF,0,false,[]⟩
theorem Nl0 (a : List Int) (b c d : Int) : Link Ncn LL (bodyOf Tryd.f23) Nbc ⟨mkE 61 0 [(0,dL a),(1,.agg [dI b,dI c,dI d])],[]⟩ (N5s a b c d) (fun (t : Nat × (List Int)) => (Exit.ret,⟨mkE 61 0 [(4,.win 0 0 t.1)],[some (sI t.2)]⟩)) := .of fun K h => by
  simp only [N5s,wpW] at h
  exact .of (by kernel_rfl) h
theorem Nrr (a : List Int) (b c d : Int) {r : AV} {H' : Heap} (h : (Ans.mk _ (N1d a b c d) (fun (t : Nat × (List Int)) => (.win 0 0 t.1,[some (sI t.2)])) [] none).run = some (r,H')) : Awp Ncn LL (bodyOf Tryd.f23) Nbc ⟨mkE 61 0 [(0,dL a),(1,.agg [dI b,dI c,dI d])],[]⟩ (Ret (tlook tys) Tryd.f23.results.toList r H') :=
  ret_of' (Nl0 a b c d) (by unfold N1d; kernel_rfl) (by
  intro t
  exact ret_mk [.win 0 0 t.1] (by kernel_rfl) (by kernel_rfl) (by kernel_rfl) (by kernel_rfl)) h
def Nb7 : Fun := fun avs H =>
  match avs,H with
  | [.dat (.list (.int .i64)) a,.agg [.dat (.int .i64) b,.dat (.int .i64) c,.dat (.int .i64) d]],[] => ⟨_,N1d a b c d,fun (t : Nat × (List Int)) => (.win 0 0 t.1,[some (sI t.2)]),[],none⟩
  | _,_ => Ans.no
theorem Nye : Sound Tryd.prog 23 Nb7 := by
  refine fn_sound' (C := Ncn) (c := bodyOf Tryd.f23) (cok_of tys_ok (allc Nbh (allc Nuf (allc Nvc alln))) (allc Tryd.call39 (allc Tryd.call40 (allc Tryd.call41 alln))) (by kernel_rfl)) Tryd.func23 (by kernel_rfl) LL Nbc ?_
  intro avs H r H' h
  unfold Nb7 at h
  split at h
  · refine Awp.cast ?_ ?_ ?_ (Nrr _ _ _ _ h) <;> kernel_rfl
  · simp [Ans.no,Ans.run] at h

def N3 : Ann := (.seq (.leaf [2,3,4]) (.seq (.seq (.leaf [2,3,4,13]) (.cond (.seq (.leaf [4,5]) (.leafF [⟨0,4,false,some 0,some (.int .i64)⟩,⟨0,4,true,some 1,some (.int .i64)⟩] [4,5])) (.leaf [2,3,4]))) (.seq (.leaf [2,3,4,6]) (.seq (.seq (.leaf [2,3,4,6,25]) (.cond (.seq (.leaf [4,6,7]) (.seq (.leaf [4,6,7]) (.seq (.leaf [4,6]) (.seq (.leaf [4,5]) (.leaf [4,5]))))) (.leaf [2,3,4,6]))) (.seq (.leaf [2,4,6,8]) (.seq (.leaf [2,4,6,8,9]) (.seq (.seq (.leaf [2,4,6,8,9,10]) (.block (.loop (.seq (.seq (.leaf [2,4,6,8,9,10,58]) (.cond (.leaf [2,4,6,8,10]) (.leaf [4,6,8,9]))) (.seq (.block (.draw [] [0,1,2,3,4,5,6,7,8,9,10] [] [2,4,6,8,9,10])) (.leaf [2,4,6,8,9,10])))))) (.seq (.seq (.leaf [4,6,8,76]) (.cond (.seq (.leaf [4,5]) (.leaf [4,5])) (.leaf [4,6,8]))) (.seq (.leaf [4,6,8]) (.seq (.seq (.leaf [4,6,8,88]) (.cond (.leaf [4,6,8]) (.leaf [4,6,8]))) (.seq (.leaf [4,6]) (.seq (.leaf [4,5]) (.leaf [4,5])))))))))))))
noncomputable def N4a : Ctx := ⟨tlook tys,olook [(21,Na7),(22,N81),(23,Nb7),(24,N1n)],ioF,0,true,[]⟩
theorem Nr1 (a : List Int) (b : List (List Int)) (c d g : Int) : Link N4a LL (Code.seq (cq [0] (bodyOf Tryd.f6)) (Code.seq (cq [0,1] (bodyOf Tryd.f6)) (Code.seq (cq [0,1,1] (bodyOf Tryd.f6)) (Code.seq (cq [0,1,1,1] (bodyOf Tryd.f6)) (Code.seq (cq [0,1,1,1,1] (bodyOf Tryd.f6)) (cq [0,1,1,1,1,1] (bodyOf Tryd.f6))))))) (Ann.seq (aq [0] N3) (Ann.seq (aq [0,1] N3) (Ann.seq (aq [0,1,1] N3) (Ann.seq (aq [0,1,1,1] N3) (Ann.seq (aq [0,1,1,1,1] N3) (aq [0,1,1,1,1,1] N3)))))) ⟨mkE 98 0 [(0,.agg [dL a,.dat (.list (.list (.int .i64))) b]),(1,.agg [dI c,dI d,dI g])],[]⟩ (N8o a b c d g) (Sum.elim (fun (t : Nat × Bool × (List Int) × (List Int) × (List (List Int))) => (Exit.normal,⟨mkE 98 0 [(2,.ptr 0 0),(4,.ptr 1 0),(6,.ptr 2 0),(8,.win 3 0 t.1),(9,dB t.2.1)],[some (.box [dL a,.dat (.list (.list (.int .i64))) b]),some (.box [.nils,.nils]),some (.box [.slc 4,.slc 5]),some (sI t.2.2.1),some (sI t.2.2.2.1),some (.nest (.int .i64) t.2.2.2.2 0 [])]⟩)) (fun (t : Bool × (List Int) × (List (List Int))) => (Exit.ret,⟨mkE 98 0 [(4,.ptr 0 0),(5,dB t.1)],[some (.box [.slc 1,.slc 2]),some (sI t.2.1),some (.nest (.int .i64) t.2.2 0 [])]⟩))) := .of fun K h => by
  simp only [N8o,wpW] at h
  exact .of (by kernel_rfl) h
theorem Nz3 (a : Nat) (b : Bool) (c : List Int) (d : List (List Int)) (g i : List Int) (j : List (List Int)) : Link N4a LL (cq [0,0,1,1,1,1,1,1] (bodyOf Tryd.f6)) (aq [0,0,1,1,1,1,1,1] N3) ⟨mkE 98 0 [(2,.ptr 0 0),(4,.ptr 1 0),(6,.ptr 2 0),(8,.win 3 0 a),(9,dB b)],[some (.box [dL c,.dat (.list (.list (.int .i64))) d]),some (.box [.nils,.nils]),some (.box [.slc 4,.slc 5]),some (sI g),some (sI i),some (.nest (.int .i64) j 0 [])]⟩ (N7h) (fun (t : Unit) => (Exit.normal,⟨mkE 98 0 [(2,.ptr 0 0),(4,.ptr 1 0),(6,.ptr 2 0),(8,.win 3 0 a),(9,dB b),(10,dI 0)],[some (.box [dL c,.dat (.list (.list (.int .i64))) d]),some (.box [.nils,.nils]),some (.box [.slc 4,.slc 5]),some (sI g),some (sI i),some (.nest (.int .i64) j 0 [])]⟩)) := .of fun K h => by
  simp only [N7h,wpW] at h
  exact .of (by kernel_rfl) h
theorem Nv7 (a : Nat) (b : Bool) (c : Int) (d : List Int) (g : List (List Int)) (i j : List Int) (k : List (List Int)) : Link N4a LL (cq [0,0,1,0,1,1,1,1,1,1] (bodyOf Tryd.f6)) (aq [0,0,1,0,1,1,1,1,1,1] N3) ⟨mkE 98 0 [(2,.ptr 0 0),(4,.ptr 1 0),(6,.ptr 2 0),(8,.win 3 0 a),(9,dB b),(10,dI c)],[some (.box [dL d,.dat (.list (.list (.int .i64))) g]),some (.box [.nils,.nils]),some (.box [.slc 4,.slc 5]),some (sI i),some (sI j),some (.nest (.int .i64) k 0 [])]⟩ (N22 a b c d i) (Sum.elim (fun (t : Bool × Int) => (Exit.normal,⟨mkE 98 0 [(2,.ptr 0 0),(4,.ptr 1 0),(6,.ptr 2 0),(8,.win 3 0 a),(9,dB t.1),(10,dI t.2)],[some (.box [dL d,.dat (.list (.list (.int .i64))) g]),some (.box [.nils,.nils]),some (.box [.slc 4,.slc 5]),some (sI i),some (sI j),some (.nest (.int .i64) k 0 [])]⟩)) (fun (t : Bool) => ((Exit.exit 0),⟨mkE 98 0 [(4,.ptr 0 0),(6,.ptr 1 0),(8,.win 2 0 a),(9,dB t)],[some (.box [.nils,.nils]),some (.box [.slc 3,.slc 4]),some (sI i),some (sI j),some (.nest (.int .i64) k 0 [])]⟩))) := .of fun K h => by
  simp only [N22,wpW] at h
  exact .of (by kernel_rfl) h
theorem Nmn (a : Nat) (b : Bool) (c d : List Int) (g : List (List Int)) : Link N4a LL (cq [1,1,1,1,1,1,1] (bodyOf Tryd.f6)) (aq [1,1,1,1,1,1,1] N3) ⟨mkE 98 0 [(4,.ptr 0 0),(6,.ptr 1 0),(8,.win 2 0 a),(9,dB b)],[some (.box [.nils,.nils]),some (.box [.slc 3,.slc 4]),some (sI c),some (sI d),some (.nest (.int .i64) g 0 [])]⟩ (N7l a b c d g) (fun (t : Bool × (List Int) × (List (List Int))) => (Exit.ret,⟨mkE 98 0 [(4,.ptr 0 0),(5,dB t.1)],[some (.box [.slc 1,.slc 2]),some (sI t.2.1),some (.nest (.int .i64) t.2.2 0 [])]⟩)) := .of fun K h => by
  simp only [N7l,wpW] at h
  exact .of (by kernel_rfl) h
theorem Npt (b : List Int) (d : List (List Int)) (g i j : Int) {r : AV} {H' : Heap} (h : (Ans.mk _ (N2n b d g i j) (fun (t : Bool × (List Int) × (List (List Int))) => (.tup [.agg [.slc 1,.slc 2],dB t.1],[some (.box [.slc 1,.slc 2]),some (sI t.2.1),some (.nest (.int .i64) t.2.2 0 [])])) [] none).run = some (r,H')) : Awp N4a LL (bodyOf Tryd.f6) N3 ⟨mkE 98 0 [(0,.agg [dL b,.dat (.list (.list (.int .i64))) d]),(1,.agg [dI g,dI i,dI j])],[]⟩ (Ret (tlook tys) Tryd.f6.results.toList r H') :=
  ret_of' (Link.cast (by kernel_rfl) (by kernel_rfl) (link_group (c := (cq [0,1,1,1,1,1] (bodyOf Tryd.f6))) (a := (aq [0,1,1,1,1,1] N3)) [(cq [0] (bodyOf Tryd.f6)),(cq [0,1] (bodyOf Tryd.f6)),(cq [0,1,1] (bodyOf Tryd.f6)),(cq [0,1,1,1] (bodyOf Tryd.f6)),(cq [0,1,1,1,1] (bodyOf Tryd.f6))] [(aq [0] N3),(aq [0,1] N3),(aq [0,1,1] N3),(aq [0,1,1,1] N3),(aq [0,1,1,1,1] N3)] rfl (link_seq2 (Nr1 b d g i j) (fun (t : Nat × Bool × (List Int) × (List Int) × (List (List Int))) => (link_seq (link_seq (Nz3 t.1 t.2.1 b d t.2.2.1 t.2.2.2.1 t.2.2.2.2) (fun (t36 : Unit) => (link_block (fin2 := (fun (t36 : Bool) => (Exit.normal,⟨mkE 98 0 [(4,.ptr 0 0),(6,.ptr 1 0),(8,.win 2 0 t.1),(9,dB t36)],[some (.box [.nils,.nils]),some (.box [.slc 3,.slc 4]),some (sI t.2.2.1),some (sI t.2.2.2.1),some (.nest (.int .i64) t.2.2.2.2 0 [])]⟩))) (id := 0) (link_loop (mk := fun (s : Bool × Int) => ⟨mkE 98 0 [(2,.ptr 0 0),(4,.ptr 1 0),(6,.ptr 2 0),(8,.win 3 0 t.1),(9,dB s.1),(10,dI s.2)],[some (.box [dL b,.dat (.list (.list (.int .i64))) d]),some (.box [.nils,.nils]),some (.box [.slc 4,.slc 5]),some (sI t.2.2.1),some (sI t.2.2.2.1),some (.nest (.int .i64) t.2.2.2.2 0 [])]⟩) (fin := (fun (t36 : Bool) => ((Exit.exit 0),⟨mkE 98 0 [(4,.ptr 0 0),(6,.ptr 1 0),(8,.win 2 0 t.1),(9,dB t36)],[some (.box [.nils,.nils]),some (.box [.slc 3,.slc 4]),some (sI t.2.2.1),some (sI t.2.2.2.1),some (.nest (.int .i64) t.2.2.2.2 0 [])]⟩))) (by
  rintro t36 f K h
  · exact h) (fun s => link_map (Nv7 t.1 s.1 s.2 b d t.2.2.1 t.2.2.2.1 t.2.2.2.2) (Sum.elim (fun (t36 : Bool × Int) => Sum.inl (t36.1,t36.2)) (fun (t36 : Bool) => Sum.inr t36)) (by
  rintro (t36 | t36)
  · kernel_rfl
  · kernel_rfl)) (t.2.1,0)) (fun (t36 : Bool) => t36) (by
  rintro t36 K h
  · exact Eq.mp (by kernel_rfl) h)))) (fun (t36 : Bool) => (Nmn t.1 t36 t.2.2.1 t.2.2.2.1 t.2.2.2.2)))) (fun (t : Bool × (List Int) × (List (List Int))) => t) (by
  rintro t
  · kernel_rfl) (by
  rintro t f K h
  · exact h)))) (by unfold N2n; kernel_rfl) (by
  intro t
  exact ret_mk [.agg [.slc 1,.slc 2],dB t.1] (by kernel_rfl) (by kernel_rfl) (by kernel_rfl) (by kernel_rfl)) h
def Nc2 : Fun := fun avs H =>
  match avs,H with
  | [.agg [.dat (.list (.int .i64)) a,.dat (.list (.list (.int .i64))) b],.agg [.dat (.int .i64) c,.dat (.int .i64) d,.dat (.int .i64) g]],[] => ⟨_,N2n a b c d g,fun (t : Bool × (List Int) × (List (List Int))) => (.tup [.agg [.slc 1,.slc 2],dB t.1],[some (.box [.slc 1,.slc 2]),some (sI t.2.1),some (.nest (.int .i64) t.2.2 0 [])]),[],none⟩
  | _,_ => Ans.no
theorem Nqw : Sound Tryd.prog 6 Nc2 := by
  refine fn_sound' (C := N4a) (c := bodyOf Tryd.f6) (cok_of tys_ok (allc Niz (allc Ngi (allc Nye (allc N48 alln)))) (allc Tryd.call21 (allc Tryd.call22 (allc Tryd.call23 (allc Tryd.call24 alln)))) (by kernel_rfl)) Tryd.func6 (by kernel_rfl) LL N3 ?_
  intro avs H r H' h
  unfold Nc2 at h
  split at h
  · refine Awp.cast ?_ ?_ ?_ (Npt _ _ _ _ _ h) <;> kernel_rfl
  · simp [Ans.no,Ans.run] at h

def N18 : Ann := (.seq (.leaf [0]) (.seq (.leaf [0,3]) (.seq (.seq (.leaf [0,3,6,7,8]) (.block (.loop (.seq (.leaf [0,3,6,7,8,9]) (.seq (.cond (.leaf [0,3,6,7,8]) (.leaf [3])) (.seq (.block (.seq (.leaf [0,3,5,6,7,8]) (.seq (.seq (.leaf [0,3,5,6,7,8,19]) (.cond (.seq (.leaf [2]) (.leaf [2])) (.leaf [0,3,5,6,7,8]))) (.seq (.leaf [0,3,6,7,8,21]) (.cond (.leaf [0,3,6,7,8]) (.leaf [0,3,6,7,8])))))) (.leaf [0,3,6,7,8]))))))) (.seq (.leaf [2]) (.leaf [2])))))
noncomputable def N4r : Ctx := ⟨tlook tys,olook [],ioF,0,false,[]⟩
theorem Ns5 (a : List Int) : Link N4r LL (Code.seq (cq [0] (bodyOf Tryd.f50)) (cq [0,1] (bodyOf Tryd.f50))) (Ann.seq (aq [0] N18) (aq [0,1] N18)) ⟨mkE 27 0 [(0,dL a)],[]⟩ (N76) (fun (t : Unit) => (Exit.normal,⟨mkE 27 0 [(0,dL a),(3,dI 0)],[]⟩)) := .of fun K h => by
  simp only [N76,wpW] at h
  exact .of (by kernel_rfl) h
theorem Nro (a : List Int) : Link N4r LL (cq [0,0,1,1] (bodyOf Tryd.f50)) (aq [0,0,1,1] N18) ⟨mkE 27 0 [(0,dL a),(3,dI 0)],[]⟩ (N8w a) (fun (t : Int) => (Exit.normal,⟨mkE 27 0 [(0,dL a),(3,dI 0),(6,dL a),(7,dI t),(8,dI 0)],[]⟩)) := .of fun K h => by
  simp only [N8w,wpW] at h
  exact .of (by kernel_rfl) h
theorem Nlh (a : List Int) (b c d : Int) : Link N4r LL (cq [0,0,1,0,1,1] (bodyOf Tryd.f50)) (aq [0,0,1,0,1,1] N18) ⟨mkE 27 0 [(0,dL a),(3,dI b),(6,dL a),(7,dI c),(8,dI d)],[]⟩ (N3s a b c d) (Sum.elim (fun (t : Int × Int) => (Exit.normal,⟨mkE 27 0 [(0,dL a),(3,dI t.1),(6,dL a),(7,dI c),(8,dI t.2)],[]⟩)) (Sum.elim (fun (t : Bool) => (Exit.ret,⟨mkE 27 0 [(2,dB t)],[]⟩)) (fun (t : Int) => ((Exit.exit 0),⟨mkE 27 0 [(3,dI t)],[]⟩)))) := .of fun K h => by
  simp only [N3s,wpW] at h
  exact .of (by kernel_rfl) h
theorem Nrn (a : Int) : Link N4r LL (cq [1,1,1] (bodyOf Tryd.f50)) (aq [1,1,1] N18) ⟨mkE 27 0 [(3,dI a)],[]⟩ (N8z a) (fun (t : Bool) => (Exit.ret,⟨mkE 27 0 [(2,dB t)],[]⟩)) := .of fun K h => by
  simp only [N8z,wpW] at h
  exact .of (by kernel_rfl) h
theorem Nqg (b : List Int) {r : AV} {H' : Heap} (h : (Ans.mk _ (N43 b) (fun (t : Bool) => (dB t,[])) [] none).run = some (r,H')) : Awp N4r LL (bodyOf Tryd.f50) N18 ⟨mkE 27 0 [(0,dL b)],[]⟩ (Ret (tlook tys) Tryd.f50.results.toList r H') :=
  ret_of' (Link.cast (by kernel_rfl) (by kernel_rfl) (link_group (c := (cq [0,1] (bodyOf Tryd.f50))) (a := (aq [0,1] N18)) [(cq [0] (bodyOf Tryd.f50))] [(aq [0] N18)] rfl (link_seq (Ns5 b) (fun (t : Unit) => (link_seq2 (link_seq (Nro b) (fun (t : Int) => (link_block (fin2 := (Sum.elim (fun (t10 : Int) => (Exit.normal,⟨mkE 27 0 [(3,dI t10)],[]⟩)) (fun (t10 : Bool) => (Exit.ret,⟨mkE 27 0 [(2,dB t10)],[]⟩)))) (id := 0) (link_loop (mk := fun (s : Int × Int) => ⟨mkE 27 0 [(0,dL b),(3,dI s.1),(6,dL b),(7,dI t),(8,dI s.2)],[]⟩) (fin := (Sum.elim (fun (t10 : Bool) => (Exit.ret,⟨mkE 27 0 [(2,dB t10)],[]⟩)) (fun (t10 : Int) => ((Exit.exit 0),⟨mkE 27 0 [(3,dI t10)],[]⟩)))) (by
  rintro (t10 | t10) f K h
  · exact h
  · exact h) (fun s => link_map (Nlh b s.1 t s.2) (Sum.elim (fun (t10 : Int × Int) => Sum.inl (t10.1,t10.2)) (Sum.elim (fun (t10 : Bool) => Sum.inr (Sum.inl t10)) (fun (t10 : Int) => Sum.inr (Sum.inr t10)))) (by
  rintro (t10 | t10 | t10)
  · kernel_rfl
  · kernel_rfl
  · kernel_rfl)) (0,0)) (Sum.elim (fun (t10 : Bool) => (Sum.inr t10)) (fun (t10 : Int) => (Sum.inl t10))) (by
  rintro (t10 | t10) K h
  · exact Eq.mp (by kernel_rfl) h
  · exact Eq.mp (by kernel_rfl) h)))) (fun (t : Int) => (Nrn t)) (fun (t : Bool) => t) (by
  rintro t
  · kernel_rfl) (by
  rintro t f K h
  · exact h)))))) (by unfold N43; kernel_rfl) (by
  intro t
  exact ret_mk [dB t] (by kernel_rfl) (by kernel_rfl) (by kernel_rfl) (by kernel_rfl)) h
def Nef : Fun := fun avs H =>
  match avs,H with
  | [.dat (.list (.int .i64)) a],[] => ⟨_,N43 a,fun (t : Bool) => (dB t,[]),[],none⟩
  | _,_ => Ans.no
theorem Nmy : Sound Tryd.prog 50 Nef := by
  refine fn_sound' (C := N4r) (c := bodyOf Tryd.f50) (cok_of tys_ok (alln) (alln) (by kernel_rfl)) Tryd.func50 (by kernel_rfl) LL N18 ?_
  intro avs H r H' h
  unfold Nef at h
  split at h
  · refine Awp.cast ?_ ?_ ?_ (Nqg _ h) <;> kernel_rfl
  · simp [Ans.no,Ans.run] at h

def Nd2 : Ann := (.seq (.leaf [0]) (.seq (.draw [] [0,1,2,3,4,5,6,7,8,9,10,11] [] [0,3]) (.seq (.seq (.leaf [0,3,16]) (.cond (.seq (.leaf [2]) (.leaf [2])) (.leaf [0,3]))) (.seq (.leaf [0]) (.seq (.leaf []) (.seq (.leaf [2]) (.leaf [2])))))))
noncomputable def Nbl : Ctx := ⟨tlook tys,olook [],ioF,1,false,[]⟩
theorem Nlb (a : List Int) (b c : Int) : Link Nbl LL (bodyOf Tryd.f58) Nd2 ⟨mkE 28 0 [(0,.ptr 0 0)],[some (.box [dL a,dI b,dI c])]⟩ (N9b a b c) (fun (t : Bool × Int × Int) => (Exit.ret,⟨mkE 28 0 [(2,dB t.1)],[some (.box [dL a,dI t.2.1,dI t.2.2])]⟩)) := .of fun K h => by
  simp only [N9b,wpW] at h
  exact .of (by kernel_rfl) h
theorem Nv6 (a : List Int) (b c : Int) {r : AV} {H' : Heap} (h : (Ans.mk _ (N25 a b c) (fun (t : Bool × Int × Int) => (dB t.1,[some (.box [dL a,dI t.2.1,dI t.2.2])])) [] none).run = some (r,H')) : Awp Nbl LL (bodyOf Tryd.f58) Nd2 ⟨mkE 28 0 [(0,.ptr 0 0)],[some (.box [dL a,dI b,dI c])]⟩ (Ret (tlook tys) Tryd.f58.results.toList r H') :=
  ret_of' (Nlb a b c) (by unfold N25; kernel_rfl) (by
  intro t
  exact ret_mk [dB t.1] (by kernel_rfl) (by kernel_rfl) (by kernel_rfl) (by kernel_rfl)) h
def N72 : Fun := fun avs H =>
  match avs,H with
  | [.ptr 0 0],[some (.box [.dat (.list (.int .i64)) a,.dat (.int .i64) b,.dat (.int .i64) c])] => ⟨_,N25 a b c,fun (t : Bool × Int × Int) => (dB t.1,[some (.box [dL a,dI t.2.1,dI t.2.2])]),[],none⟩
  | _,_ => Ans.no
theorem Ngc : Sound Tryd.prog 58 N72 := by
  refine fn_sound' (C := Nbl) (c := bodyOf Tryd.f58) (cok_of tys_ok (alln) (alln) (by kernel_rfl)) Tryd.func58 (by kernel_rfl) LL Nd2 ?_
  intro avs H r H' h
  unfold N72 at h
  split at h
  · refine Awp.cast ?_ ?_ ?_ (Nv6 _ _ _ h) <;> kernel_rfl
  · simp [Ans.no,Ans.run] at h

def N1o : Ann := (.seq (.leaf [0,1]) (.seq (.leaf [0,6]) (.seq (.block (.loop (.seq (.seq (.leaf [0,6,10]) (.cond (.leaf [0,6]) (.leaf [6]))) (.block (.seq (.leaf [0,6,15]) (.cond (.seq (.leaf [4,5]) (.leaf [4,5])) (.leaf [0,6]))))))) (.seq (.leaf [4,5]) (.leaf [4,5])))))
noncomputable def N5r : Ctx := ⟨tlook tys,olook [(58,N72)],ioF,0,false,[]⟩
theorem Nma (a : List Int) (b : Int) : Link N5r LL (Code.seq (cq [0] (bodyOf Tryd.f51)) (cq [0,1] (bodyOf Tryd.f51))) (Ann.seq (aq [0] N1o) (aq [0,1] N1o)) ⟨mkE 18 0 [(0,dL a),(1,dI b)],[]⟩ (N7s) (fun (t : Unit) => (Exit.normal,⟨mkE 18 0 [(0,dL a),(6,.ptr 0 0)],[some (.box [dL a,dI b,dI 0])]⟩)) := .of fun K h => by
  simp only [N7s,wpW] at h
  exact .of (by kernel_rfl) h
theorem Nli (a : List Int) (b c : Int) : Link N5r LL (cq [0,0,0,1,1] (bodyOf Tryd.f51)) (aq [0,0,0,1,1] N1o) ⟨mkE 18 0 [(0,dL a),(6,.ptr 0 0)],[some (.box [dL a,dI b,dI c])]⟩ (N5h a b c) (Sum.elim (fun (t : Int × Int) => (Exit.normal,⟨mkE 18 0 [(0,dL a),(6,.ptr 0 0)],[some (.box [dL a,dI t.1,dI t.2])]⟩)) (Sum.elim (fun (t : Int × Bool) => (Exit.ret,⟨mkE 18 0 [(4,dI t.1),(5,dB t.2)],[]⟩)) (fun (t : Int × Int) => ((Exit.exit 0),⟨mkE 18 0 [(6,.ptr 0 0)],[some (.box [dL a,dI t.1,dI t.2])]⟩)))) := .of fun K h => by
  simp only [N5h,wpW] at h
  exact .of (by kernel_rfl) h
theorem Nux (a : List Int) (b c : Int) : Link N5r LL (cq [1,1,1] (bodyOf Tryd.f51)) (aq [1,1,1] N1o) ⟨mkE 18 0 [(6,.ptr 0 0)],[some (.box [dL a,dI b,dI c])]⟩ (N8x c) (fun (t : Int × Bool) => (Exit.ret,⟨mkE 18 0 [(4,dI t.1),(5,dB t.2)],[]⟩)) := .of fun K h => by
  simp only [N8x,wpW] at h
  exact .of (by kernel_rfl) h
theorem Nte (b : List Int) (d : Int) {r : AV} {H' : Heap} (h : (Ans.mk _ (N4b b d) (fun (t : Int × Bool) => (.tup [dI t.1,dB t.2],[])) [] none).run = some (r,H')) : Awp N5r LL (bodyOf Tryd.f51) N1o ⟨mkE 18 0 [(0,dL b),(1,dI d)],[]⟩ (Ret (tlook tys) Tryd.f51.results.toList r H') :=
  ret_of' (Link.cast (by kernel_rfl) (by kernel_rfl) (link_group (c := (cq [0,1] (bodyOf Tryd.f51))) (a := (aq [0,1] N1o)) [(cq [0] (bodyOf Tryd.f51))] [(aq [0] N1o)] rfl (link_seq (Nma b d) (fun (t : Unit) => (link_seq2 (link_block (fin2 := (Sum.elim (fun (t : Int × Int) => (Exit.normal,⟨mkE 18 0 [(6,.ptr 0 0)],[some (.box [dL b,dI t.1,dI t.2])]⟩)) (fun (t : Int × Bool) => (Exit.ret,⟨mkE 18 0 [(4,dI t.1),(5,dB t.2)],[]⟩)))) (id := 0) (link_loop (mk := fun (s : Int × Int) => ⟨mkE 18 0 [(0,dL b),(6,.ptr 0 0)],[some (.box [dL b,dI s.1,dI s.2])]⟩) (fin := (Sum.elim (fun (t : Int × Bool) => (Exit.ret,⟨mkE 18 0 [(4,dI t.1),(5,dB t.2)],[]⟩)) (fun (t : Int × Int) => ((Exit.exit 0),⟨mkE 18 0 [(6,.ptr 0 0)],[some (.box [dL b,dI t.1,dI t.2])]⟩)))) (by
  rintro (t | t) f K h
  · exact h
  · exact h) (fun s => link_map (Nli b s.1 s.2) (Sum.elim (fun (t : Int × Int) => Sum.inl (t.1,t.2)) (Sum.elim (fun (t : Int × Bool) => Sum.inr (Sum.inl t)) (fun (t : Int × Int) => Sum.inr (Sum.inr t)))) (by
  rintro (t | t | t)
  · kernel_rfl
  · kernel_rfl
  · kernel_rfl)) (d,0)) (Sum.elim (fun (t : Int × Bool) => (Sum.inr t)) (fun (t : Int × Int) => (Sum.inl (t.1,t.2)))) (by
  rintro (t | t) K h
  · exact Eq.mp (by kernel_rfl) h
  · exact Eq.mp (by kernel_rfl) h)) (fun (t : Int × Int) => (Nux b t.1 t.2)) (fun (t : Int × Bool) => t) (by
  rintro t
  · kernel_rfl) (by
  rintro t f K h
  · exact h)))))) (by unfold N4b; kernel_rfl) (by
  intro t
  exact ret_mk [dI t.1,dB t.2] (by kernel_rfl) (by kernel_rfl) (by kernel_rfl) (by kernel_rfl)) h
def Nbp : Fun := fun avs H =>
  match avs,H with
  | [.dat (.list (.int .i64)) a,.dat (.int .i64) b],[] => ⟨_,N4b a b,fun (t : Int × Bool) => (.tup [dI t.1,dB t.2],[]),[],none⟩
  | _,_ => Ans.no
theorem Nrb : Sound Tryd.prog 51 Nbp := by
  refine fn_sound' (C := N5r) (c := bodyOf Tryd.f51) (cok_of tys_ok (allc Ngc alln) (allc Tryd.call58 alln) (by kernel_rfl)) Tryd.func51 (by kernel_rfl) LL N1o ?_
  intro avs H r H' h
  unfold Nbp at h
  split at h
  · refine Awp.cast ?_ ?_ ?_ (Nte _ _ h) <;> kernel_rfl
  · simp [Ans.no,Ans.run] at h

def N17 : Ann := (.seq (.leaf [0]) (.seq (.seq (.leaf [0,18]) (.cond (.seq (.leaf [2]) (.leaf [2])) (.leaf [0]))) (.seq (.seq (.leaf [0,20,21]) (.block (.loop (.seq (.leaf [0,20,21,22]) (.seq (.cond (.leaf [0,20,21]) (.leaf [])) (.seq (.block (.seq (.leaf [0,3,20,21]) (.seq (.leaf [0,5,20,21]) (.seq (.leaf [0,20,21,32]) (.cond (.seq (.leaf [2]) (.leaf [2])) (.leaf [0,20,21])))))) (.leaf [0,20,21]))))))) (.seq (.leaf [2]) (.leaf [2])))))
noncomputable def N4n : Ctx := ⟨tlook tys,olook [(50,Nef),(51,Nbp)],ioF,0,false,[]⟩
theorem Npu (a : List Int) : Link N4n LL (Code.seq (cq [0] (bodyOf Tryd.f42)) (cq [0,1] (bodyOf Tryd.f42))) (Ann.seq (aq [0] N17) (aq [0,1] N17)) ⟨mkE 34 0 [(0,dL a)],[]⟩ (N6r a) (Sum.elim (fun (t : Unit) => (Exit.normal,⟨mkE 34 0 [(0,dL a)],[]⟩)) (fun (t : Bool) => (Exit.ret,⟨mkE 34 0 [(2,dB t)],[]⟩))) := .of fun K h => by
  simp only [N6r,wpW] at h
  exact .of (by kernel_rfl) h
theorem Nrd (a : List Int) : Link N4n LL (cq [0,0,1,1] (bodyOf Tryd.f42)) (aq [0,0,1,1] N17) ⟨mkE 34 0 [(0,dL a)],[]⟩ (N7m a) (fun (t : Int) => (Exit.normal,⟨mkE 34 0 [(0,dL a),(20,dI t),(21,dI 0)],[]⟩)) := .of fun K h => by
  simp only [N7m,wpW] at h
  exact .of (by kernel_rfl) h
theorem Nt1 (a : List Int) (b c : Int) : Link N4n LL (cq [0,0,1,0,1,1] (bodyOf Tryd.f42)) (aq [0,0,1,0,1,1] N17) ⟨mkE 34 0 [(0,dL a),(20,dI b),(21,dI c)],[]⟩ (N45 a b c) (Sum.elim (fun (t : Int) => (Exit.normal,⟨mkE 34 0 [(0,dL a),(20,dI b),(21,dI t)],[]⟩)) (Sum.elim (fun (t : Bool) => (Exit.ret,⟨mkE 34 0 [(2,dB t)],[]⟩)) (fun (t : Unit) => ((Exit.exit 0),⟨mkE 34 0 [],[]⟩)))) := .of fun K h => by
  simp only [N45,wpW] at h
  exact .of (by kernel_rfl) h
theorem Noj : Link N4n LL (cq [1,1,1] (bodyOf Tryd.f42)) (aq [1,1,1] N17) ⟨mkE 34 0 [],[]⟩ (Nb2) (fun (t : Bool) => (Exit.ret,⟨mkE 34 0 [(2,dB t)],[]⟩)) := .of fun K h => by
  simp only [Nb2,wpW] at h
  exact .of (by kernel_rfl) h
theorem Nn4 (b : List Int) {r : AV} {H' : Heap} (h : (Ans.mk _ (Nb b) (fun (t : Bool) => (dB t,[])) [] none).run = some (r,H')) : Awp N4n LL (bodyOf Tryd.f42) N17 ⟨mkE 34 0 [(0,dL b)],[]⟩ (Ret (tlook tys) Tryd.f42.results.toList r H') :=
  ret_of' (Link.cast (by kernel_rfl) (by kernel_rfl) (link_group (c := (cq [0,1] (bodyOf Tryd.f42))) (a := (aq [0,1] N17)) [(cq [0] (bodyOf Tryd.f42))] [(aq [0] N17)] rfl (link_seq2 (Npu b) (fun (t : Unit) => (link_seq2 (link_seq (Nrd b) (fun (t : Int) => (link_block (fin2 := (Sum.elim (fun (t11 : Unit) => (Exit.normal,⟨mkE 34 0 [],[]⟩)) (fun (t11 : Bool) => (Exit.ret,⟨mkE 34 0 [(2,dB t11)],[]⟩)))) (id := 0) (link_loop (mk := fun (s : Int) => ⟨mkE 34 0 [(0,dL b),(20,dI t),(21,dI s)],[]⟩) (fin := (Sum.elim (fun (t11 : Bool) => (Exit.ret,⟨mkE 34 0 [(2,dB t11)],[]⟩)) (fun (t11 : Unit) => ((Exit.exit 0),⟨mkE 34 0 [],[]⟩)))) (by
  rintro (t11 | t11) f K h
  · exact h
  · exact h) (fun s => link_map (Nt1 b t s) (Sum.elim (fun (t11 : Int) => Sum.inl t11) (Sum.elim (fun (t11 : Bool) => Sum.inr (Sum.inl t11)) (fun (t11 : Unit) => Sum.inr (Sum.inr t11)))) (by
  rintro (t11 | t11 | t11)
  · kernel_rfl
  · kernel_rfl
  · kernel_rfl)) 0) (Sum.elim (fun (t11 : Bool) => (Sum.inr t11)) (fun (t11 : Unit) => (Sum.inl ()))) (by
  rintro (t11 | t11) K h
  · exact Eq.mp (by kernel_rfl) h
  · exact Eq.mp (by kernel_rfl) h)))) (fun (t : Unit) => (Noj)) (fun (t : Bool) => t) (by
  rintro t
  · kernel_rfl) (by
  rintro t f K h
  · exact h))) (fun (t : Bool) => t) (by
  rintro t
  · kernel_rfl) (by
  rintro t f K h
  · exact h)))) (by unfold Nb; kernel_rfl) (by
  intro t
  exact ret_mk [dB t] (by kernel_rfl) (by kernel_rfl) (by kernel_rfl) (by kernel_rfl)) h
def N1f : Fun := fun avs H =>
  match avs,H with
  | [.dat (.list (.int .i64)) a],[] => ⟨_,Nb a,fun (t : Bool) => (dB t,[]),[],none⟩
  | _,_ => Ans.no
theorem N1u : Sound Tryd.prog 42 N1f := by
  refine fn_sound' (C := N4n) (c := bodyOf Tryd.f42) (cok_of tys_ok (allc Nmy (allc Nrb alln)) (allc Tryd.call50 (allc Tryd.call51 alln)) (by kernel_rfl)) Tryd.func42 (by kernel_rfl) LL N17 ?_
  intro avs H r H' h
  unfold N1f at h
  split at h
  · refine Awp.cast ?_ ?_ ?_ (Nn4 _ h) <;> kernel_rfl
  · simp [Ans.no,Ans.run] at h

def N15 : Ann := (.seq (.leaf [1]) (.seq (.seq (.leaf [1,14]) (.cond (.seq (.leaf [2]) (.leaf [2])) (.leaf [1]))) (.seq (.seq (.leaf [16,17,18]) (.block (.loop (.seq (.leaf [16,17,18,19]) (.seq (.cond (.leaf [16,17,18]) (.leaf [])) (.seq (.block (.seq (.leaf [4,16,17,18]) (.seq (.leaf [16,17,18,24]) (.cond (.seq (.leaf [2]) (.leaf [2])) (.leaf [16,17,18]))))) (.leaf [16,17,18]))))))) (.seq (.leaf [2]) (.leaf [2])))))
noncomputable def N3m : Ctx := ⟨tlook tys,olook [(42,N1f)],ioF,0,false,[]⟩
theorem N10a (a : List Int) (b : List (List Int)) : Link N3m LL (Code.seq (cq [0] (bodyOf Tryd.f27)) (cq [0,1] (bodyOf Tryd.f27))) (Ann.seq (aq [0] N15) (aq [0,1] N15)) ⟨mkE 26 0 [(0,.agg [dL a,.dat (.list (.list (.int .i64))) b])],[]⟩ (N6m a b) (Sum.elim (fun (t : Unit) => (Exit.normal,⟨mkE 26 0 [(1,.ptr 0 0)],[some (.box [dL a,.dat (.list (.list (.int .i64))) b])]⟩)) (fun (t : Bool) => (Exit.ret,⟨mkE 26 0 [(2,dB t)],[]⟩))) := .of fun K h => by
  simp only [N6m,wpW] at h
  exact .of (by kernel_rfl) h
theorem Nq7 (a : List Int) (b : List (List Int)) : Link N3m LL (cq [0,0,1,1] (bodyOf Tryd.f27)) (aq [0,0,1,1] N15) ⟨mkE 26 0 [(1,.ptr 0 0)],[some (.box [dL a,.dat (.list (.list (.int .i64))) b])]⟩ (N6s b) (fun (t : Int) => (Exit.normal,⟨mkE 26 0 [(16,.dat (.list (.list (.int .i64))) b),(17,dI t),(18,dI 0)],[]⟩)) := .of fun K h => by
  simp only [N6s,wpW] at h
  exact .of (by kernel_rfl) h
theorem Np8 (a : List (List Int)) (b c : Int) : Link N3m LL (cq [0,0,1,0,1,1] (bodyOf Tryd.f27)) (aq [0,0,1,0,1,1] N15) ⟨mkE 26 0 [(16,.dat (.list (.list (.int .i64))) a),(17,dI b),(18,dI c)],[]⟩ (N2d a b c) (Sum.elim (fun (t : Int) => (Exit.normal,⟨mkE 26 0 [(16,.dat (.list (.list (.int .i64))) a),(17,dI b),(18,dI t)],[]⟩)) (Sum.elim (fun (t : Bool) => (Exit.ret,⟨mkE 26 0 [(2,dB t)],[]⟩)) (fun (t : Unit) => ((Exit.exit 0),⟨mkE 26 0 [],[]⟩)))) := .of fun K h => by
  simp only [N2d,wpW] at h
  exact .of (by kernel_rfl) h
theorem Ny3 : Link N3m LL (cq [1,1,1] (bodyOf Tryd.f27)) (aq [1,1,1] N15) ⟨mkE 26 0 [],[]⟩ (Nez) (fun (t : Bool) => (Exit.ret,⟨mkE 26 0 [(2,dB t)],[]⟩)) := .of fun K h => by
  simp only [Nez,wpW] at h
  exact .of (by kernel_rfl) h
theorem Nok (b : List Int) (d : List (List Int)) {r : AV} {H' : Heap} (h : (Ans.mk _ (N1t b d) (fun (t : Bool) => (dB t,[])) [] none).run = some (r,H')) : Awp N3m LL (bodyOf Tryd.f27) N15 ⟨mkE 26 0 [(0,.agg [dL b,.dat (.list (.list (.int .i64))) d])],[]⟩ (Ret (tlook tys) Tryd.f27.results.toList r H') :=
  ret_of' (Link.cast (by kernel_rfl) (by kernel_rfl) (link_group (c := (cq [0,1] (bodyOf Tryd.f27))) (a := (aq [0,1] N15)) [(cq [0] (bodyOf Tryd.f27))] [(aq [0] N15)] rfl (link_seq2 (N10a b d) (fun (t : Unit) => (link_seq2 (link_seq (Nq7 b d) (fun (t : Int) => (link_block (fin2 := (Sum.elim (fun (t12 : Unit) => (Exit.normal,⟨mkE 26 0 [],[]⟩)) (fun (t12 : Bool) => (Exit.ret,⟨mkE 26 0 [(2,dB t12)],[]⟩)))) (id := 0) (link_loop (mk := fun (s : Int) => ⟨mkE 26 0 [(16,.dat (.list (.list (.int .i64))) d),(17,dI t),(18,dI s)],[]⟩) (fin := (Sum.elim (fun (t12 : Bool) => (Exit.ret,⟨mkE 26 0 [(2,dB t12)],[]⟩)) (fun (t12 : Unit) => ((Exit.exit 0),⟨mkE 26 0 [],[]⟩)))) (by
  rintro (t12 | t12) f K h
  · exact h
  · exact h) (fun s => link_map (Np8 d t s) (Sum.elim (fun (t12 : Int) => Sum.inl t12) (Sum.elim (fun (t12 : Bool) => Sum.inr (Sum.inl t12)) (fun (t12 : Unit) => Sum.inr (Sum.inr t12)))) (by
  rintro (t12 | t12 | t12)
  · kernel_rfl
  · kernel_rfl
  · kernel_rfl)) 0) (Sum.elim (fun (t12 : Bool) => (Sum.inr t12)) (fun (t12 : Unit) => (Sum.inl ()))) (by
  rintro (t12 | t12) K h
  · exact Eq.mp (by kernel_rfl) h
  · exact Eq.mp (by kernel_rfl) h)))) (fun (t : Unit) => (Ny3)) (fun (t : Bool) => t) (by
  rintro t
  · kernel_rfl) (by
  rintro t f K h
  · exact h))) (fun (t : Bool) => t) (by
  rintro t
  · kernel_rfl) (by
  rintro t f K h
  · exact h)))) (by unfold N1t; kernel_rfl) (by
  intro t
  exact ret_mk [dB t] (by kernel_rfl) (by kernel_rfl) (by kernel_rfl) (by kernel_rfl)) h
def N9j : Fun := fun avs H =>
  match avs,H with
  | [.agg [.dat (.list (.int .i64)) a,.dat (.list (.list (.int .i64))) b]],[] => ⟨_,N1t a b,fun (t : Bool) => (dB t,[]),[],none⟩
  | _,_ => Ans.no
theorem Ngx : Sound Tryd.prog 27 N9j := by
  refine fn_sound' (C := N3m) (c := bodyOf Tryd.f27) (cok_of tys_ok (allc N1u alln) (allc Tryd.call42 alln) (by kernel_rfl)) Tryd.func27 (by kernel_rfl) LL N15 ?_
  intro avs H r H' h
  unfold N9j at h
  split at h
  · refine Awp.cast ?_ ?_ ?_ (Nok _ _ h) <;> kernel_rfl
  · simp [Ans.no,Ans.run] at h

def Ncr : Ann := (.seq (.leaf [0]) (.seq (.seq (.leaf [3]) (.block (.seq (.leaf [3,4]) (.cond (.seq (.leaf [2]) (.leaf [2])) (.seq (.leaf [6]) (.cond (.seq (.leaf [2]) (.leaf [2])) (.leaf []))))))) (.seq (.leaf [2]) (.leaf [2]))))
noncomputable def New : Ctx := ⟨tlook tys,olook [],ioF,0,false,[]⟩
theorem Ntt (a : Int) : Link New LL (bodyOf Tryd.f43) Ncr ⟨mkE 8 0 [(0,dI a)],[]⟩ (N8b a) (fun (t : Int) => (Exit.ret,⟨mkE 8 0 [(2,dI t)],[]⟩)) := .of fun K h => by
  simp only [N8b,wpW] at h
  exact .of (by kernel_rfl) h
theorem Nky (a : Int) {r : AV} {H' : Heap} (h : (Ans.mk _ (N55 a) (fun (t : Int) => (dI t,[])) [] none).run = some (r,H')) : Awp New LL (bodyOf Tryd.f43) Ncr ⟨mkE 8 0 [(0,dI a)],[]⟩ (Ret (tlook tys) Tryd.f43.results.toList r H') :=
  ret_of' (Ntt a) (by unfold N55; kernel_rfl) (by
  intro t
  exact ret_mk [dI t] (by kernel_rfl) (by kernel_rfl) (by kernel_rfl) (by kernel_rfl)) h
def Nep : Fun := fun avs H =>
  match avs,H with
  | [.dat (.int .i64) a],[] => ⟨_,N55 a,fun (t : Int) => (dI t,[]),[],none⟩
  | _,_ => Ans.no
theorem Nud : Sound Tryd.prog 43 Nep := by
  refine fn_sound' (C := New) (c := bodyOf Tryd.f43) (cok_of tys_ok (alln) (alln) (by kernel_rfl)) Tryd.func43 (by kernel_rfl) LL Ncr ?_
  intro avs H r H' h
  unfold Nep at h
  split at h
  · refine Awp.cast ?_ ?_ ?_ (Nky _ h) <;> kernel_rfl
  · simp [Ans.no,Ans.run] at h

def Nd4 : Ann := (.seq (.leaf [1]) (.seq (.leaf [1,3]) (.seq (.leaf [2]) (.leaf [2]))))
noncomputable def Nai : Ctx := ⟨tlook tys,olook [(43,Nep)],ioF,0,false,[]⟩
theorem Ntp (a b c : Int) : Link Nai LL (bodyOf Tryd.f28) Nd4 ⟨mkE 23 0 [(0,.agg [dI a,dI b,dI c])],[]⟩ (N7g a b c) (fun (t : Bool) => (Exit.ret,⟨mkE 23 0 [(2,dB t)],[]⟩)) := .of fun K h => by
  simp only [N7g,wpW] at h
  exact .of (by kernel_rfl) h
theorem Nui (a b c : Int) {r : AV} {H' : Heap} (h : (Ans.mk _ (N4c a b c) (fun (t : Bool) => (dB t,[])) [] none).run = some (r,H')) : Awp Nai LL (bodyOf Tryd.f28) Nd4 ⟨mkE 23 0 [(0,.agg [dI a,dI b,dI c])],[]⟩ (Ret (tlook tys) Tryd.f28.results.toList r H') :=
  ret_of' (Ntp a b c) (by unfold N4c; kernel_rfl) (by
  intro t
  exact ret_mk [dB t] (by kernel_rfl) (by kernel_rfl) (by kernel_rfl) (by kernel_rfl)) h
def Nbi : Fun := fun avs H =>
  match avs,H with
  | [.agg [.dat (.int .i64) a,.dat (.int .i64) b,.dat (.int .i64) c]],[] => ⟨_,N4c a b c,fun (t : Bool) => (dB t,[]),[],none⟩
  | _,_ => Ans.no
theorem Nqj : Sound Tryd.prog 28 Nbi := by
  refine fn_sound' (C := Nai) (c := bodyOf Tryd.f28) (cok_of tys_ok (allc Nud alln) (allc Tryd.call43 alln) (by kernel_rfl)) Tryd.func28 (by kernel_rfl) LL Nd4 ?_
  intro avs H r H' h
  unfold Nbi at h
  split at h
  · refine Awp.cast ?_ ?_ ?_ (Nui _ _ _ h) <;> kernel_rfl
  · simp [Ans.no,Ans.run] at h

def ren_slices_Clone_int_int : Go.Shelf.Ren := ⟨fun | 41 => 44 | n => n,fun | 4 => 4 | 22 => 22 | 23 => 3 | n => n,fun n => n⟩
theorem lay_slices_Clone_int_int : SlLaysE0.n41 Tryd.prog ren_slices_Clone_int_int := {
  mixed := by kernel_rfl
  f41 := ⟨Tryd.f44.name,by kernel_rfl,Tryd.func44.trans (congrArg some (by kernel_rfl))⟩
  t4 := Tryd.underlying4
  a4 := Tryd.isAgg4
  z4 := Tryd.sizeOf4
  v4 := Tryd.zeroValue4
  t22 := Tryd.underlying22
  a22 := Tryd.isAgg22
  z22 := Tryd.sizeOf22
  v22 := Tryd.zeroValue22 }
def Nau : Fun := F_cloneD
theorem Ni6 : Sound Tryd.prog 44 Nau := cloneD_sound lay_slices_Clone_int_int (infoOf (Tryd.prog.info? 3)) (.int .i64 0) 8 (by kernel_rfl) (by kernel_rfl) (by kernel_rfl) (by kernel_rfl) (by kernel_rfl) (by decide) Tryd.sizeOf3

def N14 : Ann := (.seq (.leaf [0,1,4]) (.seq (.leaf [1,4,5]) (.seq (.seq (.leafF [⟨3,5,true,some 1,some (.int .i64)⟩] [4,5,11,12,13]) (.block (.loop (.seq (.leaf [4,5,11,12,13,14]) (.seq (.cond (.leaf [4,5,11,12,13]) (.leaf [4,5])) (.seq (.block (.seq (.leaf [4,5,7,11,12,13]) (.draw [3,100005] [0,1,2,3,4,5,6,7] [] [4,5,11,12,13]))) (.leaf [4,5,11,12,13]))))))) (.seq (.leaf [4]) (.leaf [4])))))
noncomputable def N4k : Ctx := ⟨tlook tys,olook [(44,Nau)],ioF,0,true,[]⟩
theorem Nrx (a : List Int) (b : List (List Int)) : Link N4k LL (Code.seq (cq [0] (bodyOf Tryd.f29)) (cq [0,1] (bodyOf Tryd.f29))) (Ann.seq (aq [0] N14) (aq [0,1] N14)) ⟨mkE 26 0 [(0,dL a),(1,.dat (.list (.list (.int .i64))) b)],[]⟩ (N9r a) (fun (t : (List Int)) => (Exit.normal,⟨mkE 26 0 [(1,.dat (.list (.list (.int .i64))) b),(4,.ptr 0 0),(5,.ptr 1 0)],[some (.box [.nils,.nils]),some (.box [.slc 2,.nils]),some (sI t)]⟩)) := .of fun K h => by
  simp only [N9r,wpW] at h
  exact .of (by kernel_rfl) h
theorem Nxk (a : List (List Int)) (b : List Int) : Link N4k LL (cq [0,0,1,1] (bodyOf Tryd.f29)) (aq [0,0,1,1] N14) ⟨mkE 26 0 [(1,.dat (.list (.list (.int .i64))) a),(4,.ptr 0 0),(5,.ptr 1 0)],[some (.box [.nils,.nils]),some (.box [.slc 2,.nils]),some (sI b)]⟩ (N9n a) (fun (t : Int) => (Exit.normal,⟨mkE 26 0 [(4,.ptr 0 0),(5,.ptr 1 0),(11,.dat (.list (.list (.int .i64))) a),(12,dI t),(13,dI 0)],[some (.box [.nils,.nils]),some (.box [.slc 2,.slc 3]),some (sI b),some (.nest (.int .i64) ([] : List (List Int)) 0 [])]⟩)) := .of fun K h => by
  simp only [N9n,wpW] at h
  exact .of (by kernel_rfl) h
theorem Nqo (a : List (List Int)) (b c : Int) (d : List Int) (g : List (List Int)) : Link N4k LL (cq [0,0,1,0,1,1] (bodyOf Tryd.f29)) (aq [0,0,1,0,1,1] N14) ⟨mkE 26 0 [(4,.ptr 0 0),(5,.ptr 1 0),(11,.dat (.list (.list (.int .i64))) a),(12,dI b),(13,dI c)],[some (.box [.nils,.nils]),some (.box [.slc 2,.slc 3]),some (sI d),some (.nest (.int .i64) g 0 [])]⟩ (N3d a b c g) (Sum.elim (fun (t : Int × (List (List Int))) => (Exit.normal,⟨mkE 26 0 [(4,.ptr 0 0),(5,.ptr 1 0),(11,.dat (.list (.list (.int .i64))) a),(12,dI b),(13,dI t.1)],[some (.box [.nils,.nils]),some (.box [.slc 2,.slc 3]),some (sI d),some (.nest (.int .i64) t.2 0 [])]⟩)) (fun (t : (List (List Int))) => ((Exit.exit 0),⟨mkE 26 0 [(4,.ptr 0 0),(5,.ptr 1 0)],[some (.box [.nils,.nils]),some (.box [.slc 2,.slc 3]),some (sI d),some (.nest (.int .i64) t 0 [])]⟩))) := .of fun K h => by
  simp only [N3d,wpW] at h
  exact .of (by kernel_rfl) h
theorem Nlp (a : List Int) (b : List (List Int)) : Link N4k LL (cq [1,1,1] (bodyOf Tryd.f29)) (aq [1,1,1] N14) ⟨mkE 26 0 [(4,.ptr 0 0),(5,.ptr 1 0)],[some (.box [.nils,.nils]),some (.box [.slc 2,.slc 3]),some (sI a),some (.nest (.int .i64) b 0 [])]⟩ (N6g a b) (fun (t : (List Int) × (List (List Int))) => (Exit.ret,⟨mkE 26 0 [(4,.ptr 0 0)],[some (.box [.slc 1,.slc 2]),some (sI t.1),some (.nest (.int .i64) t.2 0 [])]⟩)) := .of fun K h => by
  simp only [N6g,wpW] at h
  exact .of (by kernel_rfl) h
theorem Nz2 (b : List Int) (d : List (List Int)) {r : AV} {H' : Heap} (h : (Ans.mk _ (N9 b d) (fun (t : (List Int) × (List (List Int))) => (.agg [.slc 1,.slc 2],[some (.box [.slc 1,.slc 2]),some (sI t.1),some (.nest (.int .i64) t.2 0 [])])) [] none).run = some (r,H')) : Awp N4k LL (bodyOf Tryd.f29) N14 ⟨mkE 26 0 [(0,dL b),(1,.dat (.list (.list (.int .i64))) d)],[]⟩ (Ret (tlook tys) Tryd.f29.results.toList r H') :=
  ret_of' (Link.cast (by kernel_rfl) (by kernel_rfl) (link_group (c := (cq [0,1] (bodyOf Tryd.f29))) (a := (aq [0,1] N14)) [(cq [0] (bodyOf Tryd.f29))] [(aq [0] N14)] rfl (link_seq (Nrx b d) (fun (t : (List Int)) => (link_seq (link_seq (Nxk d t) (fun (t37 : Int) => (link_block (fin2 := (fun (t13 : (List (List Int))) => (Exit.normal,⟨mkE 26 0 [(4,.ptr 0 0),(5,.ptr 1 0)],[some (.box [.nils,.nils]),some (.box [.slc 2,.slc 3]),some (sI t),some (.nest (.int .i64) t13 0 [])]⟩))) (id := 0) (link_loop (mk := fun (s : Int × (List (List Int))) => ⟨mkE 26 0 [(4,.ptr 0 0),(5,.ptr 1 0),(11,.dat (.list (.list (.int .i64))) d),(12,dI t37),(13,dI s.1)],[some (.box [.nils,.nils]),some (.box [.slc 2,.slc 3]),some (sI t),some (.nest (.int .i64) s.2 0 [])]⟩) (fin := (fun (t13 : (List (List Int))) => ((Exit.exit 0),⟨mkE 26 0 [(4,.ptr 0 0),(5,.ptr 1 0)],[some (.box [.nils,.nils]),some (.box [.slc 2,.slc 3]),some (sI t),some (.nest (.int .i64) t13 0 [])]⟩))) (by
  rintro t13 f K h
  · exact h) (fun s => link_map (Nqo d t37 s.1 t s.2) (Sum.elim (fun (t13 : Int × (List (List Int))) => Sum.inl (t13.1,t13.2)) (fun (t13 : (List (List Int))) => Sum.inr t13)) (by
  rintro (t13 | t13)
  · kernel_rfl
  · kernel_rfl)) (0,([] : List (List Int)))) (fun (t13 : (List (List Int))) => t13) (by
  rintro t13 K h
  · exact Eq.mp (by kernel_rfl) h)))) (fun (t37 : (List (List Int))) => (Nlp t t37))))))) (by unfold N9; kernel_rfl) (by
  intro t
  exact ret_mk [.agg [.slc 1,.slc 2]] (by kernel_rfl) (by kernel_rfl) (by kernel_rfl) (by kernel_rfl)) h
def N4h : Fun := fun avs H =>
  match avs,H with
  | [.dat (.list (.int .i64)) a,.dat (.list (.list (.int .i64))) b],[] => ⟨_,N9 a b,fun (t : (List Int) × (List (List Int))) => (.agg [.slc 1,.slc 2],[some (.box [.slc 1,.slc 2]),some (sI t.1),some (.nest (.int .i64) t.2 0 [])]),[],none⟩
  | _,_ => Ans.no
theorem N6c : Sound Tryd.prog 29 N4h := by
  refine fn_sound' (C := N4k) (c := bodyOf Tryd.f29) (cok_of tys_ok (allc Ni6 alln) (allc Tryd.call44 alln) (by kernel_rfl)) Tryd.func29 (by kernel_rfl) LL N14 ?_
  intro avs H r H' h
  unfold N4h at h
  split at h
  · refine Awp.cast ?_ ?_ ?_ (Nz2 _ _ h) <;> kernel_rfl
  · simp [Ans.no,Ans.run] at h

def Ndu : Ann := (.seq (.leaf [1,2]) (.seq (.leaf [1,2,4]) (.seq (.seq (.leaf [1,2,4,10]) (.cond (.seq (.leaf [2,3]) (.leaf [2,3])) (.leaf [1,2,4]))) (.seq (.draw [9] [0,1,2,3,4,5,6,7,8,9,10,11] [] [2,3]) (.leaf [2,3])))))
noncomputable def Nb8 : Ctx := ⟨tlook tys,olook [(29,N4h)],ioF,0,true,[]⟩
theorem Ntr (a : List Int) (b : List (List Int)) : Link Nb8 LL (bodyOf Tryd.f30) Ndu ⟨mkE 24 0 [(0,.agg [dL a,.dat (.list (.list (.int .i64))) b])],[]⟩ (N59 a b) (fun (t : Bool × (List Int) × (List (List Int))) => (Exit.ret,⟨mkE 24 0 [(2,.ptr 0 0),(3,dB t.1)],[some (.box [.slc 1,.slc 2]),some (sI t.2.1),some (.nest (.int .i64) t.2.2 0 [])]⟩)) := .of fun K h => by
  simp only [N59,wpW] at h
  exact .of (by kernel_rfl) h
theorem Nl9 (a : List Int) (b : List (List Int)) {r : AV} {H' : Heap} (h : (Ans.mk _ (N2v a b) (fun (t : Bool × (List Int) × (List (List Int))) => (.tup [.agg [.slc 1,.slc 2],dB t.1],[some (.box [.slc 1,.slc 2]),some (sI t.2.1),some (.nest (.int .i64) t.2.2 0 [])])) [] none).run = some (r,H')) : Awp Nb8 LL (bodyOf Tryd.f30) Ndu ⟨mkE 24 0 [(0,.agg [dL a,.dat (.list (.list (.int .i64))) b])],[]⟩ (Ret (tlook tys) Tryd.f30.results.toList r H') :=
  ret_of' (Ntr a b) (by unfold N2v; kernel_rfl) (by
  intro t
  exact ret_mk [.agg [.slc 1,.slc 2],dB t.1] (by kernel_rfl) (by kernel_rfl) (by kernel_rfl) (by kernel_rfl)) h
def Ndl : Fun := fun avs H =>
  match avs,H with
  | [.agg [.dat (.list (.int .i64)) a,.dat (.list (.list (.int .i64))) b]],[] => ⟨_,N2v a b,fun (t : Bool × (List Int) × (List (List Int))) => (.tup [.agg [.slc 1,.slc 2],dB t.1],[some (.box [.slc 1,.slc 2]),some (sI t.2.1),some (.nest (.int .i64) t.2.2 0 [])]),[],none⟩
  | _,_ => Ans.no
theorem Nzq : Sound Tryd.prog 30 Ndl := by
  refine fn_sound' (C := Nb8) (c := bodyOf Tryd.f30) (cok_of tys_ok (allc N6c alln) (allc Tryd.call29 alln) (by kernel_rfl)) Tryd.func30 (by kernel_rfl) LL Ndu ?_
  intro avs H r H' h
  unfold Ndl at h
  split at h
  · refine Awp.cast ?_ ?_ ?_ (Nl9 _ _ h) <;> kernel_rfl
  · simp [Ans.no,Ans.run] at h

def Nca : Ann := (.seq (.leaf [0,1]) (.seq (.leaf [4]) (.leaf [4])))
noncomputable def Nc8 : Ctx := ⟨tlook tys,olook [(42,N1f)],ioF,0,false,[]⟩
theorem Nvj (a : List Int) (b : Int) : Link Nc8 LL (bodyOf Tryd.f52) Nca ⟨mkE 17 0 [(0,dL a),(1,dI b)],[]⟩ (N51 a b) (fun (t : Bool) => (Exit.ret,⟨mkE 17 0 [(4,dB t)],[]⟩)) := .of fun K h => by
  simp only [N51,wpW] at h
  exact .of (by kernel_rfl) h
theorem Npf (a : List Int) (b : Int) {r : AV} {H' : Heap} (h : (Ans.mk _ (N24 a b) (fun (t : Bool) => (dB t,[])) [] none).run = some (r,H')) : Awp Nc8 LL (bodyOf Tryd.f52) Nca ⟨mkE 17 0 [(0,dL a),(1,dI b)],[]⟩ (Ret (tlook tys) Tryd.f52.results.toList r H') :=
  ret_of' (Nvj a b) (by unfold N24; kernel_rfl) (by
  intro t
  exact ret_mk [dB t] (by kernel_rfl) (by kernel_rfl) (by kernel_rfl) (by kernel_rfl)) h
def Ndz : Fun := fun avs H =>
  match avs,H with
  | [.dat (.list (.int .i64)) a,.dat (.int .i64) b],[] => ⟨_,N24 a b,fun (t : Bool) => (dB t,[]),[],none⟩
  | _,_ => Ans.no
theorem Nwt : Sound Tryd.prog 52 Ndz := by
  refine fn_sound' (C := Nc8) (c := bodyOf Tryd.f52) (cok_of tys_ok (allc N1u alln) (allc Tryd.call42 alln) (by kernel_rfl)) Tryd.func52 (by kernel_rfl) LL Nca ?_
  intro avs H r H' h
  unfold Ndz at h
  split at h
  · refine Awp.cast ?_ ?_ ?_ (Npf _ _ h) <;> kernel_rfl
  · simp [Ans.no,Ans.run] at h

def N12 : Ann := (.seq (.leaf [0]) (.seq (.leaf [0,3]) (.seq (.seq (.leaf [0,3,8,9]) (.block (.loop (.seq (.leaf [0,3,8,9,10]) (.seq (.cond (.leaf [0,3,8,9]) (.leaf [3])) (.seq (.block (.seq (.leaf [0,3,4,8,9]) (.leaf [0,3,8,9]))) (.leaf [0,3,8,9]))))))) (.seq (.leaf [2]) (.leaf [2])))))
noncomputable def N37 : Ctx := ⟨tlook tys,olook [],ioF,0,false,[]⟩
theorem N106 (a : Int) : Link N37 LL (Code.seq (cq [0] (bodyOf Tryd.f60)) (cq [0,1] (bodyOf Tryd.f60))) (Ann.seq (aq [0] N12) (aq [0,1] N12)) ⟨mkE 20 0 [(0,dI a)],[]⟩ (N9m a) (fun (t : (List Int)) => (Exit.normal,⟨mkE 20 0 [(0,dI a),(3,.slc 0)],[some (sI t)]⟩)) := .of fun K h => by
  simp only [N9m,wpW] at h
  exact .of (by kernel_rfl) h
theorem Nnm (a : Int) (b : List Int) : Link N37 LL (cq [0,0,1,1] (bodyOf Tryd.f60)) (aq [0,0,1,1] N12) ⟨mkE 20 0 [(0,dI a),(3,.slc 0)],[some (sI b)]⟩ (N79 b) (fun (t : Int) => (Exit.normal,⟨mkE 20 0 [(0,dI a),(3,.slc 0),(8,dI t),(9,dI 0)],[some (sI b)]⟩)) := .of fun K h => by
  simp only [N79,wpW] at h
  exact .of (by kernel_rfl) h
theorem Nor (a b c : Int) (d : List Int) : Link N37 LL (cq [0,0,1,0,1,1] (bodyOf Tryd.f60)) (aq [0,0,1,0,1,1] N12) ⟨mkE 20 0 [(0,dI a),(3,.slc 0),(8,dI b),(9,dI c)],[some (sI d)]⟩ (N3q a b c d) (Sum.elim (fun (t : Int × (List Int)) => (Exit.normal,⟨mkE 20 0 [(0,dI a),(3,.slc 0),(8,dI b),(9,dI t.1)],[some (sI t.2)]⟩)) (fun (t : (List Int)) => ((Exit.exit 0),⟨mkE 20 0 [(3,.slc 0)],[some (sI t)]⟩))) := .of fun K h => by
  simp only [N3q,wpW] at h
  exact .of (by kernel_rfl) h
theorem Npm (a : List Int) : Link N37 LL (cq [1,1,1] (bodyOf Tryd.f60)) (aq [1,1,1] N12) ⟨mkE 20 0 [(3,.slc 0)],[some (sI a)]⟩ (N8l a) (fun (t : (List Int)) => (Exit.ret,⟨mkE 20 0 [(2,.slc 0)],[some (sI t)]⟩)) := .of fun K h => by
  simp only [N8l,wpW] at h
  exact .of (by kernel_rfl) h
theorem Nu4 (b : Int) {r : AV} {H' : Heap} (h : (Ans.mk _ (N1w b) (fun (t : (List Int)) => (.slc 0,[some (sI t)])) [] none).run = some (r,H')) : Awp N37 LL (bodyOf Tryd.f60) N12 ⟨mkE 20 0 [(0,dI b)],[]⟩ (Ret (tlook tys) Tryd.f60.results.toList r H') :=
  ret_of' (Link.cast (by kernel_rfl) (by kernel_rfl) (link_group (c := (cq [0,1] (bodyOf Tryd.f60))) (a := (aq [0,1] N12)) [(cq [0] (bodyOf Tryd.f60))] [(aq [0] N12)] rfl (link_seq (N106 b) (fun (t : (List Int)) => (link_seq (link_seq (Nnm b t) (fun (t38 : Int) => (link_block (fin2 := (fun (t14 : (List Int)) => (Exit.normal,⟨mkE 20 0 [(3,.slc 0)],[some (sI t14)]⟩))) (id := 0) (link_loop (mk := fun (s : Int × (List Int)) => ⟨mkE 20 0 [(0,dI b),(3,.slc 0),(8,dI t38),(9,dI s.1)],[some (sI s.2)]⟩) (fin := (fun (t14 : (List Int)) => ((Exit.exit 0),⟨mkE 20 0 [(3,.slc 0)],[some (sI t14)]⟩))) (by
  rintro t14 f K h
  · exact h) (fun s => link_map (Nor b t38 s.1 s.2) (Sum.elim (fun (t14 : Int × (List Int)) => Sum.inl (t14.1,t14.2)) (fun (t14 : (List Int)) => Sum.inr t14)) (by
  rintro (t14 | t14)
  · kernel_rfl
  · kernel_rfl)) (0,t)) (fun (t14 : (List Int)) => t14) (by
  rintro t14 K h
  · exact Eq.mp (by kernel_rfl) h)))) (fun (t38 : (List Int)) => (Npm t38))))))) (by unfold N1w; kernel_rfl) (by
  intro t
  exact ret_mk [.slc 0] (by kernel_rfl) (by kernel_rfl) (by kernel_rfl) (by kernel_rfl)) h
def Ncx : Fun := fun avs H =>
  match avs,H with
  | [.dat (.int .i64) a],[] => ⟨_,N1w a,fun (t : (List Int)) => (.slc 0,[some (sI t)]),[],none⟩
  | _,_ => Ans.no
theorem Nwc : Sound Tryd.prog 60 Ncx := by
  refine fn_sound' (C := N37) (c := bodyOf Tryd.f60) (cok_of tys_ok (alln) (alln) (by kernel_rfl)) Tryd.func60 (by kernel_rfl) LL N12 ?_
  intro avs H r H' h
  unfold Ncx at h
  split at h
  · refine Awp.cast ?_ ?_ ?_ (Nu4 _ h) <;> kernel_rfl
  · simp [Ans.no,Ans.run] at h

def Nl : Ann := (.seq (.leaf [0,1]) (.seq (.seq (.leaf [0,1,19]) (.cond (.seq (.leaf [4]) (.leaf [4])) (.leaf [0,1]))) (.seq (.leaf [0,1,5]) (.seq (.seq (.leaf [1,5,20,21,22]) (.block (.loop (.seq (.leaf [1,5,20,21,22,23]) (.seq (.cond (.leaf [1,5,20,21,22]) (.leaf [])) (.seq (.block (.seq (.leaf [1,5,7,20,21,22]) (.seq (.seq (.leaf [1,5,7,20,21,22,37]) (.cond (.seq (.leaf [4]) (.leaf [4])) (.leaf [1,5,7,20,21,22]))) (.leaf [1,5,20,21,22])))) (.leaf [1,5,20,21,22]))))))) (.seq (.leaf [4]) (.leaf [4]))))))
noncomputable def N3u : Ctx := ⟨tlook tys,olook [],ioF,0,false,[]⟩
theorem Nz6 (a : List Int) (b : Int) : Link N3u LL (Code.seq (cq [0] (bodyOf Tryd.f62)) (Code.seq (cq [0,1] (bodyOf Tryd.f62)) (cq [0,1,1] (bodyOf Tryd.f62)))) (Ann.seq (aq [0] Nl) (Ann.seq (aq [0,1] Nl) (aq [0,1,1] Nl))) ⟨mkE 41 0 [(0,dL a),(1,dI b)],[]⟩ (N9t a b) (Sum.elim (fun (t : Unit) => (Exit.normal,⟨mkE 41 0 [(0,dL a),(1,dI b),(5,.ptr 0 0)],[some (.seq .bool (List.replicate 9 false))]⟩)) (fun (t : Bool) => (Exit.ret,⟨mkE 41 0 [(4,dB t)],[]⟩))) := .of fun K h => by
  simp only [N9t,wpW] at h
  exact .of (by kernel_rfl) h
theorem Nsn (a : List Int) (b : Int) : Link N3u LL (cq [0,0,1,1,1] (bodyOf Tryd.f62)) (aq [0,0,1,1,1] Nl) ⟨mkE 41 0 [(0,dL a),(1,dI b),(5,.ptr 0 0)],[some (.seq .bool (List.replicate 9 false))]⟩ (N86 a) (fun (t : Int) => (Exit.normal,⟨mkE 41 0 [(1,dI b),(5,.ptr 0 0),(20,dL a),(21,dI t),(22,dI 0)],[some (.seq .bool (List.replicate 9 false))]⟩)) := .of fun K h => by
  simp only [N86,wpW] at h
  exact .of (by kernel_rfl) h
theorem Nwl (a : Int) (b : List Int) (c d : Int) (g : List Bool) : Link N3u LL (cq [0,0,1,0,1,1,1] (bodyOf Tryd.f62)) (aq [0,0,1,0,1,1,1] Nl) ⟨mkE 41 0 [(1,dI a),(5,.ptr 0 0),(20,dL b),(21,dI c),(22,dI d)],[some (.seq .bool g)]⟩ (N4z a b c d g) (Sum.elim (fun (t : Int × (List Bool)) => (Exit.normal,⟨mkE 41 0 [(1,dI a),(5,.ptr 0 0),(20,dL b),(21,dI c),(22,dI t.1)],[some (.seq .bool t.2)]⟩)) (Sum.elim (fun (t : Bool) => (Exit.ret,⟨mkE 41 0 [(4,dB t)],[]⟩)) (fun (t : Unit) => ((Exit.exit 0),⟨mkE 41 0 [],[]⟩)))) := .of fun K h => by
  simp only [N4z,wpW] at h
  exact .of (by kernel_rfl) h
theorem Nrq : Link N3u LL (cq [1,1,1,1] (bodyOf Tryd.f62)) (aq [1,1,1,1] Nl) ⟨mkE 41 0 [],[]⟩ (N6f) (fun (t : Bool) => (Exit.ret,⟨mkE 41 0 [(4,dB t)],[]⟩)) := .of fun K h => by
  simp only [N6f,wpW] at h
  exact .of (by kernel_rfl) h
theorem Nln (b : List Int) (d : Int) {r : AV} {H' : Heap} (h : (Ans.mk _ (N49 b d) (fun (t : Bool) => (dB t,[])) [] none).run = some (r,H')) : Awp N3u LL (bodyOf Tryd.f62) Nl ⟨mkE 41 0 [(0,dL b),(1,dI d)],[]⟩ (Ret (tlook tys) Tryd.f62.results.toList r H') :=
  ret_of' (Link.cast (by kernel_rfl) (by kernel_rfl) (link_group (c := (cq [0,1,1] (bodyOf Tryd.f62))) (a := (aq [0,1,1] Nl)) [(cq [0] (bodyOf Tryd.f62)),(cq [0,1] (bodyOf Tryd.f62))] [(aq [0] Nl),(aq [0,1] Nl)] rfl (link_seq2 (Nz6 b d) (fun (t : Unit) => (link_seq2 (link_seq (Nsn b d) (fun (t : Int) => (link_block (fin2 := (Sum.elim (fun (t15 : Unit) => (Exit.normal,⟨mkE 41 0 [],[]⟩)) (fun (t15 : Bool) => (Exit.ret,⟨mkE 41 0 [(4,dB t15)],[]⟩)))) (id := 0) (link_loop (mk := fun (s : Int × (List Bool)) => ⟨mkE 41 0 [(1,dI d),(5,.ptr 0 0),(20,dL b),(21,dI t),(22,dI s.1)],[some (.seq .bool s.2)]⟩) (fin := (Sum.elim (fun (t15 : Bool) => (Exit.ret,⟨mkE 41 0 [(4,dB t15)],[]⟩)) (fun (t15 : Unit) => ((Exit.exit 0),⟨mkE 41 0 [],[]⟩)))) (by
  rintro (t15 | t15) f K h
  · exact h
  · exact h) (fun s => link_map (Nwl d b t s.1 s.2) (Sum.elim (fun (t15 : Int × (List Bool)) => Sum.inl (t15.1,t15.2)) (Sum.elim (fun (t15 : Bool) => Sum.inr (Sum.inl t15)) (fun (t15 : Unit) => Sum.inr (Sum.inr t15)))) (by
  rintro (t15 | t15 | t15)
  · kernel_rfl
  · kernel_rfl
  · kernel_rfl)) (0,(List.replicate 9 false))) (Sum.elim (fun (t15 : Bool) => (Sum.inr t15)) (fun (t15 : Unit) => (Sum.inl ()))) (by
  rintro (t15 | t15) K h
  · exact Eq.mp (by kernel_rfl) h
  · exact Eq.mp (by kernel_rfl) h)))) (fun (t : Unit) => (Nrq)) (fun (t : Bool) => t) (by
  rintro t
  · kernel_rfl) (by
  rintro t f K h
  · exact h))) (fun (t : Bool) => t) (by
  rintro t
  · kernel_rfl) (by
  rintro t f K h
  · exact h)))) (by unfold N49; kernel_rfl) (by
  intro t
  exact ret_mk [dB t] (by kernel_rfl) (by kernel_rfl) (by kernel_rfl) (by kernel_rfl)) h
def Nda : Fun := fun avs H =>
  match avs,H with
  | [.dat (.list (.int .i64)) a,.dat (.int .i64) b],[] => ⟨_,N49 a b,fun (t : Bool) => (dB t,[]),[],none⟩
  | _,_ => Ans.no
theorem Nle : Sound Tryd.prog 62 Nda := by
  refine fn_sound' (C := N3u) (c := bodyOf Tryd.f62) (cok_of tys_ok (alln) (alln) (by kernel_rfl)) Tryd.func62 (by kernel_rfl) LL Nl ?_
  intro avs H r H' h
  unfold Nda at h
  split at h
  · refine Awp.cast ?_ ?_ ?_ (Nln _ _ h) <;> kernel_rfl
  · simp [Ans.no,Ans.run] at h

def Nt : Ann := (.seq (.leaf [0]) (.seq (.leaf [0,3]) (.seq (.seq (.leaf [3,10,11,12]) (.block (.loop (.seq (.leaf [3,10,11,12,13]) (.seq (.cond (.leaf [3,10,11,12]) (.leaf [3])) (.seq (.block (.seq (.leaf [3,4,5,10,11,12]) (.leaf [3,10,11,12]))) (.leaf [3,10,11,12]))))))) (.seq (.leaf [2]) (.leaf [2])))))
noncomputable def N4o : Ctx := ⟨tlook tys,olook [],ioF,0,false,[]⟩
theorem Nx8 (a : List Int) : Link N4o LL (Code.seq (cq [0] (bodyOf Tryd.f63)) (cq [0,1] (bodyOf Tryd.f63))) (Ann.seq (aq [0] Nt) (aq [0,1] Nt)) ⟨mkE 24 0 [(0,dL a)],[]⟩ (N6x a) (fun (t : (List Int)) => (Exit.normal,⟨mkE 24 0 [(0,dL a),(3,.slc 0)],[some (sI t)]⟩)) := .of fun K h => by
  simp only [N6x,wpW] at h
  exact .of (by kernel_rfl) h
theorem Nr7 (a b : List Int) : Link N4o LL (cq [0,0,1,1] (bodyOf Tryd.f63)) (aq [0,0,1,1] Nt) ⟨mkE 24 0 [(0,dL a),(3,.slc 0)],[some (sI b)]⟩ (N8y a) (fun (t : Int) => (Exit.normal,⟨mkE 24 0 [(3,.slc 0),(10,dL a),(11,dI t),(12,dI 0)],[some (sI b)]⟩)) := .of fun K h => by
  simp only [N8y,wpW] at h
  exact .of (by kernel_rfl) h
theorem Nzt (a : List Int) (b c : Int) (d : List Int) : Link N4o LL (cq [0,0,1,0,1,1] (bodyOf Tryd.f63)) (aq [0,0,1,0,1,1] Nt) ⟨mkE 24 0 [(3,.slc 0),(10,dL a),(11,dI b),(12,dI c)],[some (sI d)]⟩ (N4q a b c d) (Sum.elim (fun (t : Int × (List Int)) => (Exit.normal,⟨mkE 24 0 [(3,.slc 0),(10,dL a),(11,dI b),(12,dI t.1)],[some (sI t.2)]⟩)) (fun (t : (List Int)) => ((Exit.exit 0),⟨mkE 24 0 [(3,.slc 0)],[some (sI t)]⟩))) := .of fun K h => by
  simp only [N4q,wpW] at h
  exact .of (by kernel_rfl) h
theorem Nqd (a : List Int) : Link N4o LL (cq [1,1,1] (bodyOf Tryd.f63)) (aq [1,1,1] Nt) ⟨mkE 24 0 [(3,.slc 0)],[some (sI a)]⟩ (N7f a) (fun (t : (List Int)) => (Exit.ret,⟨mkE 24 0 [(2,.slc 0)],[some (sI t)]⟩)) := .of fun K h => by
  simp only [N7f,wpW] at h
  exact .of (by kernel_rfl) h
theorem Nu1 (b : List Int) {r : AV} {H' : Heap} (h : (Ans.mk _ (N35 b) (fun (t : (List Int)) => (.slc 0,[some (sI t)])) [] none).run = some (r,H')) : Awp N4o LL (bodyOf Tryd.f63) Nt ⟨mkE 24 0 [(0,dL b)],[]⟩ (Ret (tlook tys) Tryd.f63.results.toList r H') :=
  ret_of' (Link.cast (by kernel_rfl) (by kernel_rfl) (link_group (c := (cq [0,1] (bodyOf Tryd.f63))) (a := (aq [0,1] Nt)) [(cq [0] (bodyOf Tryd.f63))] [(aq [0] Nt)] rfl (link_seq (Nx8 b) (fun (t : (List Int)) => (link_seq (link_seq (Nr7 b t) (fun (t39 : Int) => (link_block (fin2 := (fun (t16 : (List Int)) => (Exit.normal,⟨mkE 24 0 [(3,.slc 0)],[some (sI t16)]⟩))) (id := 0) (link_loop (mk := fun (s : Int × (List Int)) => ⟨mkE 24 0 [(3,.slc 0),(10,dL b),(11,dI t39),(12,dI s.1)],[some (sI s.2)]⟩) (fin := (fun (t16 : (List Int)) => ((Exit.exit 0),⟨mkE 24 0 [(3,.slc 0)],[some (sI t16)]⟩))) (by
  rintro t16 f K h
  · exact h) (fun s => link_map (Nzt b t39 s.1 s.2) (Sum.elim (fun (t16 : Int × (List Int)) => Sum.inl (t16.1,t16.2)) (fun (t16 : (List Int)) => Sum.inr t16)) (by
  rintro (t16 | t16)
  · kernel_rfl
  · kernel_rfl)) (0,t)) (fun (t16 : (List Int)) => t16) (by
  rintro t16 K h
  · exact Eq.mp (by kernel_rfl) h)))) (fun (t39 : (List Int)) => (Nqd t39))))))) (by unfold N35; kernel_rfl) (by
  intro t
  exact ret_mk [.slc 0] (by kernel_rfl) (by kernel_rfl) (by kernel_rfl) (by kernel_rfl)) h
def Ndb : Fun := fun avs H =>
  match avs,H with
  | [.dat (.list (.int .i64)) a],[] => ⟨_,N35 a,fun (t : (List Int)) => (.slc 0,[some (sI t)]),[],none⟩
  | _,_ => Ans.no
theorem No7 : Sound Tryd.prog 63 Ndb := by
  refine fn_sound' (C := N4o) (c := bodyOf Tryd.f63) (cok_of tys_ok (alln) (alln) (by kernel_rfl)) Tryd.func63 (by kernel_rfl) LL Nt ?_
  intro avs H r H' h
  unfold Ndb at h
  split at h
  · refine Awp.cast ?_ ?_ ?_ (Nu1 _ h) <;> kernel_rfl
  · simp [Ans.no,Ans.run] at h

def Naw : Ann := (.seq (.leaf [0,1]) (.seq (.leaf [3]) (.leaf [3])))
noncomputable def Ne5 : Ctx := ⟨tlook tys,olook [],ioF,2,false,[]⟩
theorem Nw2 (a : Int) (b : List Int) : Link Ne5 LL (bodyOf Tryd.f65) Naw ⟨mkE 8 0 [(0,dI a),(1,.ptr 0 0)],[some (.box [.slc 1]),some (sI b)]⟩ (N7v a b) (fun (t : Int) => (Exit.ret,⟨mkE 8 0 [(3,dI t)],[some (.box [.slc 1]),some (sI b)]⟩)) := .of fun K h => by
  simp only [N7v,wpW] at h
  exact .of (by kernel_rfl) h
theorem Nzr (a : Int) (b : List Int) {r : AV} {H' : Heap} (h : (Ans.mk _ (N3b a b) (fun (t : Int) => (dI t,[some (.box [.slc 1]),some (sI b)])) [] none).run = some (r,H')) : Awp Ne5 LL (bodyOf Tryd.f65) Naw ⟨mkE 8 0 [(0,dI a),(1,.ptr 0 0)],[some (.box [.slc 1]),some (sI b)]⟩ (Ret (tlook tys) Tryd.f65.results.toList r H') :=
  ret_of' (Nw2 a b) (by unfold N3b; kernel_rfl) (by
  intro t
  exact ret_mk [dI t] (by kernel_rfl) (by kernel_rfl) (by kernel_rfl) (by kernel_rfl)) h
def Ncy : Fun := fun avs H =>
  match avs,H with
  | [.dat (.int .i64) a,.ptr 0 0],[some (.box [.slc 1]),some (.seq (.int .i64) b)] => ⟨_,N3b a b,fun (t : Int) => (dI t,[some (.box [.slc 1]),some (sI b)]),[],none⟩
  | _,_ => Ans.no
theorem Nt0 : Sound Tryd.prog 65 Ncy := by
  refine fn_sound' (C := Ne5) (c := bodyOf Tryd.f65) (cok_of tys_ok (alln) (alln) (by kernel_rfl)) Tryd.func65 (by kernel_rfl) LL Naw ?_
  intro avs H r H' h
  unfold Ncy at h
  split at h
  · refine Awp.cast ?_ ?_ ?_ (Nzr _ _ h) <;> kernel_rfl
  · simp [Ans.no,Ans.run] at h

def N11 : Ann := (.seq (.leaf [0,1,2]) (.seq (.leaf [0,1,2,7]) (.seq (.seq (.leaf [0,2,7,13,14,15]) (.block (.loop (.seq (.leaf [0,2,7,13,14,15,16]) (.seq (.cond (.leaf [0,2,7,13,14,15]) (.leaf [7])) (.seq (.block (.seq (.leaf [0,2,7,8,9,13,14,15]) (.leaf [0,2,7,13,14,15]))) (.leaf [0,2,7,13,14,15]))))))) (.seq (.leaf [6]) (.leaf [6])))))
noncomputable def N2x : Ctx := ⟨tlook tys,olook [(65,Ncy)],ioF,2,false,[]⟩
theorem Nxj (a b c : List Int) : Link N2x LL (Code.seq (cq [0] (bodyOf Tryd.f64)) (cq [0,1] (bodyOf Tryd.f64))) (Ann.seq (aq [0] N11) (aq [0,1] N11)) ⟨mkE 32 0 [(0,dL a),(1,dL b),(2,.fn 65 [] [.ptr 0 0])],[some (.box [.slc 1]),some (sI c)]⟩ (N63 b) (fun (t : (List Int)) => (Exit.normal,⟨mkE 32 0 [(0,dL a),(1,dL b),(2,.fn 65 [] [.ptr 0 0]),(7,.slc 2)],[some (.box [.slc 1]),some (sI c),some (sI t)]⟩)) := .of fun K h => by
  simp only [N63,wpW] at h
  exact .of (by kernel_rfl) h
theorem Nmw (a b c d : List Int) : Link N2x LL (cq [0,0,1,1] (bodyOf Tryd.f64)) (aq [0,0,1,1] N11) ⟨mkE 32 0 [(0,dL a),(1,dL b),(2,.fn 65 [] [.ptr 0 0]),(7,.slc 2)],[some (.box [.slc 1]),some (sI c),some (sI d)]⟩ (N8s b) (fun (t : Int) => (Exit.normal,⟨mkE 32 0 [(0,dL a),(2,.fn 65 [] [.ptr 0 0]),(7,.slc 2),(13,dL b),(14,dI t),(15,dI 0)],[some (.box [.slc 1]),some (sI c),some (sI d)]⟩)) := .of fun K h => by
  simp only [N8s,wpW] at h
  exact .of (by kernel_rfl) h
theorem Npn (a b : List Int) (c d : Int) (g i : List Int) : Link N2x LL (cq [0,0,1,0,1,1] (bodyOf Tryd.f64)) (aq [0,0,1,0,1,1] N11) ⟨mkE 32 0 [(0,dL a),(2,.fn 65 [] [.ptr 0 0]),(7,.slc 2),(13,dL b),(14,dI c),(15,dI d)],[some (.box [.slc 1]),some (sI g),some (sI i)]⟩ (N5q a b c d g i) (Sum.elim (fun (t : Int × (List Int)) => (Exit.normal,⟨mkE 32 0 [(0,dL a),(2,.fn 65 [] [.ptr 0 0]),(7,.slc 2),(13,dL b),(14,dI c),(15,dI t.1)],[some (.box [.slc 1]),some (sI g),some (sI t.2)]⟩)) (fun (t : (List Int)) => ((Exit.exit 0),⟨mkE 32 0 [(7,.slc 2)],[some (.box [.slc 1]),some (sI g),some (sI t)]⟩))) := .of fun K h => by
  simp only [N5q,wpW] at h
  exact .of (by kernel_rfl) h
theorem Nn8 (a b : List Int) : Link N2x LL (cq [1,1,1] (bodyOf Tryd.f64)) (aq [1,1,1] N11) ⟨mkE 32 0 [(7,.slc 2)],[some (.box [.slc 1]),some (sI a),some (sI b)]⟩ (N82 b) (fun (t : (List Int)) => (Exit.ret,⟨mkE 32 0 [(6,.slc 2)],[some (.box [.slc 1]),some (sI a),some (sI t)]⟩)) := .of fun K h => by
  simp only [N82,wpW] at h
  exact .of (by kernel_rfl) h
theorem Npr (b d g : List Int) {r : AV} {H' : Heap} (h : (Ans.mk _ (N5e b d g) (fun (t : (List Int)) => (.slc 2,[some (.box [.slc 1]),some (sI g),some (sI t)])) [] none).run = some (r,H')) : Awp N2x LL (bodyOf Tryd.f64) N11 ⟨mkE 32 0 [(0,dL b),(1,dL d),(2,.fn 65 [] [.ptr 0 0])],[some (.box [.slc 1]),some (sI g)]⟩ (Ret (tlook tys) Tryd.f64.results.toList r H') :=
  ret_of' (Link.cast (by kernel_rfl) (by kernel_rfl) (link_group (c := (cq [0,1] (bodyOf Tryd.f64))) (a := (aq [0,1] N11)) [(cq [0] (bodyOf Tryd.f64))] [(aq [0] N11)] rfl (link_seq (Nxj b d g) (fun (t : (List Int)) => (link_seq (link_seq (Nmw b d g t) (fun (t40 : Int) => (link_block (fin2 := (fun (t17 : (List Int)) => (Exit.normal,⟨mkE 32 0 [(7,.slc 2)],[some (.box [.slc 1]),some (sI g),some (sI t17)]⟩))) (id := 0) (link_loop (mk := fun (s : Int × (List Int)) => ⟨mkE 32 0 [(0,dL b),(2,.fn 65 [] [.ptr 0 0]),(7,.slc 2),(13,dL d),(14,dI t40),(15,dI s.1)],[some (.box [.slc 1]),some (sI g),some (sI s.2)]⟩) (fin := (fun (t17 : (List Int)) => ((Exit.exit 0),⟨mkE 32 0 [(7,.slc 2)],[some (.box [.slc 1]),some (sI g),some (sI t17)]⟩))) (by
  rintro t17 f K h
  · exact h) (fun s => link_map (Npn b d t40 s.1 g s.2) (Sum.elim (fun (t17 : Int × (List Int)) => Sum.inl (t17.1,t17.2)) (fun (t17 : (List Int)) => Sum.inr t17)) (by
  rintro (t17 | t17)
  · kernel_rfl
  · kernel_rfl)) (0,t)) (fun (t17 : (List Int)) => t17) (by
  rintro t17 K h
  · exact Eq.mp (by kernel_rfl) h)))) (fun (t40 : (List Int)) => (Nn8 g t40))))))) (by unfold N5e; kernel_rfl) (by
  intro t
  exact ret_mk [.slc 2] (by kernel_rfl) (by kernel_rfl) (by kernel_rfl) (by kernel_rfl)) h
def Nc5 : Fun := fun avs H =>
  match avs,H with
  | [.dat (.list (.int .i64)) a,.dat (.list (.int .i64)) b,.fn 65 [] [.ptr 0 0]],[some (.box [.slc 1]),some (.seq (.int .i64) c)] => ⟨_,N5e a b c,fun (t : (List Int)) => (.slc 2,[some (.box [.slc 1]),some (sI c),some (sI t)]),[],none⟩
  | _,_ => Ans.no
theorem Npo : Sound Tryd.prog 64 Nc5 := by
  refine fn_sound' (C := N2x) (c := bodyOf Tryd.f64) (cok_of tys_ok (allc Nt0 alln) (allc Tryd.call65 alln) (by kernel_rfl)) Tryd.func64 (by kernel_rfl) LL N11 ?_
  intro avs H r H' h
  unfold Nc5 at h
  split at h
  · refine Awp.cast ?_ ?_ ?_ (Npr _ _ _ h) <;> kernel_rfl
  · simp [Ans.no,Ans.run] at h

def Nar : Ann := (.seq (.leaf [0,1]) (.seq (.seq (.leaf [0,1,16]) (.cond (.seq (.leaf [4,5]) (.leaf [4,5])) (.leaf [0,1]))) (.seq (.leaf [0,1,6]) (.seq (.leaf [4,5]) (.leaf [4,5])))))
noncomputable def Nc3 : Ctx := ⟨tlook tys,olook [(42,N1f),(62,Nda),(63,Ndb),(64,Nc5)],ioF,0,false,[]⟩
theorem Nsw (a b : List Int) : Link Nc3 LL (bodyOf Tryd.f59) Nar ⟨mkE 23 0 [(0,dL a),(1,dL b)],[]⟩ (N6q a b) (fun (t : Bool × (List Int)) => (Exit.ret,⟨mkE 23 0 [(4,.slc 0),(5,dB t.1)],[some (sI t.2)]⟩)) := .of fun K h => by
  simp only [N6q,wpW] at h
  exact .of (by kernel_rfl) h
theorem Nl6 (a b : List Int) {r : AV} {H' : Heap} (h : (Ans.mk _ (N26 a b) (fun (t : Bool × (List Int)) => (.tup [.slc 0,dB t.1],[some (sI t.2)])) [] none).run = some (r,H')) : Awp Nc3 LL (bodyOf Tryd.f59) Nar ⟨mkE 23 0 [(0,dL a),(1,dL b)],[]⟩ (Ret (tlook tys) Tryd.f59.results.toList r H') :=
  ret_of' (Nsw a b) (by unfold N26; kernel_rfl) (by
  intro t
  exact ret_mk [.slc 0,dB t.1] (by kernel_rfl) (by kernel_rfl) (by kernel_rfl) (by kernel_rfl)) h
def N8i : Fun := fun avs H =>
  match avs,H with
  | [.dat (.list (.int .i64)) a,.dat (.list (.int .i64)) b],[] => ⟨_,N26 a b,fun (t : Bool × (List Int)) => (.tup [.slc 0,dB t.1],[some (sI t.2)]),[],none⟩
  | _,_ => Ans.no
theorem Njj : Sound Tryd.prog 59 N8i := by
  refine fn_sound' (C := Nc3) (c := bodyOf Tryd.f59) (cok_of tys_ok (allc N1u (allc Nle (allc No7 (allc Npo alln)))) (allc Tryd.call42 (allc Tryd.call62 (allc Tryd.call63 (allc Tryd.call64 alln)))) (by kernel_rfl)) Tryd.func59 (by kernel_rfl) LL Nar ?_
  intro avs H r H' h
  unfold N8i at h
  split at h
  · refine Awp.cast ?_ ?_ ?_ (Nl6 _ _ h) <;> kernel_rfl
  · simp [Ans.no,Ans.run] at h

def Nbx : Ann := (.seq (.leaf [0]) (.seq (.seq (.leaf [0,7]) (.cond (.seq (.leaf [2]) (.leaf [2])) (.leaf [0]))) (.seq (.leaf [3]) (.seq (.leaf [2]) (.leaf [2])))))
noncomputable def Nd6 : Ctx := ⟨tlook tys,olook [(42,N1f),(60,Ncx),(59,N8i)],ioF,0,false,[]⟩
theorem Nvg (a : List Int) : Link Nd6 LL (bodyOf Tryd.f53) Nbx ⟨mkE 17 0 [(0,dL a)],[]⟩ (N50 a) (fun (t : (List Int)) => (Exit.ret,⟨mkE 17 0 [(2,.slc 0)],[some (sI t)]⟩)) := .of fun K h => by
  simp only [N50,wpW] at h
  exact .of (by kernel_rfl) h
theorem Nyv (a : List Int) {r : AV} {H' : Heap} (h : (Ans.mk _ (N2q a) (fun (t : (List Int)) => (.slc 0,[some (sI t)])) [] none).run = some (r,H')) : Awp Nd6 LL (bodyOf Tryd.f53) Nbx ⟨mkE 17 0 [(0,dL a)],[]⟩ (Ret (tlook tys) Tryd.f53.results.toList r H') :=
  ret_of' (Nvg a) (by unfold N2q; kernel_rfl) (by
  intro t
  exact ret_mk [.slc 0] (by kernel_rfl) (by kernel_rfl) (by kernel_rfl) (by kernel_rfl)) h
def Nde : Fun := fun avs H =>
  match avs,H with
  | [.dat (.list (.int .i64)) a],[] => ⟨_,N2q a,fun (t : (List Int)) => (.slc 0,[some (sI t)]),[],none⟩
  | _,_ => Ans.no
theorem Ntm : Sound Tryd.prog 53 Nde := by
  refine fn_sound' (C := Nd6) (c := bodyOf Tryd.f53) (cok_of tys_ok (allc N1u (allc Nwc (allc Njj alln))) (allc Tryd.call42 (allc Tryd.call60 (allc Tryd.call59 alln))) (by kernel_rfl)) Tryd.func53 (by kernel_rfl) LL Nbx ?_
  intro avs H r H' h
  unfold Nde at h
  split at h
  · refine Awp.cast ?_ ?_ ?_ (Nyv _ h) <;> kernel_rfl
  · simp [Ans.no,Ans.run] at h

def Ns : Ann := (.seq (.leaf [0]) (.seq (.seq (.leaf [0,6]) (.cond (.seq (.leaf [2]) (.leaf [2])) (.leaf [0]))) (.seq (.leaf [3]) (.seq (.block (.loop (.seq (.seq (.leaf [3,9]) (.cond (.leaf [3]) (.leaf [3]))) (.block (.leaf [3]))))) (.seq (.leaf [2]) (.leaf [2]))))))
noncomputable def N5i : Ctx := ⟨tlook tys,olook [(42,N1f),(58,N72)],ioF,0,false,[]⟩
theorem Nza (a : List Int) : Link N5i LL (Code.seq (cq [0] (bodyOf Tryd.f67)) (Code.seq (cq [0,1] (bodyOf Tryd.f67)) (cq [0,1,1] (bodyOf Tryd.f67)))) (Ann.seq (aq [0] Ns) (Ann.seq (aq [0,1] Ns) (aq [0,1,1] Ns))) ⟨mkE 12 0 [(0,dL a)],[]⟩ (N83 a) (Sum.elim (fun (t : Unit) => (Exit.normal,⟨mkE 12 0 [(3,.ptr 0 0)],[some (.box [dL a,dI 1,dI 0])]⟩)) (fun (t : Int) => (Exit.ret,⟨mkE 12 0 [(2,dI t)],[]⟩))) := .of fun K h => by
  simp only [N83,wpW] at h
  exact .of (by kernel_rfl) h
theorem Nyk (a : List Int) (b c : Int) : Link N5i LL (cq [0,0,0,1,1,1] (bodyOf Tryd.f67)) (aq [0,0,0,1,1,1] Ns) ⟨mkE 12 0 [(3,.ptr 0 0)],[some (.box [dL a,dI b,dI c])]⟩ (N5k a b c) (Sum.elim (fun (t : Int × Int) => (Exit.normal,⟨mkE 12 0 [(3,.ptr 0 0)],[some (.box [dL a,dI t.1,dI t.2])]⟩)) (fun (t : Int × Int) => ((Exit.exit 0),⟨mkE 12 0 [(3,.ptr 0 0)],[some (.box [dL a,dI t.1,dI t.2])]⟩))) := .of fun K h => by
  simp only [N5k,wpW] at h
  exact .of (by kernel_rfl) h
theorem Nou (a : List Int) (b c : Int) : Link N5i LL (cq [1,1,1,1] (bodyOf Tryd.f67)) (aq [1,1,1,1] Ns) ⟨mkE 12 0 [(3,.ptr 0 0)],[some (.box [dL a,dI b,dI c])]⟩ (N6l b) (fun (t : Int) => (Exit.ret,⟨mkE 12 0 [(2,dI t)],[]⟩)) := .of fun K h => by
  simp only [N6l,wpW] at h
  exact .of (by kernel_rfl) h
theorem Nxs (b : List Int) {r : AV} {H' : Heap} (h : (Ans.mk _ (N2y b) (fun (t : Int) => (dI t,[])) [] none).run = some (r,H')) : Awp N5i LL (bodyOf Tryd.f67) Ns ⟨mkE 12 0 [(0,dL b)],[]⟩ (Ret (tlook tys) Tryd.f67.results.toList r H') :=
  ret_of' (Link.cast (by kernel_rfl) (by kernel_rfl) (link_group (c := (cq [0,1,1] (bodyOf Tryd.f67))) (a := (aq [0,1,1] Ns)) [(cq [0] (bodyOf Tryd.f67)),(cq [0,1] (bodyOf Tryd.f67))] [(aq [0] Ns),(aq [0,1] Ns)] rfl (link_seq2 (Nza b) (fun (t : Unit) => (link_seq (link_block (fin2 := (fun (t : Int × Int) => (Exit.normal,⟨mkE 12 0 [(3,.ptr 0 0)],[some (.box [dL b,dI t.1,dI t.2])]⟩))) (id := 0) (link_loop (mk := fun (s : Int × Int) => ⟨mkE 12 0 [(3,.ptr 0 0)],[some (.box [dL b,dI s.1,dI s.2])]⟩) (fin := (fun (t : Int × Int) => ((Exit.exit 0),⟨mkE 12 0 [(3,.ptr 0 0)],[some (.box [dL b,dI t.1,dI t.2])]⟩))) (by
  rintro t f K h
  · exact h) (fun s => link_map (Nyk b s.1 s.2) (Sum.elim (fun (t : Int × Int) => Sum.inl (t.1,t.2)) (fun (t : Int × Int) => Sum.inr t)) (by
  rintro (t | t)
  · kernel_rfl
  · kernel_rfl)) (1,0)) (fun (t : Int × Int) => (t.1,t.2)) (by
  rintro t K h
  · exact Eq.mp (by kernel_rfl) h)) (fun (t : Int × Int) => (Nou b t.1 t.2)))) (fun (t : Int) => t) (by
  rintro t
  · kernel_rfl) (by
  rintro t f K h
  · exact h)))) (by unfold N2y; kernel_rfl) (by
  intro t
  exact ret_mk [dI t] (by kernel_rfl) (by kernel_rfl) (by kernel_rfl) (by kernel_rfl)) h
def Nd8 : Fun := fun avs H =>
  match avs,H with
  | [.dat (.list (.int .i64)) a],[] => ⟨_,N2y a,fun (t : Int) => (dI t,[]),[],none⟩
  | _,_ => Ans.no
theorem Nwi : Sound Tryd.prog 67 Nd8 := by
  refine fn_sound' (C := N5i) (c := bodyOf Tryd.f67) (cok_of tys_ok (allc N1u (allc Ngc alln)) (allc Tryd.call42 (allc Tryd.call58 alln)) (by kernel_rfl)) Tryd.func67 (by kernel_rfl) LL Ns ?_
  intro avs H r H' h
  unfold Nd8 at h
  split at h
  · refine Awp.cast ?_ ?_ ?_ (Nxs _ h) <;> kernel_rfl
  · simp [Ans.no,Ans.run] at h

def Nbr : Ann := (.seq (.leaf [0]) (.seq (.leaf [2]) (.leaf [2])))
noncomputable def Nak : Ctx := ⟨tlook tys,olook [],ioF,0,false,[]⟩
theorem Nnh (a : Int) : Link Nak LL (bodyOf Tryd.f73) Nbr ⟨mkE 6 0 [(0,dI a)],[]⟩ (Neo a) (fun (t : Int) => (Exit.ret,⟨mkE 6 0 [(2,dW t)],[]⟩)) := .of fun K h => by
  simp only [Neo,wpW] at h
  exact .of (by kernel_rfl) h
theorem Nl1 (a : Int) {r : AV} {H' : Heap} (h : (Ans.mk _ (N29 a) (fun (t : Int) => (dW t,[])) [] none).run = some (r,H')) : Awp Nak LL (bodyOf Tryd.f73) Nbr ⟨mkE 6 0 [(0,dI a)],[]⟩ (Ret (tlook tys) Tryd.f73.results.toList r H') :=
  ret_of' (Nnh a) (by unfold N29; kernel_rfl) (by
  intro t
  exact ret_mk [dW t] (by kernel_rfl) (by kernel_rfl) (by kernel_rfl) (by kernel_rfl)) h
def N8p : Fun := fun avs H =>
  match avs,H with
  | [.dat (.int .i64) a],[] => ⟨_,N29 a,fun (t : Int) => (dW t,[]),[],none⟩
  | _,_ => Ans.no
theorem Ngh : Sound Tryd.prog 73 N8p := by
  refine fn_sound' (C := Nak) (c := bodyOf Tryd.f73) (cok_of tys_ok (alln) (alln) (by kernel_rfl)) Tryd.func73 (by kernel_rfl) LL Nbr ?_
  intro avs H r H' h
  unfold N8p at h
  split at h
  · refine Awp.cast ?_ ?_ ?_ (Nl1 _ h) <;> kernel_rfl
  · simp [Ans.no,Ans.run] at h

def N1j : Ann := (.seq (.leaf [0,1]) (.seq (.leaf [0,1,5]) (.seq (.seq (.leaf [0,1,5,8,9]) (.block (.loop (.seq (.leaf [0,1,5,8,9,10]) (.seq (.cond (.leaf [0,1,5,8,9]) (.leaf [5])) (.seq (.block (.seq (.leaf [0,1,5,6,8,9]) (.seq (.leaf [0,1,5,6,8,9,17]) (.cond (.leaf [0,1,5,8,9]) (.leaf [0,1,5,8,9]))))) (.leaf [0,1,5,8,9]))))))) (.seq (.leaf [4]) (.leaf [4])))))
noncomputable def N2z : Ctx := ⟨tlook tys,olook [(73,N8p)],ioF,0,false,[]⟩
theorem Nz9 (a : List Int) (b : Int) : Link N2z LL (Code.seq (cq [0] (bodyOf Tryd.f70)) (cq [0,1] (bodyOf Tryd.f70))) (Ann.seq (aq [0] N1j) (aq [0,1] N1j)) ⟨mkE 25 0 [(0,dL a),(1,dI b)],[]⟩ (N8q) (fun (t : Unit) => (Exit.normal,⟨mkE 25 0 [(0,dL a),(1,dI b),(5,dW 0)],[]⟩)) := .of fun K h => by
  simp only [N8q,wpW] at h
  exact .of (by kernel_rfl) h
theorem Nvi (a : List Int) (b : Int) : Link N2z LL (cq [0,0,1,1] (bodyOf Tryd.f70)) (aq [0,0,1,1] N1j) ⟨mkE 25 0 [(0,dL a),(1,dI b),(5,dW 0)],[]⟩ (N6o a) (fun (t : Int) => (Exit.normal,⟨mkE 25 0 [(0,dL a),(1,dI b),(5,dW 0),(8,dI t),(9,dI 0)],[]⟩)) := .of fun K h => by
  simp only [N6o,wpW] at h
  exact .of (by kernel_rfl) h
theorem Npl (a : List Int) (b c d g : Int) : Link N2z LL (cq [0,0,1,0,1,1] (bodyOf Tryd.f70)) (aq [0,0,1,0,1,1] N1j) ⟨mkE 25 0 [(0,dL a),(1,dI b),(5,dW c),(8,dI d),(9,dI g)],[]⟩ (N3h a b c d g) (Sum.elim (fun (t : Int × Int) => (Exit.normal,⟨mkE 25 0 [(0,dL a),(1,dI b),(5,dW t.1),(8,dI d),(9,dI t.2)],[]⟩)) (fun (t : Int) => ((Exit.exit 0),⟨mkE 25 0 [(5,dW t)],[]⟩))) := .of fun K h => by
  simp only [N3h,wpW] at h
  exact .of (by kernel_rfl) h
theorem Nyx (a : Int) : Link N2z LL (cq [1,1,1] (bodyOf Tryd.f70)) (aq [1,1,1] N1j) ⟨mkE 25 0 [(5,dW a)],[]⟩ (Ndm a) (fun (t : Int) => (Exit.ret,⟨mkE 25 0 [(4,dW t)],[]⟩)) := .of fun K h => by
  simp only [Ndm,wpW] at h
  exact .of (by kernel_rfl) h
theorem Nsb (b : List Int) (d : Int) {r : AV} {H' : Heap} (h : (Ans.mk _ (N2h b d) (fun (t : Int) => (dW t,[])) [] none).run = some (r,H')) : Awp N2z LL (bodyOf Tryd.f70) N1j ⟨mkE 25 0 [(0,dL b),(1,dI d)],[]⟩ (Ret (tlook tys) Tryd.f70.results.toList r H') :=
  ret_of' (Link.cast (by kernel_rfl) (by kernel_rfl) (link_group (c := (cq [0,1] (bodyOf Tryd.f70))) (a := (aq [0,1] N1j)) [(cq [0] (bodyOf Tryd.f70))] [(aq [0] N1j)] rfl (link_seq (Nz9 b d) (fun (t : Unit) => (link_seq (link_seq (Nvi b d) (fun (t : Int) => (link_block (fin2 := (fun (t18 : Int) => (Exit.normal,⟨mkE 25 0 [(5,dW t18)],[]⟩))) (id := 0) (link_loop (mk := fun (s : Int × Int) => ⟨mkE 25 0 [(0,dL b),(1,dI d),(5,dW s.1),(8,dI t),(9,dI s.2)],[]⟩) (fin := (fun (t18 : Int) => ((Exit.exit 0),⟨mkE 25 0 [(5,dW t18)],[]⟩))) (by
  rintro t18 f K h
  · exact h) (fun s => link_map (Npl b d s.1 t s.2) (Sum.elim (fun (t18 : Int × Int) => Sum.inl (t18.1,t18.2)) (fun (t18 : Int) => Sum.inr t18)) (by
  rintro (t18 | t18)
  · kernel_rfl
  · kernel_rfl)) (0,0)) (fun (t18 : Int) => t18) (by
  rintro t18 K h
  · exact Eq.mp (by kernel_rfl) h)))) (fun (t : Int) => (Nyx t))))))) (by unfold N2h; kernel_rfl) (by
  intro t
  exact ret_mk [dW t] (by kernel_rfl) (by kernel_rfl) (by kernel_rfl) (by kernel_rfl)) h
def Ne2 : Fun := fun avs H =>
  match avs,H with
  | [.dat (.list (.int .i64)) a,.dat (.int .i64) b],[] => ⟨_,N2h a b,fun (t : Int) => (dW t,[]),[],none⟩
  | _,_ => Ans.no
theorem Npz : Sound Tryd.prog 70 Ne2 := by
  refine fn_sound' (C := N2z) (c := bodyOf Tryd.f70) (cok_of tys_ok (allc Ngh alln) (allc Tryd.call73 alln) (by kernel_rfl)) Tryd.func70 (by kernel_rfl) LL N1j ?_
  intro avs H r H' h
  unfold Ne2 at h
  split at h
  · refine Awp.cast ?_ ?_ ?_ (Nsb _ _ h) <;> kernel_rfl
  · simp [Ans.no,Ans.run] at h

def Nap : Ann := (.seq (.leaf [0]) (.seq (.leaf [2]) (.leaf [2])))
noncomputable def Nex : Ctx := ⟨tlook tys,olook [(73,N8p)],ioF,0,false,[]⟩
theorem Nq6 (a : Int) : Link Nex LL (bodyOf Tryd.f71) Nap ⟨mkE 6 0 [(0,dI a)],[]⟩ (Nag a) (fun (t : Int) => (Exit.ret,⟨mkE 6 0 [(2,dW t)],[]⟩)) := .of fun K h => by
  simp only [Nag,wpW] at h
  exact .of (by kernel_rfl) h
theorem Nv4 (a : Int) {r : AV} {H' : Heap} (h : (Ans.mk _ (N2j a) (fun (t : Int) => (dW t,[])) [] none).run = some (r,H')) : Awp Nex LL (bodyOf Tryd.f71) Nap ⟨mkE 6 0 [(0,dI a)],[]⟩ (Ret (tlook tys) Tryd.f71.results.toList r H') :=
  ret_of' (Nq6 a) (by unfold N2j; kernel_rfl) (by
  intro t
  exact ret_mk [dW t] (by kernel_rfl) (by kernel_rfl) (by kernel_rfl) (by kernel_rfl)) h
def Neg : Fun := fun avs H =>
  match avs,H with
  | [.dat (.int .i64) a],[] => ⟨_,N2j a,fun (t : Int) => (dW t,[]),[],none⟩
  | _,_ => Ans.no
theorem Nx1 : Sound Tryd.prog 71 Neg := by
  refine fn_sound' (C := Nex) (c := bodyOf Tryd.f71) (cok_of tys_ok (allc Ngh alln) (allc Tryd.call73 alln) (by kernel_rfl)) Tryd.func71 (by kernel_rfl) LL Nap ?_
  intro avs H r H' h
  unfold Neg at h
  split at h
  · refine Awp.cast ?_ ?_ ?_ (Nv4 _ h) <;> kernel_rfl
  · simp [Ans.no,Ans.run] at h

def Nd9 : Ann := (.seq (.leaf [0,1]) (.seq (.leaf [1,6]) (.seq (.leaf [4,5]) (.leaf [4,5]))))
noncomputable def Nas : Ctx := ⟨tlook tys,olook [(70,Ne2),(71,Neg)],ioF,0,false,[]⟩
theorem Ntz (a : List Int) (b : Int) : Link Nas LL (bodyOf Tryd.f68) Nd9 ⟨mkE 18 0 [(0,dL a),(1,dI b)],[]⟩ (N5u a b) (fun (t : Int × Int) => (Exit.ret,⟨mkE 18 0 [(4,dW t.1),(5,dW t.2)],[]⟩)) := .of fun K h => by
  simp only [N5u,wpW] at h
  exact .of (by kernel_rfl) h
theorem Nnl (a : List Int) (b : Int) {r : AV} {H' : Heap} (h : (Ans.mk _ (N1v a b) (fun (t : Int × Int) => (.tup [dW t.1,dW t.2],[])) [] none).run = some (r,H')) : Awp Nas LL (bodyOf Tryd.f68) Nd9 ⟨mkE 18 0 [(0,dL a),(1,dI b)],[]⟩ (Ret (tlook tys) Tryd.f68.results.toList r H') :=
  ret_of' (Ntz a b) (by unfold N1v; kernel_rfl) (by
  intro t
  exact ret_mk [dW t.1,dW t.2] (by kernel_rfl) (by kernel_rfl) (by kernel_rfl) (by kernel_rfl)) h
def Ncc : Fun := fun avs H =>
  match avs,H with
  | [.dat (.list (.int .i64)) a,.dat (.int .i64) b],[] => ⟨_,N1v a b,fun (t : Int × Int) => (.tup [dW t.1,dW t.2],[]),[],none⟩
  | _,_ => Ans.no
theorem Nlx : Sound Tryd.prog 68 Ncc := by
  refine fn_sound' (C := Nas) (c := bodyOf Tryd.f68) (cok_of tys_ok (allc Npz (allc Nx1 alln)) (allc Tryd.call70 (allc Tryd.call71 alln)) (by kernel_rfl)) Tryd.func68 (by kernel_rfl) LL Nd9 ?_
  intro avs H r H' h
  unfold Ncc at h
  split at h
  · refine Awp.cast ?_ ?_ ?_ (Nnl _ _ h) <;> kernel_rfl
  · simp [Ans.no,Ans.run] at h

def Na : Ann := (.seq (.leaf [0]) (.seq (.leaf [0]) (.seq (.leaf [0]) (.seq (.leaf [0]) (.seq (.leaf [0]) (.seq (.leaf [0]) (.seq (.leaf [0]) (.seq (.leaf [2]) (.leaf [2])))))))))
noncomputable def Nm : Ctx := ⟨tlook tys,olook [],ioF,0,false,[]⟩
theorem Nqz (a : Int) : Link Nm LL (Code.seq (cq [0] (bodyOf Tryd.f80)) (cq [0,1] (bodyOf Tryd.f80))) (Ann.seq (aq [0] Na) (aq [0,1] Na)) ⟨mkE 35 0 [(0,dW a)],[]⟩ (Nes a) (fun (t : Int) => (Exit.normal,⟨mkE 35 0 [(0,dW t)],[]⟩)) := .of fun K h => by
  simp only [Nes,wpW] at h
  exact .of (by kernel_rfl) h
theorem Nwm (a : Int) : Link Nm LL (cq [0,1,1] (bodyOf Tryd.f80)) (aq [0,1,1] Na) ⟨mkE 35 0 [(0,dW a)],[]⟩ (Nf3 a) (fun (t : Int) => (Exit.normal,⟨mkE 35 0 [(0,dW t)],[]⟩)) := .of fun K h => by
  simp only [Nf3,wpW] at h
  exact .of (by kernel_rfl) h
theorem Nzl (a : Int) : Link Nm LL (cq [0,1,1,1] (bodyOf Tryd.f80)) (aq [0,1,1,1] Na) ⟨mkE 35 0 [(0,dW a)],[]⟩ (Ndo a) (fun (t : Int) => (Exit.normal,⟨mkE 35 0 [(0,dW t)],[]⟩)) := .of fun K h => by
  simp only [Ndo,wpW] at h
  exact .of (by kernel_rfl) h
theorem Nrl (a : Int) : Link Nm LL (cq [0,1,1,1,1] (bodyOf Tryd.f80)) (aq [0,1,1,1,1] Na) ⟨mkE 35 0 [(0,dW a)],[]⟩ (Neh a) (fun (t : Int) => (Exit.normal,⟨mkE 35 0 [(0,dW t)],[]⟩)) := .of fun K h => by
  simp only [Neh,wpW] at h
  exact .of (by kernel_rfl) h
theorem Nzi (a : Int) : Link Nm LL (cq [0,1,1,1,1,1] (bodyOf Tryd.f80)) (aq [0,1,1,1,1,1] Na) ⟨mkE 35 0 [(0,dW a)],[]⟩ (Ncg a) (fun (t : Int) => (Exit.normal,⟨mkE 35 0 [(0,dW t)],[]⟩)) := .of fun K h => by
  simp only [Ncg,wpW] at h
  exact .of (by kernel_rfl) h
theorem No8 (a : Int) : Link Nm LL (cq [0,1,1,1,1,1,1] (bodyOf Tryd.f80)) (aq [0,1,1,1,1,1,1] Na) ⟨mkE 35 0 [(0,dW a)],[]⟩ (Ncw a) (fun (t : Int) => (Exit.normal,⟨mkE 35 0 [(0,dW t)],[]⟩)) := .of fun K h => by
  simp only [Ncw,wpW] at h
  exact .of (by kernel_rfl) h
theorem N103 (a : Int) : Link Nm LL (cq [0,1,1,1,1,1,1,1] (bodyOf Tryd.f80)) (aq [0,1,1,1,1,1,1,1] Na) ⟨mkE 35 0 [(0,dW a)],[]⟩ (Ne7 a) (fun (t : Int) => (Exit.normal,⟨mkE 35 0 [(2,dI t)],[]⟩)) := .of fun K h => by
  simp only [Ne7,wpW] at h
  exact .of (by kernel_rfl) h
theorem Ntn (a : Int) : Link Nm LL (cq [1,1,1,1,1,1,1,1] (bodyOf Tryd.f80)) (aq [1,1,1,1,1,1,1,1] Na) ⟨mkE 35 0 [(2,dI a)],[]⟩ (Nbu a) (fun (t : Int) => (Exit.ret,⟨mkE 35 0 [(2,dI t)],[]⟩)) := .of fun K h => by
  simp only [Nbu,wpW] at h
  exact .of (by kernel_rfl) h
theorem Nwe (b : Int) {r : AV} {H' : Heap} (h : (Ans.mk _ (N8k b) (fun (t : Int) => (dI t,[])) [] none).run = some (r,H')) : Awp Nm LL (bodyOf Tryd.f80) Na ⟨mkE 35 0 [(0,dW b)],[]⟩ (Ret (tlook tys) Tryd.f80.results.toList r H') :=
  ret_of' (Link.cast (by kernel_rfl) (by kernel_rfl) (link_group (c := (cq [0,1] (bodyOf Tryd.f80))) (a := (aq [0,1] Na)) [(cq [0] (bodyOf Tryd.f80))] [(aq [0] Na)] rfl (link_seq (Nqz b) (fun (t : Int) => (link_seq (Nwm t) (fun (t19 : Int) => (link_seq (Nzl t19) (fun (t5 : Int) => (link_seq (Nrl t5) (fun (t : Int) => (link_seq (Nzi t) (fun (t4 : Int) => (link_seq (No8 t4) (fun (t : Int) => (link_seq (N103 t) (fun (t3 : Int) => (Ntn t3))))))))))))))))) (by unfold N8k; kernel_rfl) (by
  intro t
  exact ret_mk [dI t] (by kernel_rfl) (by kernel_rfl) (by kernel_rfl) (by kernel_rfl)) h
def Nej : Fun := fun avs H =>
  match avs,H with
  | [.dat (.int .u64) a],[] => ⟨_,N8k a,fun (t : Int) => (dI t,[]),[],none⟩
  | _,_ => Ans.no
theorem Ntw : Sound Tryd.prog 80 Nej := by
  refine fn_sound' (C := Nm) (c := bodyOf Tryd.f80) (cok_of tys_ok (alln) (alln) (by kernel_rfl)) Tryd.func80 (by kernel_rfl) LL Na ?_
  intro avs H r H' h
  unfold Nej at h
  split at h
  · refine Awp.cast ?_ ?_ ?_ (Nwe _ h) <;> kernel_rfl
  · simp [Ans.no,Ans.run] at h

def Nev : Ann := (.seq (.leaf [0]) (.seq (.cond (.seq (.leaf [2]) (.leaf [2])) (.leaf [0])) (.seq (.leaf [2]) (.leaf [2]))))
noncomputable def Ndg : Ctx := ⟨tlook tys,olook [(80,Nej)],ioF,0,false,[]⟩
theorem Nq1 (a : Int) : Link Ndg LL (bodyOf Tryd.f76) Nev ⟨mkE 8 0 [(0,dW a)],[]⟩ (Ney a) (fun (t : Int) => (Exit.ret,⟨mkE 8 0 [(2,dI t)],[]⟩)) := .of fun K h => by
  simp only [Ney,wpW] at h
  exact .of (by kernel_rfl) h
theorem Nyy (a : Int) {r : AV} {H' : Heap} (h : (Ans.mk _ (N8c a) (fun (t : Int) => (dI t,[])) [] none).run = some (r,H')) : Awp Ndg LL (bodyOf Tryd.f76) Nev ⟨mkE 8 0 [(0,dW a)],[]⟩ (Ret (tlook tys) Tryd.f76.results.toList r H') :=
  ret_of' (Nq1 a) (by unfold N8c; kernel_rfl) (by
  intro t
  exact ret_mk [dI t] (by kernel_rfl) (by kernel_rfl) (by kernel_rfl) (by kernel_rfl)) h
def Ndw : Fun := fun avs H =>
  match avs,H with
  | [.dat (.int .u64) a],[] => ⟨_,N8c a,fun (t : Int) => (dI t,[]),[],none⟩
  | _,_ => Ans.no
theorem Nwr : Sound Tryd.prog 76 Ndw := by
  refine fn_sound' (C := Ndg) (c := bodyOf Tryd.f76) (cok_of tys_ok (allc Ntw alln) (allc Tryd.call80 alln) (by kernel_rfl)) Tryd.func76 (by kernel_rfl) LL Nev ?_
  intro avs H r H' h
  unfold Ndw at h
  split at h
  · refine Awp.cast ?_ ?_ ?_ (Nyy _ h) <;> kernel_rfl
  · simp [Ans.no,Ans.run] at h

def Nba : Ann := (.seq (.leaf [0]) (.seq (.leaf [2]) (.leaf [2])))
noncomputable def Nc9 : Ctx := ⟨tlook tys,olook [(76,Ndw)],ioF,0,false,[]⟩
theorem Nn0 (a : Int) : Link Nc9 LL (bodyOf Tryd.f74) Nba ⟨mkE 5 0 [(0,dW a)],[]⟩ (Nan a) (fun (t : Int) => (Exit.ret,⟨mkE 5 0 [(2,dI t)],[]⟩)) := .of fun K h => by
  simp only [Nan,wpW] at h
  exact .of (by kernel_rfl) h
theorem N10k (a : Int) {r : AV} {H' : Heap} (h : (Ans.mk _ (N93 a) (fun (t : Int) => (dI t,[])) [] none).run = some (r,H')) : Awp Nc9 LL (bodyOf Tryd.f74) Nba ⟨mkE 5 0 [(0,dW a)],[]⟩ (Ret (tlook tys) Tryd.f74.results.toList r H') :=
  ret_of' (Nn0 a) (by unfold N93; kernel_rfl) (by
  intro t
  exact ret_mk [dI t] (by kernel_rfl) (by kernel_rfl) (by kernel_rfl) (by kernel_rfl)) h
def Nc6 : Fun := fun avs H =>
  match avs,H with
  | [.dat (.int .u64) a],[] => ⟨_,N93 a,fun (t : Int) => (dI t,[]),[],none⟩
  | _,_ => Ans.no
theorem Ns1 : Sound Tryd.prog 74 Nc6 := by
  refine fn_sound' (C := Nc9) (c := bodyOf Tryd.f74) (cok_of tys_ok (allc Nwr alln) (allc Tryd.call76 alln) (by kernel_rfl)) Tryd.func74 (by kernel_rfl) LL Nba ?_
  intro avs H r H' h
  unfold Nc6 at h
  split at h
  · refine Awp.cast ?_ ?_ ?_ (N10k _ h) <;> kernel_rfl
  · simp [Ans.no,Ans.run] at h

def Nd3 : Ann := (.seq (.leaf [0]) (.seq (.seq (.leaf [0,4]) (.cond (.seq (.leaf [2]) (.leaf [2])) (.leaf [0]))) (.seq (.leaf [2]) (.leaf [2]))))
noncomputable def Naz : Ctx := ⟨tlook tys,olook [],ioF,0,false,[]⟩
theorem Nz1 (a : Int) : Link Naz LL (bodyOf Tryd.f78) Nd3 ⟨mkE 14 0 [(0,dW a)],[]⟩ (Nbw a) (fun (t : Int) => (Exit.ret,⟨mkE 14 0 [(2,dI t)],[]⟩)) := .of fun K h => by
  simp only [Nbw,wpW] at h
  exact .of (by kernel_rfl) h
theorem Nz7 (a : Int) {r : AV} {H' : Heap} (h : (Ans.mk _ (N7k a) (fun (t : Int) => (dI t,[])) [] none).run = some (r,H')) : Awp Naz LL (bodyOf Tryd.f78) Nd3 ⟨mkE 14 0 [(0,dW a)],[]⟩ (Ret (tlook tys) Tryd.f78.results.toList r H') :=
  ret_of' (Nz1 a) (by unfold N7k; kernel_rfl) (by
  intro t
  exact ret_mk [dI t] (by kernel_rfl) (by kernel_rfl) (by kernel_rfl) (by kernel_rfl)) h
def Nd5 : Fun := fun avs H =>
  match avs,H with
  | [.dat (.int .u64) a],[] => ⟨_,N7k a,fun (t : Int) => (dI t,[]),[],none⟩
  | _,_ => Ans.no
theorem Nmp : Sound Tryd.prog 78 Nd5 := by
  refine fn_sound' (C := Naz) (c := bodyOf Tryd.f78) (cok_of tys_ok (alln) (alln) (by kernel_rfl)) Tryd.func78 (by kernel_rfl) LL Nd3 ?_
  intro avs H r H' h
  unfold Nd5 at h
  split at h
  · refine Awp.cast ?_ ?_ ?_ (Nz7 _ h) <;> kernel_rfl
  · simp [Ans.no,Ans.run] at h

def Nd7 : Ann := (.seq (.leaf [0]) (.seq (.cond (.seq (.leaf [2]) (.leaf [2])) (.leaf [0])) (.seq (.leaf [2]) (.leaf [2]))))
noncomputable def Nbm : Ctx := ⟨tlook tys,olook [(78,Nd5)],ioF,0,false,[]⟩
theorem Nwp (a : Int) : Link Nbm LL (bodyOf Tryd.f75) Nd7 ⟨mkE 8 0 [(0,dW a)],[]⟩ (Nbg a) (fun (t : Int) => (Exit.ret,⟨mkE 8 0 [(2,dI t)],[]⟩)) := .of fun K h => by
  simp only [Nbg,wpW] at h
  exact .of (by kernel_rfl) h
theorem Nnv (a : Int) {r : AV} {H' : Heap} (h : (Ans.mk _ (N91 a) (fun (t : Int) => (dI t,[])) [] none).run = some (r,H')) : Awp Nbm LL (bodyOf Tryd.f75) Nd7 ⟨mkE 8 0 [(0,dW a)],[]⟩ (Ret (tlook tys) Tryd.f75.results.toList r H') :=
  ret_of' (Nwp a) (by unfold N91; kernel_rfl) (by
  intro t
  exact ret_mk [dI t] (by kernel_rfl) (by kernel_rfl) (by kernel_rfl) (by kernel_rfl)) h
def Ncs : Fun := fun avs H =>
  match avs,H with
  | [.dat (.int .u64) a],[] => ⟨_,N91 a,fun (t : Int) => (dI t,[]),[],none⟩
  | _,_ => Ans.no
theorem Nxx : Sound Tryd.prog 75 Ncs := by
  refine fn_sound' (C := Nbm) (c := bodyOf Tryd.f75) (cok_of tys_ok (allc Nmp alln) (allc Tryd.call78 alln) (by kernel_rfl)) Tryd.func75 (by kernel_rfl) LL Nd7 ?_
  intro avs H r H' h
  unfold Ncs at h
  split at h
  · refine Awp.cast ?_ ?_ ?_ (Nnv _ h) <;> kernel_rfl
  · simp [Ans.no,Ans.run] at h

def N1k : Ann := (.seq (.leaf [0]) (.seq (.leaf [0,3]) (.seq (.seq (.leaf [3,4]) (.block (.loop (.seq (.seq (.leaf [3,4,10]) (.cond (.leaf [3,4]) (.leaf [3]))) (.seq (.block (.leaf [3,4])) (.leaf [3,4])))))) (.seq (.leaf [2]) (.leaf [2])))))
noncomputable def N3l : Ctx := ⟨tlook tys,olook [(74,Nc6),(75,Ncs)],ioF,0,false,[]⟩
theorem Nl7 (a : Int) : Link N3l LL (Code.seq (cq [0] (bodyOf Tryd.f72)) (cq [0,1] (bodyOf Tryd.f72))) (Ann.seq (aq [0] N1k) (aq [0,1] N1k)) ⟨mkE 22 0 [(0,dW a)],[]⟩ (Nb6 a) (fun (t : (List Int)) => (Exit.normal,⟨mkE 22 0 [(0,dW a),(3,.slc 0)],[some (sI t)]⟩)) := .of fun K h => by
  simp only [Nb6,wpW] at h
  exact .of (by kernel_rfl) h
theorem Nlr (a : Int) (b : List Int) : Link N3l LL (cq [0,0,1,1] (bodyOf Tryd.f72)) (aq [0,0,1,1] N1k) ⟨mkE 22 0 [(0,dW a),(3,.slc 0)],[some (sI b)]⟩ (Ncj) (fun (t : Unit) => (Exit.normal,⟨mkE 22 0 [(3,.slc 0),(4,dW a)],[some (sI b)]⟩)) := .of fun K h => by
  simp only [Ncj,wpW] at h
  exact .of (by kernel_rfl) h
theorem Ntc (a : Int) (b : List Int) : Link N3l LL (cq [0,0,1,0,1,1] (bodyOf Tryd.f72)) (aq [0,0,1,0,1,1] N1k) ⟨mkE 22 0 [(3,.slc 0),(4,dW a)],[some (sI b)]⟩ (Ned a b) (Sum.elim (fun (t : Int × (List Int)) => (Exit.normal,⟨mkE 22 0 [(3,.slc 0),(4,dW t.1)],[some (sI t.2)]⟩)) (fun (t : (List Int)) => ((Exit.exit 0),⟨mkE 22 0 [(3,.slc 0)],[some (sI t)]⟩))) := .of fun K h => by
  simp only [Ned,wpW] at h
  exact .of (by kernel_rfl) h
theorem Nul (a : List Int) : Link N3l LL (cq [1,1,1] (bodyOf Tryd.f72)) (aq [1,1,1] N1k) ⟨mkE 22 0 [(3,.slc 0)],[some (sI a)]⟩ (Nao a) (fun (t : (List Int)) => (Exit.ret,⟨mkE 22 0 [(2,.slc 0)],[some (sI t)]⟩)) := .of fun K h => by
  simp only [Nao,wpW] at h
  exact .of (by kernel_rfl) h
theorem Nx9 (b : Int) {r : AV} {H' : Heap} (h : (Ans.mk _ (N4t b) (fun (t : (List Int)) => (.slc 0,[some (sI t)])) [] none).run = some (r,H')) : Awp N3l LL (bodyOf Tryd.f72) N1k ⟨mkE 22 0 [(0,dW b)],[]⟩ (Ret (tlook tys) Tryd.f72.results.toList r H') :=
  ret_of' (Link.cast (by kernel_rfl) (by kernel_rfl) (link_group (c := (cq [0,1] (bodyOf Tryd.f72))) (a := (aq [0,1] N1k)) [(cq [0] (bodyOf Tryd.f72))] [(aq [0] N1k)] rfl (link_seq (Nl7 b) (fun (t : (List Int)) => (link_seq (link_seq (Nlr b t) (fun (t41 : Unit) => (link_block (fin2 := (fun (t41 : (List Int)) => (Exit.normal,⟨mkE 22 0 [(3,.slc 0)],[some (sI t41)]⟩))) (id := 0) (link_loop (mk := fun (s : Int × (List Int)) => ⟨mkE 22 0 [(3,.slc 0),(4,dW s.1)],[some (sI s.2)]⟩) (fin := (fun (t41 : (List Int)) => ((Exit.exit 0),⟨mkE 22 0 [(3,.slc 0)],[some (sI t41)]⟩))) (by
  rintro t41 f K h
  · exact h) (fun s => link_map (Ntc s.1 s.2) (Sum.elim (fun (t41 : Int × (List Int)) => Sum.inl (t41.1,t41.2)) (fun (t41 : (List Int)) => Sum.inr t41)) (by
  rintro (t41 | t41)
  · kernel_rfl
  · kernel_rfl)) (b,t)) (fun (t41 : (List Int)) => t41) (by
  rintro t41 K h
  · exact Eq.mp (by kernel_rfl) h)))) (fun (t41 : (List Int)) => (Nul t41))))))) (by unfold N4t; kernel_rfl) (by
  intro t
  exact ret_mk [.slc 0] (by kernel_rfl) (by kernel_rfl) (by kernel_rfl) (by kernel_rfl)) h
def Ner : Fun := fun avs H =>
  match avs,H with
  | [.dat (.int .u64) a],[] => ⟨_,N4t a,fun (t : (List Int)) => (.slc 0,[some (sI t)]),[],none⟩
  | _,_ => Ans.no
theorem Nls : Sound Tryd.prog 72 Ner := by
  refine fn_sound' (C := N3l) (c := bodyOf Tryd.f72) (cok_of tys_ok (allc Ns1 (allc Nxx alln)) (allc Tryd.call74 (allc Tryd.call75 alln)) (by kernel_rfl)) Tryd.func72 (by kernel_rfl) LL N1k ?_
  intro avs H r H' h
  unfold Ner at h
  split at h
  · refine Awp.cast ?_ ?_ ?_ (Nx9 _ h) <;> kernel_rfl
  · simp [Ans.no,Ans.run] at h

def Nac : Ann := (.seq (.leaf [0,1,2]) (.seq (.leaf [0,1,2,7,8]) (.seq (.leaf [0,1,8]) (.seq (.leaf [6]) (.leaf [6])))))
def N4d : Ann := (.seq (.leaf [0,1,2]) (.seq (.seq (.leaf [0,1,10,11,12]) (.block (.loop (.seq (.leaf [0,1,10,11,12,13]) (.seq (.cond (.leaf [0,1,10,11,12]) (.leaf [0])) (.seq (.block (.seq (.leaf [0,1,8,10,11,12]) (.leaf [0,1,10,11,12]))) (.leaf [0,1,10,11,12]))))))) (.seq (.leaf [6]) (.leaf [6]))))
def Nq (n : Nat) : Fun := fun avs H =>
  match avs,H with
  | [.slc 0,.dat (.list (.int .i64)) a,.dat (.int .i64) b],[some (.seq (.int .i64) c)] => ⟨_,Nd n a b c,fun (t : (List Int)) => (.slc 0,[some (sI t)]),[0],none⟩
  | _,_ => Ans.no
def Nr (n : Nat) : Fun := fun avs H =>
  match avs,H with
  | [.slc 0,.dat (.list (.int .i64)) a,.dat (.int .u64) b],[some (.seq (.int .i64) c)] => ⟨_,N13 n a b c,fun (t : (List Int)) => (.slc 0,[some (sI t)]),[0],none⟩
  | _,_ => Ans.no
noncomputable def Ncm (n : Nat) : Ctx := ⟨tlook tys,olook [(68,Ncc),(69,Nr n)],ioF,1,false,[0]⟩
noncomputable def N46 (n : Nat) : Ctx := ⟨tlook tys,olook [(72,Ner),(66,Nq n)],ioF,1,false,[0]⟩
theorem Nt4 (n : Nat) (a : List Int) (b : Int) (c : List Int) : Link (Ncm n) LL (bodyOf Tryd.f66) Nac ⟨mkE 26 0 [(0,.slc 0),(1,dL a),(2,dI b)],[some (sI c)]⟩ (N5j (Nd n) (N13 n) a b c) (fun (t : (List Int)) => (Exit.ret,⟨mkE 26 0 [(6,.slc 0)],[some (sI t)]⟩)) := .of fun K h => by
  simp only [N5j,wpW] at h
  exact .of (by kernel_rfl) h
theorem Nsa (n : Nat) (a : List Int) (b : Int) (c : List Int) {r : AV} {H' : Heap} (h : (Ans.mk _ (Nd (n + 1) a b c) (fun (t : (List Int)) => (.slc 0,[some (sI t)])) [0] none).run = some (r,H')) : Awp (Ncm n) LL (bodyOf Tryd.f66) Nac ⟨mkE 26 0 [(0,.slc 0),(1,dL a),(2,dI b)],[some (sI c)]⟩ (Ret (tlook tys) Tryd.f66.results.toList r H') :=
  ret_of' (Nt4 n a b c) (by (show _ = _); kernel_rfl) (by
  intro t
  exact ret_mk [.slc 0] (by kernel_rfl) (by kernel_rfl) (by kernel_rfl) (by kernel_rfl)) h
theorem N102 (n : Nat) (a : List Int) (b : Int) (c : List Int) : Link (N46 n) LL (cq [0] (bodyOf Tryd.f69)) (aq [0] N4d) ⟨mkE 22 0 [(0,.slc 0),(1,dL a),(2,dW b)],[some (sI c)]⟩ (N7u (Nd n) (N13 n)) (fun (t : Unit) => (Exit.normal,⟨mkE 22 0 [(0,.slc 0),(1,dL a),(2,dW b)],[some (sI c)]⟩)) := .of fun K h => by
  simp only [N7u,wpW] at h
  exact .of (by kernel_rfl) h
theorem Nz5 (n : Nat) (a : List Int) (b : Int) (c : List Int) : Link (N46 n) LL (cq [0,0,1] (bodyOf Tryd.f69)) (aq [0,0,1] N4d) ⟨mkE 22 0 [(0,.slc 0),(1,dL a),(2,dW b)],[some (sI c)]⟩ (N6n (Nd n) (N13 n) b) (fun (t : Int × (List Int)) => (Exit.normal,⟨mkE 22 0 [(0,.slc 0),(1,dL a),(10,.slc 1),(11,dI t.1),(12,dI 0)],[some (sI c),some (sI t.2)]⟩)) := .of fun K h => by
  simp only [N6n,wpW] at h
  exact .of (by kernel_rfl) h
theorem Nuq (n : Nat) (a : List Int) (b c : Int) (d g : List Int) : Link (N46 n) LL (cq [0,0,1,0,1] (bodyOf Tryd.f69)) (aq [0,0,1,0,1] N4d) ⟨mkE 22 0 [(0,.slc 0),(1,dL a),(10,.slc 1),(11,dI b),(12,dI c)],[some (sI d),some (sI g)]⟩ (N3a (Nd n) (N13 n) a b c d g) (Sum.elim (fun (t : Int × (List Int)) => (Exit.normal,⟨mkE 22 0 [(0,.slc 0),(1,dL a),(10,.slc 1),(11,dI b),(12,dI t.1)],[some (sI t.2),some (sI g)]⟩)) (fun (t : (List Int)) => ((Exit.exit 0),⟨mkE 22 0 [(0,.slc 0)],[some (sI t)]⟩))) := .of fun K h => by
  simp only [N3a,wpW] at h
  exact .of (by kernel_rfl) h
theorem Nxw (n : Nat) (a : List Int) : Link (N46 n) LL (cq [1,1] (bodyOf Tryd.f69)) (aq [1,1] N4d) ⟨mkE 22 0 [(0,.slc 0)],[some (sI a)]⟩ (N7z (Nd n) (N13 n) a) (fun (t : (List Int)) => (Exit.ret,⟨mkE 22 0 [(6,.slc 0)],[some (sI t)]⟩)) := .of fun K h => by
  simp only [N7z,wpW] at h
  exact .of (by kernel_rfl) h
theorem Nm5 (n : Nat) (a : List Int) (b : Int) (c : List Int) {r : AV} {H' : Heap} (h : (Ans.mk _ (N13 (n + 1) a b c) (fun (t : (List Int)) => (.slc 0,[some (sI t)])) [0] none).run = some (r,H')) : Awp (N46 n) LL (bodyOf Tryd.f69) N4d ⟨mkE 22 0 [(0,.slc 0),(1,dL a),(2,dW b)],[some (sI c)]⟩ (Ret (tlook tys) Tryd.f69.results.toList r H') :=
  ret_of' (Link.cast (by kernel_rfl) (by kernel_rfl) (link_seq (N102 n a b c) (fun (t : Unit) => (link_seq (link_seq (Nz5 n a b c) (fun (t : Int × (List Int)) => (link_block (fin2 := (fun (t20 : (List Int)) => (Exit.normal,⟨mkE 22 0 [(0,.slc 0)],[some (sI t20)]⟩))) (id := 0) (link_loop (mk := fun (s : Int × (List Int)) => ⟨mkE 22 0 [(0,.slc 0),(1,dL a),(10,.slc 1),(11,dI t.1),(12,dI s.1)],[some (sI s.2),some (sI t.2)]⟩) (fin := (fun (t20 : (List Int)) => ((Exit.exit 0),⟨mkE 22 0 [(0,.slc 0)],[some (sI t20)]⟩))) (by
  rintro t20 f K h
  · exact h) (fun s => link_map (Nuq n a t.1 s.1 s.2 t.2) (Sum.elim (fun (t20 : Int × (List Int)) => Sum.inl (t20.1,t20.2)) (fun (t20 : (List Int)) => Sum.inr t20)) (by
  rintro (t20 | t20)
  · kernel_rfl
  · kernel_rfl)) (0,c)) (fun (t20 : (List Int)) => t20) (by
  rintro t20 K h
  · exact Eq.mp (by kernel_rfl) h)))) (fun (t : (List Int)) => (Nxw n t)))))) (by (show _ = _); kernel_rfl) (by
  intro t
  exact ret_mk [.slc 0] (by kernel_rfl) (by kernel_rfl) (by kernel_rfl) (by kernel_rfl)) h
theorem Np3 (n : Nat) (h66 : Sound Tryd.prog 66 (Nq n)) (h69 : Sound Tryd.prog 69 (Nr n)) : Sound Tryd.prog 66 (Nq (n + 1)) := by
  refine fn_sound' (C := Ncm n) (c := bodyOf Tryd.f66) (cok_of tys_ok (allc Nlx (allc h69 alln)) (allc Tryd.call68 (allc Tryd.call69 alln)) (by kernel_rfl)) Tryd.func66 (by kernel_rfl) LL Nac ?_
  intro avs H r H' h
  unfold Nq at h
  split at h
  · refine Awp.cast ?_ ?_ ?_ (Nsa n _ _ _ h) <;> kernel_rfl
  · simp [Ans.no,Ans.run] at h
theorem Nq3 : Sound Tryd.prog 66 (Nq 0) := by
  intro avs H r H' h
  unfold Nq at h
  split at h
  · simp [Nd,N2,Ans.run] at h
  · simp [Ans.no,Ans.run] at h
theorem Nko (n : Nat) (h66 : Sound Tryd.prog 66 (Nq n)) (h69 : Sound Tryd.prog 69 (Nr n)) : Sound Tryd.prog 69 (Nr (n + 1)) := by
  refine fn_sound' (C := N46 n) (c := bodyOf Tryd.f69) (cok_of tys_ok (allc Nls (allc h66 alln)) (allc Tryd.call72 (allc Tryd.call66 alln)) (by kernel_rfl)) Tryd.func69 (by kernel_rfl) LL N4d ?_
  intro avs H r H' h
  unfold Nr at h
  split at h
  · refine Awp.cast ?_ ?_ ?_ (Nm5 n _ _ _ h) <;> kernel_rfl
  · simp [Ans.no,Ans.run] at h
theorem No5 : Sound Tryd.prog 69 (Nr 0) := by
  intro avs H r H' h
  unfold Nr at h
  split at h
  · simp [N13,N2,Ans.run] at h
  · simp [Ans.no,Ans.run] at h
theorem Ndj : ∀ n,Sound Tryd.prog 66 (Nq n) ∧ Sound Tryd.prog 69 (Nr n)
  | 0 => ⟨Nq3,No5⟩
  | n + 1 => by
    obtain ⟨h66,h69⟩ := Ndj n
    exact ⟨Np3 n h66 h69,Nko n h66 h69⟩
def N92 : Fun := fun avs H =>
  match avs,H with
  | [.slc 0,.dat (.list (.int .i64)) a,.dat (.int .i64) b],[some (.seq (.int .i64) c)] => ⟨_,N5p a b c,fun (t : (List Int)) => (.slc 0,[some (sI t)]),[0],none⟩
  | _,_ => Ans.no
theorem Ntl : Sound Tryd.prog 66 N92 := by
  have e : N92 = Nq RR := by
    funext avs H
    unfold N92 Nq
    split <;> first | rfl | (simp only [N5p])
  rw [e]
  exact (Ndj RR).1
def Ndy : Fun := fun avs H =>
  match avs,H with
  | [.slc 0,.dat (.list (.int .i64)) a,.dat (.int .u64) b],[some (.seq (.int .i64) c)] => ⟨_,Nil a b c,fun (t : (List Int)) => (.slc 0,[some (sI t)]),[0],none⟩
  | _,_ => Ans.no
theorem N10q : Sound Tryd.prog 69 Ndy := by
  have e : Ndy = Nr RR := by
    funext avs H
    unfold Ndy Nr
    split <;> first | rfl | (simp only [Nil])
  rw [e]
  exact (Ndj RR).2

def Nen : Ann := (.seq (.leaf [0]) (.seq (.seq (.leaf [0,5]) (.cond (.seq (.leaf [2]) (.leaf [2])) (.leaf [0]))) (.seq (.draw [5,100006] [0,1,3,4,5,2,6,7] [] [2]) (.leaf [2]))))
noncomputable def Nbe : Ctx := ⟨tlook tys,olook [(42,N1f),(67,Nd8),(66,N92)],ioF,0,false,[]⟩
theorem Nl8 (a : List Int) : Link Nbe LL (bodyOf Tryd.f61) Nen ⟨mkE 13 0 [(0,dL a)],[]⟩ (N56 a) (fun (t : (List Int)) => (Exit.ret,⟨mkE 13 0 [(2,.slc 0)],[some (sI t)]⟩)) := .of fun K h => by
  simp only [N56,wpW] at h
  exact .of (by kernel_rfl) h
theorem Nsi (a : List Int) {r : AV} {H' : Heap} (h : (Ans.mk _ (N1y a) (fun (t : (List Int)) => (.slc 0,[some (sI t)])) [] none).run = some (r,H')) : Awp Nbe LL (bodyOf Tryd.f61) Nen ⟨mkE 13 0 [(0,dL a)],[]⟩ (Ret (tlook tys) Tryd.f61.results.toList r H') :=
  ret_of' (Nl8 a) (by unfold N1y; kernel_rfl) (by
  intro t
  exact ret_mk [.slc 0] (by kernel_rfl) (by kernel_rfl) (by kernel_rfl) (by kernel_rfl)) h
def Nek : Fun := fun avs H =>
  match avs,H with
  | [.dat (.list (.int .i64)) a],[] => ⟨_,N1y a,fun (t : (List Int)) => (.slc 0,[some (sI t)]),[],none⟩
  | _,_ => Ans.no
theorem No2 : Sound Tryd.prog 61 Nek := by
  refine fn_sound' (C := Nbe) (c := bodyOf Tryd.f61) (cok_of tys_ok (allc N1u (allc Nwi (allc Ntl alln))) (allc Tryd.call42 (allc Tryd.call67 (allc Tryd.call66 alln))) (by kernel_rfl)) Tryd.func61 (by kernel_rfl) LL Nen ?_
  intro avs H r H' h
  unfold Nek at h
  split at h
  · refine Awp.cast ?_ ?_ ?_ (Nsi _ h) <;> kernel_rfl
  · simp [Ans.no,Ans.run] at h

def Nec : Ann := (.seq (.leaf [0]) (.seq (.leaf [3]) (.seq (.leaf [2]) (.leaf [2]))))
noncomputable def Ncv : Ctx := ⟨tlook tys,olook [(61,Nek),(59,N8i)],ioF,0,false,[]⟩
theorem Nxo (a : List Int) : Link Ncv LL (bodyOf Tryd.f54) Nec ⟨mkE 13 0 [(0,dL a)],[]⟩ (N52 a) (fun (t : (List Int)) => (Exit.ret,⟨mkE 13 0 [(2,.slc 0)],[some (sI t)]⟩)) := .of fun K h => by
  simp only [N52,wpW] at h
  exact .of (by kernel_rfl) h
theorem Nqe (a : List Int) {r : AV} {H' : Heap} (h : (Ans.mk _ (N2m a) (fun (t : (List Int)) => (.slc 0,[some (sI t)])) [] none).run = some (r,H')) : Awp Ncv LL (bodyOf Tryd.f54) Nec ⟨mkE 13 0 [(0,dL a)],[]⟩ (Ret (tlook tys) Tryd.f54.results.toList r H') :=
  ret_of' (Nxo a) (by unfold N2m; kernel_rfl) (by
  intro t
  exact ret_mk [.slc 0] (by kernel_rfl) (by kernel_rfl) (by kernel_rfl) (by kernel_rfl)) h
def Ncq : Fun := fun avs H =>
  match avs,H with
  | [.dat (.list (.int .i64)) a],[] => ⟨_,N2m a,fun (t : (List Int)) => (.slc 0,[some (sI t)]),[],none⟩
  | _,_ => Ans.no
theorem Ns3 : Sound Tryd.prog 54 Ncq := by
  refine fn_sound' (C := Ncv) (c := bodyOf Tryd.f54) (cok_of tys_ok (allc No2 (allc Njj alln)) (allc Tryd.call61 (allc Tryd.call59 alln)) (by kernel_rfl)) Tryd.func54 (by kernel_rfl) LL Nec ?_
  intro avs H r H' h
  unfold Ncq at h
  split at h
  · refine Awp.cast ?_ ?_ ?_ (Nqe _ h) <;> kernel_rfl
  · simp [Ans.no,Ans.run] at h

def Ne0 : Ann := (.seq (.leaf [0,3]) (.seq (.seq (.leaf [0,3,7]) (.block (.seq (.leaf [0,3,7,8]) (.cond (.seq (.seq (.leaf [0,3,14]) (.cond (.seq (.leaf [4]) (.leaf [4])) (.leaf [0,3]))) (.seq (.leaf [3,5]) (.seq (.leaf [5]) (.seq (.leaf [4]) (.leaf [4]))))) (.seq (.leaf [0,3,7,25]) (.cond (.seq (.draw [1,4] [0,2,3,4,1,5,6] [] [4]) (.leaf [4])) (.seq (.leaf [0,7,33]) (.cond (.seq (.leaf [4]) (.leaf [4])) (.seq (.leaf [0,7,41]) (.cond (.seq (.leaf [4]) (.leaf [4])) (.seq (.leaf [0,45]) (.cond (.seq (.leaf [4]) (.leaf [4])) (.leaf []))))))))))))) (.seq (.leaf [4]) (.leaf [4]))))
noncomputable def Nb5 : Ctx := ⟨tlook tys,olook [(52,Ndz),(44,Nau),(53,Nde),(54,Ncq)],ioF,0,false,[]⟩
theorem Nx4 (a : List Int) (b c d : Int) : Link Nb5 LL (bodyOf Tryd.f45) Ne0 ⟨mkE 49 0 [(0,dL a),(1,.agg [dI b,dI c,dI d])],[]⟩ (N5n a b c d) (fun (t : (List Int)) => (Exit.ret,⟨mkE 49 0 [(4,.slc 0)],[some (sI t)]⟩)) := .of fun K h => by
  simp only [N5n,wpW] at h
  exact .of (by kernel_rfl) h
theorem Nlc (a : List Int) (b c d : Int) {r : AV} {H' : Heap} (h : (Ans.mk _ (N2e a b c d) (fun (t : (List Int)) => (.slc 0,[some (sI t)])) [] none).run = some (r,H')) : Awp Nb5 LL (bodyOf Tryd.f45) Ne0 ⟨mkE 49 0 [(0,dL a),(1,.agg [dI b,dI c,dI d])],[]⟩ (Ret (tlook tys) Tryd.f45.results.toList r H') :=
  ret_of' (Nx4 a b c d) (by unfold N2e; kernel_rfl) (by
  intro t
  exact ret_mk [.slc 0] (by kernel_rfl) (by kernel_rfl) (by kernel_rfl) (by kernel_rfl)) h
def Nbb : Fun := fun avs H =>
  match avs,H with
  | [.dat (.list (.int .i64)) a,.agg [.dat (.int .i64) b,.dat (.int .i64) c,.dat (.int .i64) d]],[] => ⟨_,N2e a b c d,fun (t : (List Int)) => (.slc 0,[some (sI t)]),[],none⟩
  | _,_ => Ans.no
theorem Ntq : Sound Tryd.prog 45 Nbb := by
  refine fn_sound' (C := Nb5) (c := bodyOf Tryd.f45) (cok_of tys_ok (allc Nwt (allc Ni6 (allc Ntm (allc Ns3 alln)))) (allc Tryd.call52 (allc Tryd.call44 (allc Tryd.call53 (allc Tryd.call54 alln)))) (by kernel_rfl)) Tryd.func45 (by kernel_rfl) LL Ne0 ?_
  intro avs H r H' h
  unfold Nbb at h
  split at h
  · refine Awp.cast ?_ ?_ ?_ (Nlc _ _ _ _ h) <;> kernel_rfl
  · simp [Ans.no,Ans.run] at h

def N1g : Ann := (.seq (.leaf [0,1]) (.seq (.seq (.leaf [0,1,10]) (.cond (.seq (.leaf [4]) (.leaf [4])) (.leaf [0,1]))) (.seq (.seq (.leaf [0,1,12,13]) (.block (.loop (.seq (.leaf [0,1,12,13,14]) (.seq (.cond (.leaf [0,1,12,13]) (.leaf [])) (.seq (.block (.seq (.leaf [0,1,5,12,13]) (.seq (.draw [] [0,1,2,3,4,5,6,7,8] [] [0,1,12,13,24]) (.cond (.seq (.leaf [4]) (.leaf [4])) (.leaf [0,1,12,13]))))) (.leaf [0,1,12,13]))))))) (.seq (.leaf [4]) (.leaf [4])))))
noncomputable def N3j : Ctx := ⟨tlook tys,olook [],ioF,0,false,[]⟩
theorem Noe (a b : List Int) : Link N3j LL (Code.seq (cq [0] (bodyOf Tryd.f46)) (cq [0,1] (bodyOf Tryd.f46))) (Ann.seq (aq [0] N1g) (aq [0,1] N1g)) ⟨mkE 26 0 [(0,dL a),(1,dL b)],[]⟩ (N8d a b) (Sum.elim (fun (t : Unit) => (Exit.normal,⟨mkE 26 0 [(0,dL a),(1,dL b)],[]⟩)) (fun (t : Bool) => (Exit.ret,⟨mkE 26 0 [(4,dB t)],[]⟩))) := .of fun K h => by
  simp only [N8d,wpW] at h
  exact .of (by kernel_rfl) h
theorem Nys (a b : List Int) : Link N3j LL (cq [0,0,1,1] (bodyOf Tryd.f46)) (aq [0,0,1,1] N1g) ⟨mkE 26 0 [(0,dL a),(1,dL b)],[]⟩ (N7x a) (fun (t : Int) => (Exit.normal,⟨mkE 26 0 [(0,dL a),(1,dL b),(12,dI t),(13,dI 0)],[]⟩)) := .of fun K h => by
  simp only [N7x,wpW] at h
  exact .of (by kernel_rfl) h
theorem Nzn (a b : List Int) (c d : Int) : Link N3j LL (cq [0,0,1,0,1,1] (bodyOf Tryd.f46)) (aq [0,0,1,0,1,1] N1g) ⟨mkE 26 0 [(0,dL a),(1,dL b),(12,dI c),(13,dI d)],[]⟩ (N2u a b c d) (Sum.elim (fun (t : Int) => (Exit.normal,⟨mkE 26 0 [(0,dL a),(1,dL b),(12,dI c),(13,dI t)],[]⟩)) (Sum.elim (fun (t : Bool) => (Exit.ret,⟨mkE 26 0 [(4,dB t)],[]⟩)) (fun (t : Unit) => ((Exit.exit 0),⟨mkE 26 0 [],[]⟩)))) := .of fun K h => by
  simp only [N2u,wpW] at h
  exact .of (by kernel_rfl) h
theorem Nog : Link N3j LL (cq [1,1,1] (bodyOf Tryd.f46)) (aq [1,1,1] N1g) ⟨mkE 26 0 [],[]⟩ (Nbv) (fun (t : Bool) => (Exit.ret,⟨mkE 26 0 [(4,dB t)],[]⟩)) := .of fun K h => by
  simp only [Nbv,wpW] at h
  exact .of (by kernel_rfl) h
theorem Nrp (b d : List Int) {r : AV} {H' : Heap} (h : (Ans.mk _ (N27 b d) (fun (t : Bool) => (dB t,[])) [] none).run = some (r,H')) : Awp N3j LL (bodyOf Tryd.f46) N1g ⟨mkE 26 0 [(0,dL b),(1,dL d)],[]⟩ (Ret (tlook tys) Tryd.f46.results.toList r H') :=
  ret_of' (Link.cast (by kernel_rfl) (by kernel_rfl) (link_group (c := (cq [0,1] (bodyOf Tryd.f46))) (a := (aq [0,1] N1g)) [(cq [0] (bodyOf Tryd.f46))] [(aq [0] N1g)] rfl (link_seq2 (Noe b d) (fun (t : Unit) => (link_seq2 (link_seq (Nys b d) (fun (t : Int) => (link_block (fin2 := (Sum.elim (fun (t21 : Unit) => (Exit.normal,⟨mkE 26 0 [],[]⟩)) (fun (t21 : Bool) => (Exit.ret,⟨mkE 26 0 [(4,dB t21)],[]⟩)))) (id := 0) (link_loop (mk := fun (s : Int) => ⟨mkE 26 0 [(0,dL b),(1,dL d),(12,dI t),(13,dI s)],[]⟩) (fin := (Sum.elim (fun (t21 : Bool) => (Exit.ret,⟨mkE 26 0 [(4,dB t21)],[]⟩)) (fun (t21 : Unit) => ((Exit.exit 0),⟨mkE 26 0 [],[]⟩)))) (by
  rintro (t21 | t21) f K h
  · exact h
  · exact h) (fun s => link_map (Nzn b d t s) (Sum.elim (fun (t21 : Int) => Sum.inl t21) (Sum.elim (fun (t21 : Bool) => Sum.inr (Sum.inl t21)) (fun (t21 : Unit) => Sum.inr (Sum.inr t21)))) (by
  rintro (t21 | t21 | t21)
  · kernel_rfl
  · kernel_rfl
  · kernel_rfl)) 0) (Sum.elim (fun (t21 : Bool) => (Sum.inr t21)) (fun (t21 : Unit) => (Sum.inl ()))) (by
  rintro (t21 | t21) K h
  · exact Eq.mp (by kernel_rfl) h
  · exact Eq.mp (by kernel_rfl) h)))) (fun (t : Unit) => (Nog)) (fun (t : Bool) => t) (by
  rintro t
  · kernel_rfl) (by
  rintro t f K h
  · exact h))) (fun (t : Bool) => t) (by
  rintro t
  · kernel_rfl) (by
  rintro t f K h
  · exact h)))) (by unfold N27; kernel_rfl) (by
  intro t
  exact ret_mk [dB t] (by kernel_rfl) (by kernel_rfl) (by kernel_rfl) (by kernel_rfl)) h
def Naj : Fun := fun avs H =>
  match avs,H with
  | [.dat (.list (.int .i64)) a,.dat (.list (.int .i64)) b],[] => ⟨_,N27 a b,fun (t : Bool) => (dB t,[]),[],none⟩
  | _,_ => Ans.no
theorem Nwa : Sound Tryd.prog 46 Naj := by
  refine fn_sound' (C := N3j) (c := bodyOf Tryd.f46) (cok_of tys_ok (alln) (alln) (by kernel_rfl)) Tryd.func46 (by kernel_rfl) LL N1g ?_
  intro avs H r H' h
  unfold Naj at h
  split at h
  · refine Awp.cast ?_ ?_ ?_ (Nrp _ _ h) <;> kernel_rfl
  · simp [Ans.no,Ans.run] at h

def ren_slices_Clone_ints_int : Go.Shelf.Ren := ⟨fun | 41 => 47 | n => n,fun | 4 => 4 | 22 => 23 | 23 => 22 | n => n,fun n => n⟩
theorem lay_slices_Clone_ints_int : SlLaysE0.n41 Tryd.prog ren_slices_Clone_ints_int := {
  mixed := by kernel_rfl
  f41 := ⟨Tryd.f47.name,by kernel_rfl,Tryd.func47.trans (congrArg some (by kernel_rfl))⟩
  t4 := Tryd.underlying4
  a4 := Tryd.isAgg4
  z4 := Tryd.sizeOf4
  v4 := Tryd.zeroValue4
  t22 := Tryd.underlying23
  a22 := Tryd.isAgg23
  z22 := Tryd.sizeOf23
  v22 := Tryd.zeroValue23 }
def Njk : Fun := F_cloneD
theorem No3 : Sound Tryd.prog 47 Njk := cloneD_sound lay_slices_Clone_ints_int (infoOf (Tryd.prog.info? 22)) (.slice none 0 0) 24 (by kernel_rfl) (by kernel_rfl) (by kernel_rfl) (by kernel_rfl) (by kernel_rfl) (by decide) Tryd.sizeOf22

def Ncz : Ann := (.seq (.leaf [2,3,4]) (.seq (.leaf [2,4,6]) (.seq (.seq (.leaf [2,4,6,20]) (.cond (.seq (.leaf [4,5]) (.leaf [4,5])) (.leaf [2,4,6]))) (.seq (.draw [2,5] [0,1,3,4,5,2,6,7] [] [4,6,7]) (.seq (.leaf [4,5]) (.leaf [4,5]))))))
noncomputable def Ne1 : Ctx := ⟨tlook tys,olook [(45,Nbb),(42,N1f),(29,N4h),(46,Naj),(47,Njk)],ioF,0,true,[]⟩
theorem Nwv (a : List Int) (b : List (List Int)) (c d g : Int) : Link Ne1 LL (bodyOf Tryd.f31) Ncz ⟨mkE 41 0 [(0,.agg [dL a,.dat (.list (.list (.int .i64))) b]),(1,.agg [dI c,dI d,dI g])],[]⟩ (N54 a b c d g) (fun (t : Bool × (List Int) × (List (List Int))) => (Exit.ret,⟨mkE 41 0 [(4,.ptr 0 0),(5,dB t.1)],[some (.box [.slc 1,.slc 2]),some (sI t.2.1),some (.nest (.int .i64) t.2.2 0 [])]⟩)) := .of fun K h => by
  simp only [N54,wpW] at h
  exact .of (by kernel_rfl) h
theorem Nom (a : List Int) (b : List (List Int)) (c d g : Int) {r : AV} {H' : Heap} (h : (Ans.mk _ (N2i a b c d g) (fun (t : Bool × (List Int) × (List (List Int))) => (.tup [.agg [.slc 1,.slc 2],dB t.1],[some (.box [.slc 1,.slc 2]),some (sI t.2.1),some (.nest (.int .i64) t.2.2 0 [])])) [] none).run = some (r,H')) : Awp Ne1 LL (bodyOf Tryd.f31) Ncz ⟨mkE 41 0 [(0,.agg [dL a,.dat (.list (.list (.int .i64))) b]),(1,.agg [dI c,dI d,dI g])],[]⟩ (Ret (tlook tys) Tryd.f31.results.toList r H') :=
  ret_of' (Nwv a b c d g) (by unfold N2i; kernel_rfl) (by
  intro t
  exact ret_mk [.agg [.slc 1,.slc 2],dB t.1] (by kernel_rfl) (by kernel_rfl) (by kernel_rfl) (by kernel_rfl)) h
def Ndt : Fun := fun avs H =>
  match avs,H with
  | [.agg [.dat (.list (.int .i64)) a,.dat (.list (.list (.int .i64))) b],.agg [.dat (.int .i64) c,.dat (.int .i64) d,.dat (.int .i64) g]],[] => ⟨_,N2i a b c d g,fun (t : Bool × (List Int) × (List (List Int))) => (.tup [.agg [.slc 1,.slc 2],dB t.1],[some (.box [.slc 1,.slc 2]),some (sI t.2.1),some (.nest (.int .i64) t.2.2 0 [])]),[],none⟩
  | _,_ => Ans.no
theorem Nnw : Sound Tryd.prog 31 Ndt := by
  refine fn_sound' (C := Ne1) (c := bodyOf Tryd.f31) (cok_of tys_ok (allc Ntq (allc N1u (allc N6c (allc Nwa (allc No3 alln))))) (allc Tryd.call45 (allc Tryd.call42 (allc Tryd.call29 (allc Tryd.call46 (allc Tryd.call47 alln))))) (by kernel_rfl)) Tryd.func31 (by kernel_rfl) LL Ncz ?_
  intro avs H r H' h
  unfold Ndt at h
  split at h
  · refine Awp.cast ?_ ?_ ?_ (Nom _ _ _ _ _ h) <;> kernel_rfl
  · simp [Ans.no,Ans.run] at h

def Ne9 : Ann := (.seq (.leaf [2,3,4]) (.seq (.seq (.leaf [2,3,4,8]) (.cond (.seq (.leaf [4,5]) (.leafF [⟨0,4,false,some 0,some (.int .i64)⟩,⟨0,4,true,some 1,some (.int .i64)⟩] [4,5])) (.leaf [2,3,4]))) (.seq (.seq (.leaf [2,3,4,12]) (.cond (.seq (.leaf [4,5]) (.leaf [4,5])) (.leaf [2,3,4]))) (.seq (.seq (.leaf [2,3,4,20]) (.cond (.seq (.leaf [4,5]) (.leaf [4,5])) (.leaf [2,3,4]))) (.seq (.leaf [4,5]) (.leaf [4,5]))))))
noncomputable def Nem : Ctx := ⟨tlook tys,olook [(27,N9j),(28,Nbi),(29,N4h),(30,Ndl),(31,Ndt)],ioF,0,true,[]⟩
theorem Nym (a : List Int) (b : List (List Int)) (c d g : Int) : Link Nem LL (bodyOf Tryd.f9) Ne9 ⟨mkE 30 0 [(0,.agg [dL a,.dat (.list (.list (.int .i64))) b]),(1,.agg [dI c,dI d,dI g])],[]⟩ (N5t a b c d g) (fun (t : Bool × (List Int) × (List (List Int))) => (Exit.ret,⟨mkE 30 0 [(4,.ptr 0 0),(5,dB t.1)],[some (.box [.slc 1,.slc 2]),some (sI t.2.1),some (.nest (.int .i64) t.2.2 0 [])]⟩)) := .of fun K h => by
  simp only [N5t,wpW] at h
  exact .of (by kernel_rfl) h
theorem Nm0 (a : List Int) (b : List (List Int)) (c d g : Int) {r : AV} {H' : Heap} (h : (Ans.mk _ (N2c a b c d g) (fun (t : Bool × (List Int) × (List (List Int))) => (.tup [.agg [.slc 1,.slc 2],dB t.1],[some (.box [.slc 1,.slc 2]),some (sI t.2.1),some (.nest (.int .i64) t.2.2 0 [])])) [] none).run = some (r,H')) : Awp Nem LL (bodyOf Tryd.f9) Ne9 ⟨mkE 30 0 [(0,.agg [dL a,.dat (.list (.list (.int .i64))) b]),(1,.agg [dI c,dI d,dI g])],[]⟩ (Ret (tlook tys) Tryd.f9.results.toList r H') :=
  ret_of' (Nym a b c d g) (by unfold N2c; kernel_rfl) (by
  intro t
  exact ret_mk [.agg [.slc 1,.slc 2],dB t.1] (by kernel_rfl) (by kernel_rfl) (by kernel_rfl) (by kernel_rfl)) h
def Nb1 : Fun := fun avs H =>
  match avs,H with
  | [.agg [.dat (.list (.int .i64)) a,.dat (.list (.list (.int .i64))) b],.agg [.dat (.int .i64) c,.dat (.int .i64) d,.dat (.int .i64) g]],[] => ⟨_,N2c a b c d g,fun (t : Bool × (List Int) × (List (List Int))) => (.tup [.agg [.slc 1,.slc 2],dB t.1],[some (.box [.slc 1,.slc 2]),some (sI t.2.1),some (.nest (.int .i64) t.2.2 0 [])]),[],none⟩
  | _,_ => Ans.no
theorem Nmq : Sound Tryd.prog 9 Nb1 := by
  refine fn_sound' (C := Nem) (c := bodyOf Tryd.f9) (cok_of tys_ok (allc Ngx (allc Nqj (allc N6c (allc Nzq (allc Nnw alln))))) (allc Tryd.call27 (allc Tryd.call28 (allc Tryd.call29 (allc Tryd.call30 (allc Tryd.call31 alln))))) (by kernel_rfl)) Tryd.func9 (by kernel_rfl) LL Ne9 ?_
  intro avs H r H' h
  unfold Nb1 at h
  split at h
  · refine Awp.cast ?_ ?_ ?_ (Nm0 _ _ _ _ _ h) <;> kernel_rfl
  · simp [Ans.no,Ans.run] at h

end Go.Rv
