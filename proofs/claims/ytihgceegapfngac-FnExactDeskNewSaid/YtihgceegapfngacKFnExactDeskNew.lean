/-
  The checked code answers as the plain functions do; written by program. Conditions: none.
-/
import Derived.Test.YtihgceegapfngacGFnExactDeskNew
import Derived.Test.YtihgceegapfngacFB
import Derived.Test.YtihgceegapfngacProg
set_option linter.unusedVariables false
set_option linter.unusedSimpArgs false
set_option linter.defProp false
set_option maxRecDepth 100000
namespace Go.Rv
open Go.Proofs
theorem ty3 : TIOk Try.prog 3 ⟨.int .i64, 1, 8, some (.int .i64), [.int .i64 0], false⟩ := ⟨⟨infoOf (Try.prog.info? 3), by kernel_rfl, by kernel_rfl, by kernel_rfl, .int .i64 0, by kernel_rfl, by kernel_rfl⟩, (by kernel_rfl : Try.prog.underlying 3 = some (.int .i64)), no_eq⟩
theorem ty4 : TIOk Try.prog 4 ⟨.bool, 1, 1, some .bool, [.bool false], false⟩ := ⟨⟨infoOf (Try.prog.info? 4), by kernel_rfl, by kernel_rfl, by kernel_rfl, .bool false, by kernel_rfl, by kernel_rfl⟩, (by kernel_rfl : Try.prog.underlying 4 = some .bool), no_eq⟩
theorem ty22 : TIOk Try.prog 22 ⟨.slice 3, 1, 24, some (.list (.int .i64)), [.slice none 0 0], false⟩ := ⟨⟨infoOf (Try.prog.info? 22), by kernel_rfl, by kernel_rfl, by kernel_rfl, .slice none 0 0, by kernel_rfl, by kernel_rfl⟩, (by kernel_rfl : Try.prog.underlying 22 = some (.slice 3)), no_eq⟩
theorem ty23 : TIOk Try.prog 23 ⟨.slice 22, 1, 24, some (.list (.list (.int .i64))), [.slice none 0 0], false⟩ := ⟨⟨infoOf (Try.prog.info? 23), by kernel_rfl, by kernel_rfl, by kernel_rfl, .slice none 0 0, by kernel_rfl, by kernel_rfl⟩, (by kernel_rfl : Try.prog.underlying 23 = some (.slice 22)), no_eq⟩
theorem ty25 : TIOk Try.prog 25 ⟨.strct [(0, 22), (1, 23)], 2, 48, some (.pair (.list (.int .i64)) (.pair (.list (.list (.int .i64))) .unit)), [.slice none 0 0, .slice none 0 0], false⟩ := ⟨⟨infoOf (Try.prog.info? 25), by kernel_rfl, by kernel_rfl, by kernel_rfl, .agg #[.slice none 0 0, .slice none 0 0], by kernel_rfl, by kernel_rfl⟩, ⟨fieldsOf (Try.prog.underlying 25), by kernel_rfl, by kernel_rfl⟩, no_eq⟩
theorem ty28 : TIOk Try.prog 28 ⟨.strct [(0, 22), (1, 23)], 2, 48, some (.pair (.list (.int .i64)) (.pair (.list (.list (.int .i64))) .unit)), [.slice none 0 0, .slice none 0 0], false⟩ := ⟨⟨infoOf (Try.prog.info? 28), by kernel_rfl, by kernel_rfl, by kernel_rfl, .agg #[.slice none 0 0, .slice none 0 0], by kernel_rfl, by kernel_rfl⟩, ⟨fieldsOf (Try.prog.underlying 28), by kernel_rfl, by kernel_rfl⟩, no_eq⟩
theorem ty47 : TIOk Try.prog 47 ⟨.strct [(0, 22), (1, 3), (2, 3)], 3, 40, some (.pair (.list (.int .i64)) (.pair (.int .i64) (.pair (.int .i64) .unit))), [.slice none 0 0, .int .i64 0, .int .i64 0], false⟩ := ⟨⟨infoOf (Try.prog.info? 47), by kernel_rfl, by kernel_rfl, by kernel_rfl, .agg #[.slice none 0 0, .int .i64 0, .int .i64 0], by kernel_rfl, by kernel_rfl⟩, ⟨fieldsOf (Try.prog.underlying 47), by kernel_rfl, by kernel_rfl⟩, no_eq⟩
def tys : List (TypeId × TI) := [(3, ⟨.int .i64, 1, 8, some (.int .i64), [.int .i64 0], false⟩), (4, ⟨.bool, 1, 1, some .bool, [.bool false], false⟩), (22, ⟨.slice 3, 1, 24, some (.list (.int .i64)), [.slice none 0 0], false⟩), (23, ⟨.slice 22, 1, 24, some (.list (.list (.int .i64))), [.slice none 0 0], false⟩), (25, ⟨.strct [(0, 22), (1, 23)], 2, 48, some (.pair (.list (.int .i64)) (.pair (.list (.list (.int .i64))) .unit)), [.slice none 0 0, .slice none 0 0], false⟩), (28, ⟨.strct [(0, 22), (1, 23)], 2, 48, some (.pair (.list (.int .i64)) (.pair (.list (.list (.int .i64))) .unit)), [.slice none 0 0, .slice none 0 0], false⟩), (47, ⟨.strct [(0, 22), (1, 3), (2, 3)], 3, 40, some (.pair (.list (.int .i64)) (.pair (.int .i64) (.pair (.int .i64) .unit))), [.slice none 0 0, .int .i64 0, .int .i64 0], false⟩)]
theorem tys_ok : TOk Try.prog (tlook tys) := tok_of (allc ty3 (allc ty4 (allc ty22 (allc ty23 (allc ty25 (allc ty28 (allc ty47 alln)))))))
def ioF (f : FuncId) (i : Nat) : Bool := [(14, 0), (15, 0), (24, 0)].any fun (p : Nat × Nat) => Nat.beq p.1 f && Nat.beq p.2 i


/-! loop.example/headtrees/laws.toIntS -/

def laws_toIntS_an : Ann := (.seq (.leaf [0]) (.seq (.leaf [0, 3]) (.seq (.seq (.leaf [0, 3, 4]) (.block (.loop (.seq (.seq (.leaf [0, 3, 4, 11]) (.cond (.leaf [0, 3, 4]) (.leaf [3]))) (.seq (.block (.leaf [0, 3, 4])) (.leaf [0, 3, 4])))))) (.seq (.leaf [2]) (.leaf [2])))))

noncomputable def laws_toIntS_ctx : Ctx := ⟨tlook tys, olook [], ioF, 0, false, []⟩

theorem laws_toIntS_n1_l (x855 : List Int) : Link laws_toIntS_ctx LL (Code.seq (cq [0] (bodyOf Try.f11)) (cq [0,1] (bodyOf Try.f11))) (Ann.seq (aq [0] laws_toIntS_an) (aq [0,1] laws_toIntS_an)) ⟨mkE 22 0 [(0, dL x855)], []⟩ (laws_toIntS_n1 x855) (fun (t : (List Int)) => (Exit.normal, ⟨mkE 22 0 [(0, dL x855), (3, .slc 0)], [some (sI t)]⟩)) := .of fun K h => by
  simp only [laws_toIntS_n1, wpW] at h
  exact .of (by kernel_rfl) h

theorem laws_toIntS_n2_l (x855 : List Int) (x858 : List Int) : Link laws_toIntS_ctx LL (cq [0,0,1,1] (bodyOf Try.f11)) (aq [0,0,1,1] laws_toIntS_an) ⟨mkE 22 0 [(0, dL x855), (3, .slc 0)], [some (sI x858)]⟩ (laws_toIntS_n2) (fun (t : Unit) => (Exit.normal, ⟨mkE 22 0 [(0, dL x855), (3, .slc 0), (4, dI 0)], [some (sI x858)]⟩)) := .of fun K h => by
  simp only [laws_toIntS_n2, wpW] at h
  exact .of (by kernel_rfl) h

theorem laws_toIntS_n3_l (x855 : List Int) (x872 : Int) (x873 : List Int) : Link laws_toIntS_ctx LL (cq [0,0,1,0,1,1] (bodyOf Try.f11)) (aq [0,0,1,0,1,1] laws_toIntS_an) ⟨mkE 22 0 [(0, dL x855), (3, .slc 0), (4, dI x872)], [some (sI x873)]⟩ (laws_toIntS_n3 x855 x872 x873) (Sum.elim (fun (t : Int × (List Int)) => (Exit.normal, ⟨mkE 22 0 [(0, dL x855), (3, .slc 0), (4, dI t.1)], [some (sI t.2)]⟩)) (fun (t : (List Int)) => ((Exit.exit 0), ⟨mkE 22 0 [(3, .slc 0)], [some (sI t)]⟩))) := .of fun K h => by
  simp only [laws_toIntS_n3, wpW] at h
  exact .of (by kernel_rfl) h

def laws_toIntS_n4_l (x855 : List Int) (x858 : List Int) := (link_loop (mk := fun (s : Int × (List Int)) => ⟨mkE 22 0 [(0, dL x855), (3, .slc 0), (4, dI s.1)], [some (sI s.2)]⟩) (fin := (fun (t : (List Int)) => ((Exit.exit 0), ⟨mkE 22 0 [(3, .slc 0)], [some (sI t)]⟩))) (by
  rintro t f K h
  · exact h) (fun s => link_map (laws_toIntS_n3_l x855 s.1 s.2) (Sum.elim (fun (t : Int × (List Int)) => Sum.inl (t.1, t.2)) (fun (t : (List Int)) => Sum.inr t)) (by
  rintro (t | t)
  · kernel_rfl
  · kernel_rfl)) (0, x858))

def laws_toIntS_n5_l (x855 : List Int) (x858 : List Int) := (link_block (fin2 := (fun (t : (List Int)) => (Exit.normal, ⟨mkE 22 0 [(3, .slc 0)], [some (sI t)]⟩))) (id := 0) (laws_toIntS_n4_l x855 x858) (fun (t : (List Int)) => t) (by
  rintro t K h
  · exact Eq.mp (by kernel_rfl) h))

def laws_toIntS_n6_l (x855 : List Int) (x858 : List Int) := (link_seq (laws_toIntS_n2_l x855 x858) (fun (t : Unit) => (laws_toIntS_n5_l x855 x858)))

theorem laws_toIntS_n7_l (x873 : List Int) : Link laws_toIntS_ctx LL (cq [1,1,1] (bodyOf Try.f11)) (aq [1,1,1] laws_toIntS_an) ⟨mkE 22 0 [(3, .slc 0)], [some (sI x873)]⟩ (laws_toIntS_n7 x873) (fun (t : (List Int)) => (Exit.ret, ⟨mkE 22 0 [(2, .slc 0)], [some (sI t)]⟩)) := .of fun K h => by
  simp only [laws_toIntS_n7, wpW] at h
  exact .of (by kernel_rfl) h

def laws_toIntS_n8_l (x855 : List Int) (x858 : List Int) := (link_seq (laws_toIntS_n6_l x855 x858) (fun (t : (List Int)) => (laws_toIntS_n7_l t)))

def laws_toIntS_n9_l (x855 : List Int) := (link_group (c := (cq [0,1] (bodyOf Try.f11))) (a := (aq [0,1] laws_toIntS_an)) [(cq [0] (bodyOf Try.f11))] [(aq [0] laws_toIntS_an)] rfl (link_seq (laws_toIntS_n1_l x855) (fun (t : (List Int)) => (laws_toIntS_n8_l x855 t))))

theorem laws_toIntS_e (x855 : List Int) {r : AV} {H' : Heap} (h : (Ans.mk _ (laws_toIntS x855) (fun (t : (List Int)) => (.slc 0, [some (sI t)])) [] none).run = some (r, H')) : Awp laws_toIntS_ctx LL (bodyOf Try.f11) laws_toIntS_an ⟨mkE 22 0 [(0, dL x855)], []⟩ (Ret (tlook tys) Try.f11.results.toList r H') :=
  ret_of' (Link.cast (by kernel_rfl) (by kernel_rfl) (laws_toIntS_n9_l x855)) (by unfold laws_toIntS; kernel_rfl) (by
  intro t
  exact ret_mk [.slc 0] (by kernel_rfl) (by kernel_rfl) (by kernel_rfl) (by kernel_rfl)) h

def F_laws_toIntS : Fun := fun avs H =>
  match avs, H with
  | [.dat (.list (.int .i64)) x855], [] => ⟨_, laws_toIntS x855, fun (t : (List Int)) => (.slc 0, [some (sI t)]), [], none⟩
  | _, _ => Ans.no

theorem laws_toIntS_sound : Sound Try.prog 11 F_laws_toIntS := by
  refine fn_sound' (C := laws_toIntS_ctx) (c := bodyOf Try.f11) (cok_of tys_ok (alln) (alln) (by kernel_rfl)) Try.func11 (by kernel_rfl) LL laws_toIntS_an ?_
  intro avs H r H' h
  unfold F_laws_toIntS at h
  split at h
  · refine Awp.cast ?_ ?_ ?_ (laws_toIntS_e _ h) <;> kernel_rfl
  · simp [Ans.no, Ans.run] at h


/-! loop.example/headtrees/spec.l1In -/

def spec_l1In_an : Ann := (.seq (.leaf [0, 1, 2]) (.seq (.leaf [6]) (.leaf [6])))

noncomputable def spec_l1In_ctx : Ctx := ⟨tlook tys, olook [], ioF, 0, false, []⟩

theorem spec_l1In_n1_l (x953 : Int) (x954 : Int) (x955 : Int) : Link spec_l1In_ctx LL (bodyOf Try.f27) spec_l1In_an ⟨mkE 15 0 [(0, dI x953), (1, dI x954), (2, dI x955)], []⟩ (spec_l1In_n1 x953 x954 x955) (fun (t : Bool) => (Exit.ret, ⟨mkE 15 0 [(6, dB t)], []⟩)) := .of fun K h => by
  simp only [spec_l1In_n1, wpW] at h
  exact .of (by kernel_rfl) h

theorem spec_l1In_e (x953 : Int) (x954 : Int) (x955 : Int) {r : AV} {H' : Heap} (h : (Ans.mk _ (spec_l1In x953 x954 x955) (fun (t : Bool) => (dB t, [])) [] none).run = some (r, H')) : Awp spec_l1In_ctx LL (bodyOf Try.f27) spec_l1In_an ⟨mkE 15 0 [(0, dI x953), (1, dI x954), (2, dI x955)], []⟩ (Ret (tlook tys) Try.f27.results.toList r H') :=
  ret_of' (spec_l1In_n1_l x953 x954 x955) (by unfold spec_l1In; kernel_rfl) (by
  intro t
  exact ret_mk [dB t] (by kernel_rfl) (by kernel_rfl) (by kernel_rfl) (by kernel_rfl)) h

def F_spec_l1In : Fun := fun avs H =>
  match avs, H with
  | [.dat (.int .i64) x953, .dat (.int .i64) x954, .dat (.int .i64) x955], [] => ⟨_, spec_l1In x953 x954 x955, fun (t : Bool) => (dB t, []), [], none⟩
  | _, _ => Ans.no

theorem spec_l1In_sound : Sound Try.prog 27 F_spec_l1In := by
  refine fn_sound' (C := spec_l1In_ctx) (c := bodyOf Try.f27) (cok_of tys_ok (alln) (alln) (by kernel_rfl)) Try.func27 (by kernel_rfl) LL spec_l1In_an ?_
  intro avs H r H' h
  unfold F_spec_l1In at h
  split at h
  · refine Awp.cast ?_ ?_ ?_ (spec_l1In_e _ _ _ h) <;> kernel_rfl
  · simp [Ans.no, Ans.run] at h


/-! loop.example/headtrees/spec.TreeOk -/

def spec_TreeOk_an : Ann := (.seq (.leaf [0]) (.seq (.leaf [0, 3]) (.seq (.seq (.leaf [0, 3, 12]) (.cond (.seq (.leaf [2]) (.leaf [2])) (.leaf [0, 3]))) (.seq (.leaf [0, 3, 4]) (.seq (.seq (.leaf [0, 3, 4, 5]) (.block (.loop (.seq (.seq (.leaf [0, 3, 4, 5, 15]) (.cond (.leaf [0, 3, 4, 5]) (.leaf [4]))) (.seq (.block (.seq (.seq (.leaf [0, 3, 4, 5, 33]) (.cond (.seq (.leaf [2]) (.leaf [2])) (.leaf [0, 3, 4, 5]))) (.seq (.seq (.leaf [0, 3, 4, 5, 38]) (.cond (.leaf [0, 3, 4, 5]) (.leaf [0, 3, 4, 5]))) (.seq (.leaf [0, 3, 4, 5, 6]) (.seq (.seq (.leaf [0, 3, 4, 5, 6, 7]) (.block (.loop (.seq (.seq (.leaf [0, 3, 4, 5, 6, 7, 49]) (.cond (.leaf [0, 3, 4, 5, 6, 7]) (.leaf [0, 3, 4, 5, 6]))) (.seq (.block (.seq (.leaf [0, 3, 4, 5, 6, 7]) (.seq (.leaf [0, 3, 4, 5, 6, 7, 60]) (.cond (.seq (.leaf [2]) (.leaf [2])) (.leaf [0, 3, 4, 5, 6, 7]))))) (.leaf [0, 3, 4, 5, 6, 7])))))) (.seq (.leaf [0, 3, 4, 5, 62]) (.cond (.seq (.leaf [2]) (.leaf [2])) (.leaf [0, 3, 4, 5])))))))) (.leaf [0, 3, 4, 5])))))) (.seq (.leaf [2]) (.leaf [2])))))))

noncomputable def spec_TreeOk_ctx : Ctx := ⟨tlook tys, olook [(27, F_spec_l1In)], ioF, 0, false, []⟩

theorem spec_TreeOk_n1_l (x950 : List Int) : Link spec_TreeOk_ctx LL (Code.seq (cq [0] (bodyOf Try.f19)) (Code.seq (cq [0,1] (bodyOf Try.f19)) (Code.seq (cq [0,1,1] (bodyOf Try.f19)) (cq [0,1,1,1] (bodyOf Try.f19))))) (Ann.seq (aq [0] spec_TreeOk_an) (Ann.seq (aq [0,1] spec_TreeOk_an) (Ann.seq (aq [0,1,1] spec_TreeOk_an) (aq [0,1,1,1] spec_TreeOk_an)))) ⟨mkE 65 0 [(0, dL x950)], []⟩ (spec_TreeOk_n1 x950) (Sum.elim (fun (t : Int) => (Exit.normal, ⟨mkE 65 0 [(0, dL x950), (3, dI t), (4, dI 0)], []⟩)) (fun (t : Bool) => (Exit.ret, ⟨mkE 65 0 [(2, dB t)], []⟩))) := .of fun K h => by
  simp only [spec_TreeOk_n1, wpW] at h
  exact .of (by kernel_rfl) h

theorem spec_TreeOk_n2_l (x950 : List Int) (x963 : Int) : Link spec_TreeOk_ctx LL (cq [0,0,1,1,1,1] (bodyOf Try.f19)) (aq [0,0,1,1,1,1] spec_TreeOk_an) ⟨mkE 65 0 [(0, dL x950), (3, dI x963), (4, dI 0)], []⟩ (spec_TreeOk_n2) (fun (t : Unit) => (Exit.normal, ⟨mkE 65 0 [(0, dL x950), (3, dI x963), (4, dI 0), (5, dI 0)], []⟩)) := .of fun K h => by
  simp only [spec_TreeOk_n2, wpW] at h
  exact .of (by kernel_rfl) h

theorem spec_TreeOk_n3_l (x950 : List Int) (x963 : Int) (x1030 : Int) (x1031 : Int) : Link spec_TreeOk_ctx LL (cq [0,0,0,1,0,1,1,1,1] (bodyOf Try.f19)) (aq [0,0,0,1,0,1,1,1,1] spec_TreeOk_an) ⟨mkE 65 0 [(0, dL x950), (3, dI x963), (4, dI x1030), (5, dI x1031)], []⟩ (spec_TreeOk_n3 x963 x1030 x1031) (Sum.elim (fun (t : Unit) => (Exit.normal, ⟨mkE 65 0 [(0, dL x950), (3, dI x963), (4, dI x1030), (5, dI x1031)], []⟩)) (fun (t : Int) => ((Exit.exit 0), ⟨mkE 65 0 [(4, dI t)], []⟩))) := .of fun K h => by
  simp only [spec_TreeOk_n3, wpW] at h
  exact .of (by kernel_rfl) h

theorem spec_TreeOk_n4_l (x950 : List Int) (x963 : Int) (x1030 : Int) (x1031 : Int) : Link spec_TreeOk_ctx LL (Code.seq (cq [0,0,0,1,0,0,1,0,1,1,1,1] (bodyOf Try.f19)) (Code.seq (cq [0,1,0,0,1,0,0,1,0,1,1,1,1] (bodyOf Try.f19)) (cq [0,1,1,0,0,1,0,0,1,0,1,1,1,1] (bodyOf Try.f19)))) (Ann.seq (aq [0,0,0,1,0,0,1,0,1,1,1,1] spec_TreeOk_an) (Ann.seq (aq [0,1,0,0,1,0,0,1,0,1,1,1,1] spec_TreeOk_an) (aq [0,1,1,0,0,1,0,0,1,0,1,1,1,1] spec_TreeOk_an))) ⟨mkE 65 0 [(0, dL x950), (3, dI x963), (4, dI x1030), (5, dI x1031)], []⟩ (spec_TreeOk_n4 x950 x963 x1030 x1031) (Sum.elim (fun (t : Int × Int) => (Exit.normal, ⟨mkE 65 0 [(0, dL x950), (3, dI x963), (4, dI t.1), (5, dI x1031), (6, dI t.2)], []⟩)) (fun (t : Bool) => (Exit.ret, ⟨mkE 65 0 [(2, dB t)], []⟩))) := .of fun K h => by
  simp only [spec_TreeOk_n4, wpW] at h
  exact .of (by kernel_rfl) h

theorem spec_TreeOk_n5_l (x950 : List Int) (x963 : Int) (x1059 : Int) (x1031 : Int) (x1060 : Int) : Link spec_TreeOk_ctx LL (cq [0,0,1,1,1,0,0,1,0,0,1,0,1,1,1,1] (bodyOf Try.f19)) (aq [0,0,1,1,1,0,0,1,0,0,1,0,1,1,1,1] spec_TreeOk_an) ⟨mkE 65 0 [(0, dL x950), (3, dI x963), (4, dI x1059), (5, dI x1031), (6, dI x1060)], []⟩ (spec_TreeOk_n5) (fun (t : Unit) => (Exit.normal, ⟨mkE 65 0 [(0, dL x950), (3, dI x963), (4, dI x1059), (5, dI x1031), (6, dI x1060), (7, dI 0)], []⟩)) := .of fun K h => by
  simp only [spec_TreeOk_n5, wpW] at h
  exact .of (by kernel_rfl) h

theorem spec_TreeOk_n6_l (x950 : List Int) (x963 : Int) (x1059 : Int) (x1031 : Int) (x1076 : Int) (x1077 : Int) : Link spec_TreeOk_ctx LL (cq [0,0,1,0,1,1,1,0,0,1,0,0,1,0,1,1,1,1] (bodyOf Try.f19)) (aq [0,0,1,0,1,1,1,0,0,1,0,0,1,0,1,1,1,1] spec_TreeOk_an) ⟨mkE 65 0 [(0, dL x950), (3, dI x963), (4, dI x1059), (5, dI x1031), (6, dI x1076), (7, dI x1077)], []⟩ (spec_TreeOk_n6 x950 x963 x1076 x1077) (Sum.elim (fun (t : Int × Int) => (Exit.normal, ⟨mkE 65 0 [(0, dL x950), (3, dI x963), (4, dI x1059), (5, dI x1031), (6, dI t.1), (7, dI t.2)], []⟩)) (Sum.elim (fun (t : Bool) => (Exit.ret, ⟨mkE 65 0 [(2, dB t)], []⟩)) (fun (t : Int) => ((Exit.exit 2), ⟨mkE 65 0 [(0, dL x950), (3, dI x963), (4, dI x1059), (5, dI x1031), (6, dI t)], []⟩)))) := .of fun K h => by
  simp only [spec_TreeOk_n6, wpW] at h
  exact .of (by kernel_rfl) h

def spec_TreeOk_n7_l (x950 : List Int) (x963 : Int) (x1059 : Int) (x1031 : Int) (x1060 : Int) := (link_loop (mk := fun (s : Int × Int) => ⟨mkE 65 0 [(0, dL x950), (3, dI x963), (4, dI x1059), (5, dI x1031), (6, dI s.1), (7, dI s.2)], []⟩) (fin := (Sum.elim (fun (t : Bool) => (Exit.ret, ⟨mkE 65 0 [(2, dB t)], []⟩)) (fun (t : Int) => ((Exit.exit 2), ⟨mkE 65 0 [(0, dL x950), (3, dI x963), (4, dI x1059), (5, dI x1031), (6, dI t)], []⟩)))) (by
  rintro (t | t) f K h
  · exact h
  · exact h) (fun s => link_map (spec_TreeOk_n6_l x950 x963 x1059 x1031 s.1 s.2) (Sum.elim (fun (t : Int × Int) => Sum.inl (t.1, t.2)) (Sum.elim (fun (t : Bool) => Sum.inr (Sum.inl t)) (fun (t : Int) => Sum.inr (Sum.inr t)))) (by
  rintro (t | t | t)
  · kernel_rfl
  · kernel_rfl
  · kernel_rfl)) (x1060, 0))

def spec_TreeOk_n8_l (x950 : List Int) (x963 : Int) (x1059 : Int) (x1031 : Int) (x1060 : Int) := (link_block (fin2 := (Sum.elim (fun (t : Int) => (Exit.normal, ⟨mkE 65 0 [(0, dL x950), (3, dI x963), (4, dI x1059), (5, dI x1031), (6, dI t)], []⟩)) (fun (t : Bool) => (Exit.ret, ⟨mkE 65 0 [(2, dB t)], []⟩)))) (id := 2) (spec_TreeOk_n7_l x950 x963 x1059 x1031 x1060) (Sum.elim (fun (t : Bool) => (Sum.inr t)) (fun (t : Int) => (Sum.inl t))) (by
  rintro (t | t) K h
  · exact Eq.mp (by kernel_rfl) h
  · exact Eq.mp (by kernel_rfl) h))

def spec_TreeOk_n9_l (x950 : List Int) (x963 : Int) (x1059 : Int) (x1031 : Int) (x1060 : Int) := (link_seq (spec_TreeOk_n5_l x950 x963 x1059 x1031 x1060) (fun (t : Unit) => (spec_TreeOk_n8_l x950 x963 x1059 x1031 x1060)))

theorem spec_TreeOk_n10_l (x950 : List Int) (x963 : Int) (x1059 : Int) (x1031 : Int) (x1076 : Int) : Link spec_TreeOk_ctx LL (cq [1,1,1,1,0,0,1,0,0,1,0,1,1,1,1] (bodyOf Try.f19)) (aq [1,1,1,1,0,0,1,0,0,1,0,1,1,1,1] spec_TreeOk_an) ⟨mkE 65 0 [(0, dL x950), (3, dI x963), (4, dI x1059), (5, dI x1031), (6, dI x1076)], []⟩ (spec_TreeOk_n10 x1076) (Sum.elim (fun (t : Unit) => (Exit.normal, ⟨mkE 65 0 [(0, dL x950), (3, dI x963), (4, dI x1059), (5, dI x1031)], []⟩)) (fun (t : Bool) => (Exit.ret, ⟨mkE 65 0 [(2, dB t)], []⟩))) := .of fun K h => by
  simp only [spec_TreeOk_n10, wpW] at h
  exact .of (by kernel_rfl) h

def spec_TreeOk_n11_l (x950 : List Int) (x963 : Int) (x1059 : Int) (x1031 : Int) (x1060 : Int) := (link_seq2 (spec_TreeOk_n9_l x950 x963 x1059 x1031 x1060) (fun (t : Int) => (spec_TreeOk_n10_l x950 x963 x1059 x1031 t)) (fun (t : Bool) => (Sum.inr t)) (by
  rintro t
  · kernel_rfl) (by
  rintro t f K h
  · exact h))

def spec_TreeOk_n12_l (x950 : List Int) (x963 : Int) (x1030 : Int) (x1031 : Int) := (link_group (c := (cq [0,1,1,0,0,1,0,0,1,0,1,1,1,1] (bodyOf Try.f19))) (a := (aq [0,1,1,0,0,1,0,0,1,0,1,1,1,1] spec_TreeOk_an)) [(cq [0,0,0,1,0,0,1,0,1,1,1,1] (bodyOf Try.f19)), (cq [0,1,0,0,1,0,0,1,0,1,1,1,1] (bodyOf Try.f19))] [(aq [0,0,0,1,0,0,1,0,1,1,1,1] spec_TreeOk_an), (aq [0,1,0,0,1,0,0,1,0,1,1,1,1] spec_TreeOk_an)] rfl (link_seq2 (spec_TreeOk_n4_l x950 x963 x1030 x1031) (fun (t : Int × Int) => (link_map (fin2 := (Sum.elim (fun (t : Int) => (Exit.normal, ⟨mkE 65 0 [(0, dL x950), (3, dI x963), (4, dI t), (5, dI x1031)], []⟩)) (fun (t : Bool) => (Exit.ret, ⟨mkE 65 0 [(2, dB t)], []⟩)))) (spec_TreeOk_n11_l x950 x963 t.1 x1031 t.2) (Sum.elim (fun (u : Unit) => (Sum.inl t.1)) (fun (u : Bool) => (Sum.inr u))) (by
  rintro (t | t)
  · kernel_rfl
  · kernel_rfl))) (fun (t : Bool) => (Sum.inr t)) (by
  rintro t
  · kernel_rfl) (by
  rintro t f K h
  · exact h)))

def spec_TreeOk_n13_l (x950 : List Int) (x963 : Int) (x1030 : Int) (x1031 : Int) := (link_block (fin2 := (Sum.elim (fun (t : Int) => (Exit.normal, ⟨mkE 65 0 [(0, dL x950), (3, dI x963), (4, dI t), (5, dI x1031)], []⟩)) (fun (t : Bool) => (Exit.ret, ⟨mkE 65 0 [(2, dB t)], []⟩)))) (id := 1) (spec_TreeOk_n12_l x950 x963 x1030 x1031) (Sum.elim (fun (t : Int) => (Sum.inl t)) (fun (t : Bool) => (Sum.inr t))) (by
  rintro (t | t) K h
  · exact Eq.mp (by kernel_rfl) h
  · exact Eq.mp (by kernel_rfl) h))

theorem spec_TreeOk_n14_l (x950 : List Int) (x963 : Int) (x1059 : Int) (x1031 : Int) : Link spec_TreeOk_ctx LL (cq [1,1,0,0,1,0,1,1,1,1] (bodyOf Try.f19)) (aq [1,1,0,0,1,0,1,1,1,1] spec_TreeOk_an) ⟨mkE 65 0 [(0, dL x950), (3, dI x963), (4, dI x1059), (5, dI x1031)], []⟩ (spec_TreeOk_n14 x1031) (fun (t : Int) => (Exit.normal, ⟨mkE 65 0 [(0, dL x950), (3, dI x963), (4, dI x1059), (5, dI t)], []⟩)) := .of fun K h => by
  simp only [spec_TreeOk_n14, wpW] at h
  exact .of (by kernel_rfl) h

def spec_TreeOk_n15_l (x950 : List Int) (x963 : Int) (x1030 : Int) (x1031 : Int) := (link_seq2 (spec_TreeOk_n13_l x950 x963 x1030 x1031) (fun (t : Int) => (link_map (fin2 := (Sum.elim (fun (t : Int × Int) => (Exit.normal, ⟨mkE 65 0 [(0, dL x950), (3, dI x963), (4, dI t.1), (5, dI t.2)], []⟩)) (fun (t : Bool) => (Exit.ret, ⟨mkE 65 0 [(2, dB t)], []⟩)))) (spec_TreeOk_n14_l x950 x963 t x1031) (fun (u : Int) => (Sum.inl (t, u))) (by
  rintro t
  · kernel_rfl))) (fun (t : Bool) => (Sum.inr t)) (by
  rintro t
  · kernel_rfl) (by
  rintro t f K h
  · exact h))

def spec_TreeOk_n16_l (x950 : List Int) (x963 : Int) (x1030 : Int) (x1031 : Int) := (link_seq2 (spec_TreeOk_n3_l x950 x963 x1030 x1031) (fun (t : Unit) => (link_map (fin2 := (Sum.elim (fun (t : Int × Int) => (Exit.normal, ⟨mkE 65 0 [(0, dL x950), (3, dI x963), (4, dI t.1), (5, dI t.2)], []⟩)) (Sum.elim (fun (t : Bool) => (Exit.ret, ⟨mkE 65 0 [(2, dB t)], []⟩)) (fun (t : Int) => ((Exit.exit 0), ⟨mkE 65 0 [(4, dI t)], []⟩))))) (spec_TreeOk_n15_l x950 x963 x1030 x1031) (Sum.elim (fun (t : Int × Int) => (Sum.inl (t.1, t.2))) (fun (t : Bool) => (Sum.inr (Sum.inl t)))) (by
  rintro (t | t)
  · kernel_rfl
  · kernel_rfl))) (fun (t : Int) => (Sum.inr (Sum.inr t))) (by
  rintro t
  · kernel_rfl) (by
  rintro t f K h
  · exact h))

def spec_TreeOk_n17_l (x950 : List Int) (x963 : Int) := (link_loop (mk := fun (s : Int × Int) => ⟨mkE 65 0 [(0, dL x950), (3, dI x963), (4, dI s.1), (5, dI s.2)], []⟩) (fin := (Sum.elim (fun (t : Bool) => (Exit.ret, ⟨mkE 65 0 [(2, dB t)], []⟩)) (fun (t : Int) => ((Exit.exit 0), ⟨mkE 65 0 [(4, dI t)], []⟩)))) (by
  rintro (t | t) f K h
  · exact h
  · exact h) (fun s => link_map (spec_TreeOk_n16_l x950 x963 s.1 s.2) (Sum.elim (fun (t : Int × Int) => Sum.inl (t.1, t.2)) (Sum.elim (fun (t : Bool) => Sum.inr (Sum.inl t)) (fun (t : Int) => Sum.inr (Sum.inr t)))) (by
  rintro (t | t | t)
  · kernel_rfl
  · kernel_rfl
  · kernel_rfl)) (0, 0))

def spec_TreeOk_n18_l (x950 : List Int) (x963 : Int) := (link_block (fin2 := (Sum.elim (fun (t : Int) => (Exit.normal, ⟨mkE 65 0 [(4, dI t)], []⟩)) (fun (t : Bool) => (Exit.ret, ⟨mkE 65 0 [(2, dB t)], []⟩)))) (id := 0) (spec_TreeOk_n17_l x950 x963) (Sum.elim (fun (t : Bool) => (Sum.inr t)) (fun (t : Int) => (Sum.inl t))) (by
  rintro (t | t) K h
  · exact Eq.mp (by kernel_rfl) h
  · exact Eq.mp (by kernel_rfl) h))

def spec_TreeOk_n19_l (x950 : List Int) (x963 : Int) := (link_seq (spec_TreeOk_n2_l x950 x963) (fun (t : Unit) => (spec_TreeOk_n18_l x950 x963)))

theorem spec_TreeOk_n20_l (x1030 : Int) : Link spec_TreeOk_ctx LL (cq [1,1,1,1,1] (bodyOf Try.f19)) (aq [1,1,1,1,1] spec_TreeOk_an) ⟨mkE 65 0 [(4, dI x1030)], []⟩ (spec_TreeOk_n20 x1030) (fun (t : Bool) => (Exit.ret, ⟨mkE 65 0 [(2, dB t)], []⟩)) := .of fun K h => by
  simp only [spec_TreeOk_n20, wpW] at h
  exact .of (by kernel_rfl) h

def spec_TreeOk_n21_l (x950 : List Int) (x963 : Int) := (link_seq2 (spec_TreeOk_n19_l x950 x963) (fun (t : Int) => (spec_TreeOk_n20_l t)) (fun (t : Bool) => t) (by
  rintro t
  · kernel_rfl) (by
  rintro t f K h
  · exact h))

def spec_TreeOk_n22_l (x950 : List Int) := (link_group (c := (cq [0,1,1,1] (bodyOf Try.f19))) (a := (aq [0,1,1,1] spec_TreeOk_an)) [(cq [0] (bodyOf Try.f19)), (cq [0,1] (bodyOf Try.f19)), (cq [0,1,1] (bodyOf Try.f19))] [(aq [0] spec_TreeOk_an), (aq [0,1] spec_TreeOk_an), (aq [0,1,1] spec_TreeOk_an)] rfl (link_seq2 (spec_TreeOk_n1_l x950) (fun (t : Int) => (spec_TreeOk_n21_l x950 t)) (fun (t : Bool) => t) (by
  rintro t
  · kernel_rfl) (by
  rintro t f K h
  · exact h)))

theorem spec_TreeOk_e (x950 : List Int) {r : AV} {H' : Heap} (h : (Ans.mk _ (spec_TreeOk x950) (fun (t : Bool) => (dB t, [])) [] none).run = some (r, H')) : Awp spec_TreeOk_ctx LL (bodyOf Try.f19) spec_TreeOk_an ⟨mkE 65 0 [(0, dL x950)], []⟩ (Ret (tlook tys) Try.f19.results.toList r H') :=
  ret_of' (Link.cast (by kernel_rfl) (by kernel_rfl) (spec_TreeOk_n22_l x950)) (by unfold spec_TreeOk; kernel_rfl) (by
  intro t
  exact ret_mk [dB t] (by kernel_rfl) (by kernel_rfl) (by kernel_rfl) (by kernel_rfl)) h

def F_spec_TreeOk : Fun := fun avs H =>
  match avs, H with
  | [.dat (.list (.int .i64)) x950], [] => ⟨_, spec_TreeOk x950, fun (t : Bool) => (dB t, []), [], none⟩
  | _, _ => Ans.no

theorem spec_TreeOk_sound : Sound Try.prog 19 F_spec_TreeOk := by
  refine fn_sound' (C := spec_TreeOk_ctx) (c := bodyOf Try.f19) (cok_of tys_ok (allc spec_l1In_sound alln) (allc Try.call27 alln) (by kernel_rfl)) Try.func19 (by kernel_rfl) LL spec_TreeOk_an ?_
  intro avs H r H' h
  unfold F_spec_TreeOk at h
  split at h
  · refine Awp.cast ?_ ?_ ?_ (spec_TreeOk_e _ h) <;> kernel_rfl
  · simp [Ans.no, Ans.run] at h


/-! loop.example/headtrees/impl.oneRoot -/

def impl_oneRoot_an : Ann := (.seq (.leaf [0]) (.seq (.leaf [0, 3]) (.seq (.seq (.leaf [0, 3, 6, 7, 8]) (.block (.loop (.seq (.leaf [0, 3, 6, 7, 8, 9]) (.seq (.cond (.leaf [0, 3, 6, 7, 8]) (.leaf [3])) (.seq (.block (.seq (.leaf [0, 3, 5, 6, 7, 8]) (.seq (.seq (.leaf [0, 3, 5, 6, 7, 8, 19]) (.cond (.seq (.leaf [2]) (.leaf [2])) (.leaf [0, 3, 5, 6, 7, 8]))) (.seq (.leaf [0, 3, 6, 7, 8, 21]) (.cond (.leaf [0, 3, 6, 7, 8]) (.leaf [0, 3, 6, 7, 8])))))) (.leaf [0, 3, 6, 7, 8]))))))) (.seq (.leaf [2]) (.leaf [2])))))

noncomputable def impl_oneRoot_ctx : Ctx := ⟨tlook tys, olook [], ioF, 0, false, []⟩

theorem impl_oneRoot_n1_l (x1154 : List Int) : Link impl_oneRoot_ctx LL (Code.seq (cq [0] (bodyOf Try.f28)) (cq [0,1] (bodyOf Try.f28))) (Ann.seq (aq [0] impl_oneRoot_an) (aq [0,1] impl_oneRoot_an)) ⟨mkE 27 0 [(0, dL x1154)], []⟩ (impl_oneRoot_n1) (fun (t : Unit) => (Exit.normal, ⟨mkE 27 0 [(0, dL x1154), (3, dI 0)], []⟩)) := .of fun K h => by
  simp only [impl_oneRoot_n1, wpW] at h
  exact .of (by kernel_rfl) h

theorem impl_oneRoot_n2_l (x1154 : List Int) : Link impl_oneRoot_ctx LL (cq [0,0,1,1] (bodyOf Try.f28)) (aq [0,0,1,1] impl_oneRoot_an) ⟨mkE 27 0 [(0, dL x1154), (3, dI 0)], []⟩ (impl_oneRoot_n2 x1154) (fun (t : Int) => (Exit.normal, ⟨mkE 27 0 [(0, dL x1154), (3, dI 0), (6, dL x1154), (7, dI t), (8, dI 0)], []⟩)) := .of fun K h => by
  simp only [impl_oneRoot_n2, wpW] at h
  exact .of (by kernel_rfl) h

theorem impl_oneRoot_n3_l (x1154 : List Int) (x1176 : Int) (x1155 : Int) (x1177 : Int) : Link impl_oneRoot_ctx LL (cq [0,0,1,0,1,1] (bodyOf Try.f28)) (aq [0,0,1,0,1,1] impl_oneRoot_an) ⟨mkE 27 0 [(0, dL x1154), (3, dI x1176), (6, dL x1154), (7, dI x1155), (8, dI x1177)], []⟩ (impl_oneRoot_n3 x1154 x1176 x1155 x1177) (Sum.elim (fun (t : Int × Int) => (Exit.normal, ⟨mkE 27 0 [(0, dL x1154), (3, dI t.1), (6, dL x1154), (7, dI x1155), (8, dI t.2)], []⟩)) (Sum.elim (fun (t : Bool) => (Exit.ret, ⟨mkE 27 0 [(2, dB t)], []⟩)) (fun (t : Int) => ((Exit.exit 0), ⟨mkE 27 0 [(3, dI t)], []⟩)))) := .of fun K h => by
  simp only [impl_oneRoot_n3, wpW] at h
  exact .of (by kernel_rfl) h

def impl_oneRoot_n4_l (x1154 : List Int) (x1155 : Int) := (link_loop (mk := fun (s : Int × Int) => ⟨mkE 27 0 [(0, dL x1154), (3, dI s.1), (6, dL x1154), (7, dI x1155), (8, dI s.2)], []⟩) (fin := (Sum.elim (fun (t : Bool) => (Exit.ret, ⟨mkE 27 0 [(2, dB t)], []⟩)) (fun (t : Int) => ((Exit.exit 0), ⟨mkE 27 0 [(3, dI t)], []⟩)))) (by
  rintro (t | t) f K h
  · exact h
  · exact h) (fun s => link_map (impl_oneRoot_n3_l x1154 s.1 x1155 s.2) (Sum.elim (fun (t : Int × Int) => Sum.inl (t.1, t.2)) (Sum.elim (fun (t : Bool) => Sum.inr (Sum.inl t)) (fun (t : Int) => Sum.inr (Sum.inr t)))) (by
  rintro (t | t | t)
  · kernel_rfl
  · kernel_rfl
  · kernel_rfl)) (0, 0))

def impl_oneRoot_n5_l (x1154 : List Int) (x1155 : Int) := (link_block (fin2 := (Sum.elim (fun (t : Int) => (Exit.normal, ⟨mkE 27 0 [(3, dI t)], []⟩)) (fun (t : Bool) => (Exit.ret, ⟨mkE 27 0 [(2, dB t)], []⟩)))) (id := 0) (impl_oneRoot_n4_l x1154 x1155) (Sum.elim (fun (t : Bool) => (Sum.inr t)) (fun (t : Int) => (Sum.inl t))) (by
  rintro (t | t) K h
  · exact Eq.mp (by kernel_rfl) h
  · exact Eq.mp (by kernel_rfl) h))

def impl_oneRoot_n6_l (x1154 : List Int) := (link_seq (impl_oneRoot_n2_l x1154) (fun (t : Int) => (impl_oneRoot_n5_l x1154 t)))

theorem impl_oneRoot_n7_l (x1176 : Int) : Link impl_oneRoot_ctx LL (cq [1,1,1] (bodyOf Try.f28)) (aq [1,1,1] impl_oneRoot_an) ⟨mkE 27 0 [(3, dI x1176)], []⟩ (impl_oneRoot_n7 x1176) (fun (t : Bool) => (Exit.ret, ⟨mkE 27 0 [(2, dB t)], []⟩)) := .of fun K h => by
  simp only [impl_oneRoot_n7, wpW] at h
  exact .of (by kernel_rfl) h

def impl_oneRoot_n8_l (x1154 : List Int) := (link_seq2 (impl_oneRoot_n6_l x1154) (fun (t : Int) => (impl_oneRoot_n7_l t)) (fun (t : Bool) => t) (by
  rintro t
  · kernel_rfl) (by
  rintro t f K h
  · exact h))

def impl_oneRoot_n9_l (x1154 : List Int) := (link_group (c := (cq [0,1] (bodyOf Try.f28))) (a := (aq [0,1] impl_oneRoot_an)) [(cq [0] (bodyOf Try.f28))] [(aq [0] impl_oneRoot_an)] rfl (link_seq (impl_oneRoot_n1_l x1154) (fun (t : Unit) => (impl_oneRoot_n8_l x1154))))

theorem impl_oneRoot_e (x1154 : List Int) {r : AV} {H' : Heap} (h : (Ans.mk _ (impl_oneRoot x1154) (fun (t : Bool) => (dB t, [])) [] none).run = some (r, H')) : Awp impl_oneRoot_ctx LL (bodyOf Try.f28) impl_oneRoot_an ⟨mkE 27 0 [(0, dL x1154)], []⟩ (Ret (tlook tys) Try.f28.results.toList r H') :=
  ret_of' (Link.cast (by kernel_rfl) (by kernel_rfl) (impl_oneRoot_n9_l x1154)) (by unfold impl_oneRoot; kernel_rfl) (by
  intro t
  exact ret_mk [dB t] (by kernel_rfl) (by kernel_rfl) (by kernel_rfl) (by kernel_rfl)) h

def F_impl_oneRoot : Fun := fun avs H =>
  match avs, H with
  | [.dat (.list (.int .i64)) x1154], [] => ⟨_, impl_oneRoot x1154, fun (t : Bool) => (dB t, []), [], none⟩
  | _, _ => Ans.no

theorem impl_oneRoot_sound : Sound Try.prog 28 F_impl_oneRoot := by
  refine fn_sound' (C := impl_oneRoot_ctx) (c := bodyOf Try.f28) (cok_of tys_ok (alln) (alln) (by kernel_rfl)) Try.func28 (by kernel_rfl) LL impl_oneRoot_an ?_
  intro avs H r H' h
  unfold F_impl_oneRoot at h
  split at h
  · refine Awp.cast ?_ ?_ ?_ (impl_oneRoot_e _ h) <;> kernel_rfl
  · simp [Ans.no, Ans.run] at h


/-! (*loop.example/headtrees/impl.walker).up -/

def impl_walker_up_an : Ann := (.seq (.leaf [0]) (.seq (.draw [] [0, 1, 2, 3, 4, 5, 6, 7, 8, 9, 10, 11] [] [0, 3]) (.seq (.seq (.leaf [0, 3, 16]) (.cond (.seq (.leaf [2]) (.leaf [2])) (.leaf [0, 3]))) (.seq (.leaf [0]) (.seq (.leaf []) (.seq (.leaf [2]) (.leaf [2])))))))

noncomputable def impl_walker_up_ctx : Ctx := ⟨tlook tys, olook [], ioF, 1, false, []⟩

theorem impl_walker_up_n1_l (x1210 : List Int) (x1211 : Int) (x1212 : Int) : Link impl_walker_up_ctx LL (bodyOf Try.f31) impl_walker_up_an ⟨mkE 28 0 [(0, .ptr 0 0)], [some (.box [dL x1210, dI x1211, dI x1212])]⟩ (impl_walker_up_n1 x1210 x1211 x1212) (fun (t : Bool × Int × Int) => (Exit.ret, ⟨mkE 28 0 [(2, dB t.1)], [some (.box [dL x1210, dI t.2.1, dI t.2.2])]⟩)) := .of fun K h => by
  simp only [impl_walker_up_n1, wpW] at h
  exact .of (by kernel_rfl) h

theorem impl_walker_up_e (x1210 : List Int) (x1211 : Int) (x1212 : Int) {r : AV} {H' : Heap} (h : (Ans.mk _ (impl_walker_up x1210 x1211 x1212) (fun (t : Bool × Int × Int) => (dB t.1, [some (.box [dL x1210, dI t.2.1, dI t.2.2])])) [] none).run = some (r, H')) : Awp impl_walker_up_ctx LL (bodyOf Try.f31) impl_walker_up_an ⟨mkE 28 0 [(0, .ptr 0 0)], [some (.box [dL x1210, dI x1211, dI x1212])]⟩ (Ret (tlook tys) Try.f31.results.toList r H') :=
  ret_of' (impl_walker_up_n1_l x1210 x1211 x1212) (by unfold impl_walker_up; kernel_rfl) (by
  intro t
  exact ret_mk [dB t.1] (by kernel_rfl) (by kernel_rfl) (by kernel_rfl) (by kernel_rfl)) h

def F_impl_walker_up : Fun := fun avs H =>
  match avs, H with
  | [.ptr 0 0], [some (.box [.dat (.list (.int .i64)) x1210, .dat (.int .i64) x1211, .dat (.int .i64) x1212])] => ⟨_, impl_walker_up x1210 x1211 x1212, fun (t : Bool × Int × Int) => (dB t.1, [some (.box [dL x1210, dI t.2.1, dI t.2.2])]), [], none⟩
  | _, _ => Ans.no

theorem impl_walker_up_sound : Sound Try.prog 31 F_impl_walker_up := by
  refine fn_sound' (C := impl_walker_up_ctx) (c := bodyOf Try.f31) (cok_of tys_ok (alln) (alln) (by kernel_rfl)) Try.func31 (by kernel_rfl) LL impl_walker_up_an ?_
  intro avs H r H' h
  unfold F_impl_walker_up at h
  split at h
  · refine Awp.cast ?_ ?_ ?_ (impl_walker_up_e _ _ _ h) <;> kernel_rfl
  · simp [Ans.no, Ans.run] at h


/-! loop.example/headtrees/impl.stepsToRoot -/

def impl_stepsToRoot_an : Ann := (.seq (.leaf [0, 1]) (.seq (.leaf [0, 6]) (.seq (.block (.loop (.seq (.seq (.leaf [0, 6, 10]) (.cond (.leaf [0, 6]) (.leaf [6]))) (.block (.seq (.leaf [0, 6, 15]) (.cond (.seq (.leaf [4, 5]) (.leaf [4, 5])) (.leaf [0, 6]))))))) (.seq (.leaf [4, 5]) (.leaf [4, 5])))))

noncomputable def impl_stepsToRoot_ctx : Ctx := ⟨tlook tys, olook [(31, F_impl_walker_up)], ioF, 0, false, []⟩

theorem impl_stepsToRoot_n1_l (x1208 : List Int) (x1209 : Int) : Link impl_stepsToRoot_ctx LL (Code.seq (cq [0] (bodyOf Try.f29)) (cq [0,1] (bodyOf Try.f29))) (Ann.seq (aq [0] impl_stepsToRoot_an) (aq [0,1] impl_stepsToRoot_an)) ⟨mkE 18 0 [(0, dL x1208), (1, dI x1209)], []⟩ (impl_stepsToRoot_n1) (fun (t : Unit) => (Exit.normal, ⟨mkE 18 0 [(0, dL x1208), (6, .ptr 0 0)], [some (.box [dL x1208, dI x1209, dI 0])]⟩)) := .of fun K h => by
  simp only [impl_stepsToRoot_n1, wpW] at h
  exact .of (by kernel_rfl) h

theorem impl_stepsToRoot_n2_l (x1208 : List Int) (x1246 : Int) (x1247 : Int) : Link impl_stepsToRoot_ctx LL (cq [0,0,0,1,1] (bodyOf Try.f29)) (aq [0,0,0,1,1] impl_stepsToRoot_an) ⟨mkE 18 0 [(0, dL x1208), (6, .ptr 0 0)], [some (.box [dL x1208, dI x1246, dI x1247])]⟩ (impl_stepsToRoot_n2 x1208 x1246 x1247) (Sum.elim (fun (t : Int × Int) => (Exit.normal, ⟨mkE 18 0 [(0, dL x1208), (6, .ptr 0 0)], [some (.box [dL x1208, dI t.1, dI t.2])]⟩)) (Sum.elim (fun (t : Int × Bool) => (Exit.ret, ⟨mkE 18 0 [(4, dI t.1), (5, dB t.2)], []⟩)) (fun (t : Int × Int) => ((Exit.exit 0), ⟨mkE 18 0 [(6, .ptr 0 0)], [some (.box [dL x1208, dI t.1, dI t.2])]⟩)))) := .of fun K h => by
  simp only [impl_stepsToRoot_n2, wpW] at h
  exact .of (by kernel_rfl) h

def impl_stepsToRoot_n3_l (x1208 : List Int) (x1209 : Int) := (link_loop (mk := fun (s : Int × Int) => ⟨mkE 18 0 [(0, dL x1208), (6, .ptr 0 0)], [some (.box [dL x1208, dI s.1, dI s.2])]⟩) (fin := (Sum.elim (fun (t : Int × Bool) => (Exit.ret, ⟨mkE 18 0 [(4, dI t.1), (5, dB t.2)], []⟩)) (fun (t : Int × Int) => ((Exit.exit 0), ⟨mkE 18 0 [(6, .ptr 0 0)], [some (.box [dL x1208, dI t.1, dI t.2])]⟩)))) (by
  rintro (t | t) f K h
  · exact h
  · exact h) (fun s => link_map (impl_stepsToRoot_n2_l x1208 s.1 s.2) (Sum.elim (fun (t : Int × Int) => Sum.inl (t.1, t.2)) (Sum.elim (fun (t : Int × Bool) => Sum.inr (Sum.inl t)) (fun (t : Int × Int) => Sum.inr (Sum.inr t)))) (by
  rintro (t | t | t)
  · kernel_rfl
  · kernel_rfl
  · kernel_rfl)) (x1209, 0))

def impl_stepsToRoot_n4_l (x1208 : List Int) (x1209 : Int) := (link_block (fin2 := (Sum.elim (fun (t : Int × Int) => (Exit.normal, ⟨mkE 18 0 [(6, .ptr 0 0)], [some (.box [dL x1208, dI t.1, dI t.2])]⟩)) (fun (t : Int × Bool) => (Exit.ret, ⟨mkE 18 0 [(4, dI t.1), (5, dB t.2)], []⟩)))) (id := 0) (impl_stepsToRoot_n3_l x1208 x1209) (Sum.elim (fun (t : Int × Bool) => (Sum.inr t)) (fun (t : Int × Int) => (Sum.inl (t.1, t.2)))) (by
  rintro (t | t) K h
  · exact Eq.mp (by kernel_rfl) h
  · exact Eq.mp (by kernel_rfl) h))

theorem impl_stepsToRoot_n5_l (x1208 : List Int) (x1254 : Int) (x1255 : Int) : Link impl_stepsToRoot_ctx LL (cq [1,1,1] (bodyOf Try.f29)) (aq [1,1,1] impl_stepsToRoot_an) ⟨mkE 18 0 [(6, .ptr 0 0)], [some (.box [dL x1208, dI x1254, dI x1255])]⟩ (impl_stepsToRoot_n5 x1255) (fun (t : Int × Bool) => (Exit.ret, ⟨mkE 18 0 [(4, dI t.1), (5, dB t.2)], []⟩)) := .of fun K h => by
  simp only [impl_stepsToRoot_n5, wpW] at h
  exact .of (by kernel_rfl) h

def impl_stepsToRoot_n6_l (x1208 : List Int) (x1209 : Int) := (link_seq2 (impl_stepsToRoot_n4_l x1208 x1209) (fun (t : Int × Int) => (impl_stepsToRoot_n5_l x1208 t.1 t.2)) (fun (t : Int × Bool) => t) (by
  rintro t
  · kernel_rfl) (by
  rintro t f K h
  · exact h))

def impl_stepsToRoot_n7_l (x1208 : List Int) (x1209 : Int) := (link_group (c := (cq [0,1] (bodyOf Try.f29))) (a := (aq [0,1] impl_stepsToRoot_an)) [(cq [0] (bodyOf Try.f29))] [(aq [0] impl_stepsToRoot_an)] rfl (link_seq (impl_stepsToRoot_n1_l x1208 x1209) (fun (t : Unit) => (impl_stepsToRoot_n6_l x1208 x1209))))

theorem impl_stepsToRoot_e (x1208 : List Int) (x1209 : Int) {r : AV} {H' : Heap} (h : (Ans.mk _ (impl_stepsToRoot x1208 x1209) (fun (t : Int × Bool) => (.tup [dI t.1, dB t.2], [])) [] none).run = some (r, H')) : Awp impl_stepsToRoot_ctx LL (bodyOf Try.f29) impl_stepsToRoot_an ⟨mkE 18 0 [(0, dL x1208), (1, dI x1209)], []⟩ (Ret (tlook tys) Try.f29.results.toList r H') :=
  ret_of' (Link.cast (by kernel_rfl) (by kernel_rfl) (impl_stepsToRoot_n7_l x1208 x1209)) (by unfold impl_stepsToRoot; kernel_rfl) (by
  intro t
  exact ret_mk [dI t.1, dB t.2] (by kernel_rfl) (by kernel_rfl) (by kernel_rfl) (by kernel_rfl)) h

def F_impl_stepsToRoot : Fun := fun avs H =>
  match avs, H with
  | [.dat (.list (.int .i64)) x1208, .dat (.int .i64) x1209], [] => ⟨_, impl_stepsToRoot x1208 x1209, fun (t : Int × Bool) => (.tup [dI t.1, dB t.2], []), [], none⟩
  | _, _ => Ans.no

theorem impl_stepsToRoot_sound : Sound Try.prog 29 F_impl_stepsToRoot := by
  refine fn_sound' (C := impl_stepsToRoot_ctx) (c := bodyOf Try.f29) (cok_of tys_ok (allc impl_walker_up_sound alln) (allc Try.call31 alln) (by kernel_rfl)) Try.func29 (by kernel_rfl) LL impl_stepsToRoot_an ?_
  intro avs H r H' h
  unfold F_impl_stepsToRoot at h
  split at h
  · refine Awp.cast ?_ ?_ ?_ (impl_stepsToRoot_e _ _ h) <;> kernel_rfl
  · simp [Ans.no, Ans.run] at h


/-! loop.example/headtrees/impl.TreeOk -/

def impl_TreeOk_an : Ann := (.seq (.leaf [0]) (.seq (.seq (.leaf [0, 18]) (.cond (.seq (.leaf [2]) (.leaf [2])) (.leaf [0]))) (.seq (.seq (.leaf [0, 20, 21]) (.block (.loop (.seq (.leaf [0, 20, 21, 22]) (.seq (.cond (.leaf [0, 20, 21]) (.leaf [])) (.seq (.block (.seq (.leaf [0, 3, 20, 21]) (.seq (.leaf [0, 5, 20, 21]) (.seq (.leaf [0, 20, 21, 32]) (.cond (.seq (.leaf [2]) (.leaf [2])) (.leaf [0, 20, 21])))))) (.leaf [0, 20, 21]))))))) (.seq (.leaf [2]) (.leaf [2])))))

noncomputable def impl_TreeOk_ctx : Ctx := ⟨tlook tys, olook [(28, F_impl_oneRoot), (29, F_impl_stepsToRoot)], ioF, 0, false, []⟩

theorem impl_TreeOk_n1_l (x1149 : List Int) : Link impl_TreeOk_ctx LL (Code.seq (cq [0] (bodyOf Try.f21)) (cq [0,1] (bodyOf Try.f21))) (Ann.seq (aq [0] impl_TreeOk_an) (aq [0,1] impl_TreeOk_an)) ⟨mkE 34 0 [(0, dL x1149)], []⟩ (impl_TreeOk_n1 x1149) (Sum.elim (fun (t : Unit) => (Exit.normal, ⟨mkE 34 0 [(0, dL x1149)], []⟩)) (fun (t : Bool) => (Exit.ret, ⟨mkE 34 0 [(2, dB t)], []⟩))) := .of fun K h => by
  simp only [impl_TreeOk_n1, wpW] at h
  exact .of (by kernel_rfl) h

theorem impl_TreeOk_n2_l (x1149 : List Int) : Link impl_TreeOk_ctx LL (cq [0,0,1,1] (bodyOf Try.f21)) (aq [0,0,1,1] impl_TreeOk_an) ⟨mkE 34 0 [(0, dL x1149)], []⟩ (impl_TreeOk_n2 x1149) (fun (t : Int) => (Exit.normal, ⟨mkE 34 0 [(0, dL x1149), (20, dI t), (21, dI 0)], []⟩)) := .of fun K h => by
  simp only [impl_TreeOk_n2, wpW] at h
  exact .of (by kernel_rfl) h

theorem impl_TreeOk_n3_l (x1149 : List Int) (x1203 : Int) (x1271 : Int) : Link impl_TreeOk_ctx LL (cq [0,0,1,0,1,1] (bodyOf Try.f21)) (aq [0,0,1,0,1,1] impl_TreeOk_an) ⟨mkE 34 0 [(0, dL x1149), (20, dI x1203), (21, dI x1271)], []⟩ (impl_TreeOk_n3 x1149 x1203 x1271) (Sum.elim (fun (t : Int) => (Exit.normal, ⟨mkE 34 0 [(0, dL x1149), (20, dI x1203), (21, dI t)], []⟩)) (Sum.elim (fun (t : Bool) => (Exit.ret, ⟨mkE 34 0 [(2, dB t)], []⟩)) (fun (t : Unit) => ((Exit.exit 0), ⟨mkE 34 0 [], []⟩)))) := .of fun K h => by
  simp only [impl_TreeOk_n3, wpW] at h
  exact .of (by kernel_rfl) h

def impl_TreeOk_n4_l (x1149 : List Int) (x1203 : Int) := (link_loop (mk := fun (s : Int) => ⟨mkE 34 0 [(0, dL x1149), (20, dI x1203), (21, dI s)], []⟩) (fin := (Sum.elim (fun (t : Bool) => (Exit.ret, ⟨mkE 34 0 [(2, dB t)], []⟩)) (fun (t : Unit) => ((Exit.exit 0), ⟨mkE 34 0 [], []⟩)))) (by
  rintro (t | t) f K h
  · exact h
  · exact h) (fun s => link_map (impl_TreeOk_n3_l x1149 x1203 s) (Sum.elim (fun (t : Int) => Sum.inl t) (Sum.elim (fun (t : Bool) => Sum.inr (Sum.inl t)) (fun (t : Unit) => Sum.inr (Sum.inr t)))) (by
  rintro (t | t | t)
  · kernel_rfl
  · kernel_rfl
  · kernel_rfl)) 0)

def impl_TreeOk_n5_l (x1149 : List Int) (x1203 : Int) := (link_block (fin2 := (Sum.elim (fun (t : Unit) => (Exit.normal, ⟨mkE 34 0 [], []⟩)) (fun (t : Bool) => (Exit.ret, ⟨mkE 34 0 [(2, dB t)], []⟩)))) (id := 0) (impl_TreeOk_n4_l x1149 x1203) (Sum.elim (fun (t : Bool) => (Sum.inr t)) (fun (t : Unit) => (Sum.inl ()))) (by
  rintro (t | t) K h
  · exact Eq.mp (by kernel_rfl) h
  · exact Eq.mp (by kernel_rfl) h))

def impl_TreeOk_n6_l (x1149 : List Int) := (link_seq (impl_TreeOk_n2_l x1149) (fun (t : Int) => (impl_TreeOk_n5_l x1149 t)))

theorem impl_TreeOk_n7_l : Link impl_TreeOk_ctx LL (cq [1,1,1] (bodyOf Try.f21)) (aq [1,1,1] impl_TreeOk_an) ⟨mkE 34 0 [], []⟩ (impl_TreeOk_n7) (fun (t : Bool) => (Exit.ret, ⟨mkE 34 0 [(2, dB t)], []⟩)) := .of fun K h => by
  simp only [impl_TreeOk_n7, wpW] at h
  exact .of (by kernel_rfl) h

def impl_TreeOk_n8_l (x1149 : List Int) := (link_seq2 (impl_TreeOk_n6_l x1149) (fun (t : Unit) => (impl_TreeOk_n7_l)) (fun (t : Bool) => t) (by
  rintro t
  · kernel_rfl) (by
  rintro t f K h
  · exact h))

def impl_TreeOk_n9_l (x1149 : List Int) := (link_group (c := (cq [0,1] (bodyOf Try.f21))) (a := (aq [0,1] impl_TreeOk_an)) [(cq [0] (bodyOf Try.f21))] [(aq [0] impl_TreeOk_an)] rfl (link_seq2 (impl_TreeOk_n1_l x1149) (fun (t : Unit) => (impl_TreeOk_n8_l x1149)) (fun (t : Bool) => t) (by
  rintro t
  · kernel_rfl) (by
  rintro t f K h
  · exact h)))

theorem impl_TreeOk_e (x1149 : List Int) {r : AV} {H' : Heap} (h : (Ans.mk _ (impl_TreeOk x1149) (fun (t : Bool) => (dB t, [])) [] none).run = some (r, H')) : Awp impl_TreeOk_ctx LL (bodyOf Try.f21) impl_TreeOk_an ⟨mkE 34 0 [(0, dL x1149)], []⟩ (Ret (tlook tys) Try.f21.results.toList r H') :=
  ret_of' (Link.cast (by kernel_rfl) (by kernel_rfl) (impl_TreeOk_n9_l x1149)) (by unfold impl_TreeOk; kernel_rfl) (by
  intro t
  exact ret_mk [dB t] (by kernel_rfl) (by kernel_rfl) (by kernel_rfl) (by kernel_rfl)) h

def F_impl_TreeOk : Fun := fun avs H =>
  match avs, H with
  | [.dat (.list (.int .i64)) x1149], [] => ⟨_, impl_TreeOk x1149, fun (t : Bool) => (dB t, []), [], none⟩
  | _, _ => Ans.no

theorem impl_TreeOk_sound : Sound Try.prog 21 F_impl_TreeOk := by
  refine fn_sound' (C := impl_TreeOk_ctx) (c := bodyOf Try.f21) (cok_of tys_ok (allc impl_oneRoot_sound (allc impl_stepsToRoot_sound alln)) (allc Try.call28 (allc Try.call29 alln)) (by kernel_rfl)) Try.func21 (by kernel_rfl) LL impl_TreeOk_an ?_
  intro avs H r H' h
  unfold F_impl_TreeOk at h
  split at h
  · refine Awp.cast ?_ ?_ ?_ (impl_TreeOk_e _ h) <;> kernel_rfl
  · simp [Ans.no, Ans.run] at h


/-! loop.example/headtrees/laws.eqIntS -/

def laws_eqIntS_an : Ann := (.seq (.leaf [0, 1]) (.seq (.seq (.leaf [0, 1, 10]) (.cond (.seq (.leaf [4]) (.leaf [4])) (.leaf [0, 1]))) (.seq (.seq (.leaf [0, 1, 5]) (.block (.loop (.seq (.seq (.leaf [0, 1, 5, 14]) (.cond (.leaf [0, 1, 5]) (.leaf []))) (.seq (.block (.seq (.draw [] [0, 1, 2, 3, 4, 5, 6, 7, 8] [] [0, 1, 5, 25]) (.cond (.seq (.leaf [4]) (.leaf [4])) (.leaf [0, 1, 5])))) (.leaf [0, 1, 5])))))) (.seq (.leaf [4]) (.leaf [4])))))

noncomputable def laws_eqIntS_ctx : Ctx := ⟨tlook tys, olook [], ioF, 0, false, []⟩

theorem laws_eqIntS_n1_l (x1347 : List Int) (x1348 : List Int) : Link laws_eqIntS_ctx LL (Code.seq (cq [0] (bodyOf Try.f13)) (cq [0,1] (bodyOf Try.f13))) (Ann.seq (aq [0] laws_eqIntS_an) (aq [0,1] laws_eqIntS_an)) ⟨mkE 26 0 [(0, dL x1347), (1, dL x1348)], []⟩ (laws_eqIntS_n1 x1347 x1348) (Sum.elim (fun (t : Unit) => (Exit.normal, ⟨mkE 26 0 [(0, dL x1347), (1, dL x1348)], []⟩)) (fun (t : Bool) => (Exit.ret, ⟨mkE 26 0 [(4, dB t)], []⟩))) := .of fun K h => by
  simp only [laws_eqIntS_n1, wpW] at h
  exact .of (by kernel_rfl) h

theorem laws_eqIntS_n2_l (x1347 : List Int) (x1348 : List Int) : Link laws_eqIntS_ctx LL (cq [0,0,1,1] (bodyOf Try.f13)) (aq [0,0,1,1] laws_eqIntS_an) ⟨mkE 26 0 [(0, dL x1347), (1, dL x1348)], []⟩ (laws_eqIntS_n2) (fun (t : Unit) => (Exit.normal, ⟨mkE 26 0 [(0, dL x1347), (1, dL x1348), (5, dI 0)], []⟩)) := .of fun K h => by
  simp only [laws_eqIntS_n2, wpW] at h
  exact .of (by kernel_rfl) h

theorem laws_eqIntS_n3_l (x1347 : List Int) (x1348 : List Int) (x1365 : Int) : Link laws_eqIntS_ctx LL (cq [0,0,1,0,1,1] (bodyOf Try.f13)) (aq [0,0,1,0,1,1] laws_eqIntS_an) ⟨mkE 26 0 [(0, dL x1347), (1, dL x1348), (5, dI x1365)], []⟩ (laws_eqIntS_n3 x1347 x1348 x1365) (Sum.elim (fun (t : Int) => (Exit.normal, ⟨mkE 26 0 [(0, dL x1347), (1, dL x1348), (5, dI t)], []⟩)) (Sum.elim (fun (t : Bool) => (Exit.ret, ⟨mkE 26 0 [(4, dB t)], []⟩)) (fun (t : Unit) => ((Exit.exit 0), ⟨mkE 26 0 [], []⟩)))) := .of fun K h => by
  simp only [laws_eqIntS_n3, wpW] at h
  exact .of (by kernel_rfl) h

def laws_eqIntS_n4_l (x1347 : List Int) (x1348 : List Int) := (link_loop (mk := fun (s : Int) => ⟨mkE 26 0 [(0, dL x1347), (1, dL x1348), (5, dI s)], []⟩) (fin := (Sum.elim (fun (t : Bool) => (Exit.ret, ⟨mkE 26 0 [(4, dB t)], []⟩)) (fun (t : Unit) => ((Exit.exit 0), ⟨mkE 26 0 [], []⟩)))) (by
  rintro (t | t) f K h
  · exact h
  · exact h) (fun s => link_map (laws_eqIntS_n3_l x1347 x1348 s) (Sum.elim (fun (t : Int) => Sum.inl t) (Sum.elim (fun (t : Bool) => Sum.inr (Sum.inl t)) (fun (t : Unit) => Sum.inr (Sum.inr t)))) (by
  rintro (t | t | t)
  · kernel_rfl
  · kernel_rfl
  · kernel_rfl)) 0)

def laws_eqIntS_n5_l (x1347 : List Int) (x1348 : List Int) := (link_block (fin2 := (Sum.elim (fun (t : Unit) => (Exit.normal, ⟨mkE 26 0 [], []⟩)) (fun (t : Bool) => (Exit.ret, ⟨mkE 26 0 [(4, dB t)], []⟩)))) (id := 0) (laws_eqIntS_n4_l x1347 x1348) (Sum.elim (fun (t : Bool) => (Sum.inr t)) (fun (t : Unit) => (Sum.inl ()))) (by
  rintro (t | t) K h
  · exact Eq.mp (by kernel_rfl) h
  · exact Eq.mp (by kernel_rfl) h))

def laws_eqIntS_n6_l (x1347 : List Int) (x1348 : List Int) := (link_seq (laws_eqIntS_n2_l x1347 x1348) (fun (t : Unit) => (laws_eqIntS_n5_l x1347 x1348)))

theorem laws_eqIntS_n7_l : Link laws_eqIntS_ctx LL (cq [1,1,1] (bodyOf Try.f13)) (aq [1,1,1] laws_eqIntS_an) ⟨mkE 26 0 [], []⟩ (laws_eqIntS_n7) (fun (t : Bool) => (Exit.ret, ⟨mkE 26 0 [(4, dB t)], []⟩)) := .of fun K h => by
  simp only [laws_eqIntS_n7, wpW] at h
  exact .of (by kernel_rfl) h

def laws_eqIntS_n8_l (x1347 : List Int) (x1348 : List Int) := (link_seq2 (laws_eqIntS_n6_l x1347 x1348) (fun (t : Unit) => (laws_eqIntS_n7_l)) (fun (t : Bool) => t) (by
  rintro t
  · kernel_rfl) (by
  rintro t f K h
  · exact h))

def laws_eqIntS_n9_l (x1347 : List Int) (x1348 : List Int) := (link_group (c := (cq [0,1] (bodyOf Try.f13))) (a := (aq [0,1] laws_eqIntS_an)) [(cq [0] (bodyOf Try.f13))] [(aq [0] laws_eqIntS_an)] rfl (link_seq2 (laws_eqIntS_n1_l x1347 x1348) (fun (t : Unit) => (laws_eqIntS_n8_l x1347 x1348)) (fun (t : Bool) => t) (by
  rintro t
  · kernel_rfl) (by
  rintro t f K h
  · exact h)))

theorem laws_eqIntS_e (x1347 : List Int) (x1348 : List Int) {r : AV} {H' : Heap} (h : (Ans.mk _ (laws_eqIntS x1347 x1348) (fun (t : Bool) => (dB t, [])) [] none).run = some (r, H')) : Awp laws_eqIntS_ctx LL (bodyOf Try.f13) laws_eqIntS_an ⟨mkE 26 0 [(0, dL x1347), (1, dL x1348)], []⟩ (Ret (tlook tys) Try.f13.results.toList r H') :=
  ret_of' (Link.cast (by kernel_rfl) (by kernel_rfl) (laws_eqIntS_n9_l x1347 x1348)) (by unfold laws_eqIntS; kernel_rfl) (by
  intro t
  exact ret_mk [dB t] (by kernel_rfl) (by kernel_rfl) (by kernel_rfl) (by kernel_rfl)) h

def F_laws_eqIntS : Fun := fun avs H =>
  match avs, H with
  | [.dat (.list (.int .i64)) x1347, .dat (.list (.int .i64)) x1348], [] => ⟨_, laws_eqIntS x1347 x1348, fun (t : Bool) => (dB t, []), [], none⟩
  | _, _ => Ans.no

theorem laws_eqIntS_sound : Sound Try.prog 13 F_laws_eqIntS := by
  refine fn_sound' (C := laws_eqIntS_ctx) (c := bodyOf Try.f13) (cok_of tys_ok (alln) (alln) (by kernel_rfl)) Try.func13 (by kernel_rfl) LL laws_eqIntS_an ?_
  intro avs H r H' h
  unfold F_laws_eqIntS at h
  split at h
  · refine Awp.cast ?_ ?_ ?_ (laws_eqIntS_e _ _ h) <;> kernel_rfl
  · simp [Ans.no, Ans.run] at h


/-! loop.example/headtrees/laws.eqIntSS -/

def laws_eqIntSS_an : Ann := (.seq (.leaf [0, 1]) (.seq (.seq (.leaf [0, 1, 10]) (.cond (.seq (.leaf [4]) (.leaf [4])) (.leaf [0, 1]))) (.seq (.seq (.leaf [0, 1, 5]) (.block (.loop (.seq (.seq (.leaf [0, 1, 5, 14]) (.cond (.leaf [0, 1, 5]) (.leaf []))) (.seq (.block (.seq (.draw [8] [0, 1, 2, 3, 4, 5, 6, 7, 8, 9] [] [0, 1, 5, 26]) (.cond (.seq (.leaf [4]) (.leaf [4])) (.leaf [0, 1, 5])))) (.leaf [0, 1, 5])))))) (.seq (.leaf [4]) (.leaf [4])))))

noncomputable def laws_eqIntSS_ctx : Ctx := ⟨tlook tys, olook [(13, F_laws_eqIntS)], ioF, 0, false, []⟩

theorem laws_eqIntSS_n1_l (x1384 : List (List Int)) (x1385 : List (List Int)) : Link laws_eqIntSS_ctx LL (Code.seq (cq [0] (bodyOf Try.f22)) (cq [0,1] (bodyOf Try.f22))) (Ann.seq (aq [0] laws_eqIntSS_an) (aq [0,1] laws_eqIntSS_an)) ⟨mkE 27 0 [(0, .dat (.list (.list (.int .i64))) x1384), (1, .dat (.list (.list (.int .i64))) x1385)], []⟩ (laws_eqIntSS_n1 x1384 x1385) (Sum.elim (fun (t : Unit) => (Exit.normal, ⟨mkE 27 0 [(0, .dat (.list (.list (.int .i64))) x1384), (1, .dat (.list (.list (.int .i64))) x1385)], []⟩)) (fun (t : Bool) => (Exit.ret, ⟨mkE 27 0 [(4, dB t)], []⟩))) := .of fun K h => by
  simp only [laws_eqIntSS_n1, wpW] at h
  exact .of (by kernel_rfl) h

theorem laws_eqIntSS_n2_l (x1384 : List (List Int)) (x1385 : List (List Int)) : Link laws_eqIntSS_ctx LL (cq [0,0,1,1] (bodyOf Try.f22)) (aq [0,0,1,1] laws_eqIntSS_an) ⟨mkE 27 0 [(0, .dat (.list (.list (.int .i64))) x1384), (1, .dat (.list (.list (.int .i64))) x1385)], []⟩ (laws_eqIntSS_n2) (fun (t : Unit) => (Exit.normal, ⟨mkE 27 0 [(0, .dat (.list (.list (.int .i64))) x1384), (1, .dat (.list (.list (.int .i64))) x1385), (5, dI 0)], []⟩)) := .of fun K h => by
  simp only [laws_eqIntSS_n2, wpW] at h
  exact .of (by kernel_rfl) h

theorem laws_eqIntSS_n3_l (x1384 : List (List Int)) (x1385 : List (List Int)) (x1404 : Int) : Link laws_eqIntSS_ctx LL (cq [0,0,1,0,1,1] (bodyOf Try.f22)) (aq [0,0,1,0,1,1] laws_eqIntSS_an) ⟨mkE 27 0 [(0, .dat (.list (.list (.int .i64))) x1384), (1, .dat (.list (.list (.int .i64))) x1385), (5, dI x1404)], []⟩ (laws_eqIntSS_n3 x1384 x1385 x1404) (Sum.elim (fun (t : Int) => (Exit.normal, ⟨mkE 27 0 [(0, .dat (.list (.list (.int .i64))) x1384), (1, .dat (.list (.list (.int .i64))) x1385), (5, dI t)], []⟩)) (Sum.elim (fun (t : Bool) => (Exit.ret, ⟨mkE 27 0 [(4, dB t)], []⟩)) (fun (t : Unit) => ((Exit.exit 0), ⟨mkE 27 0 [], []⟩)))) := .of fun K h => by
  simp only [laws_eqIntSS_n3, wpW] at h
  exact .of (by kernel_rfl) h

def laws_eqIntSS_n4_l (x1384 : List (List Int)) (x1385 : List (List Int)) := (link_loop (mk := fun (s : Int) => ⟨mkE 27 0 [(0, .dat (.list (.list (.int .i64))) x1384), (1, .dat (.list (.list (.int .i64))) x1385), (5, dI s)], []⟩) (fin := (Sum.elim (fun (t : Bool) => (Exit.ret, ⟨mkE 27 0 [(4, dB t)], []⟩)) (fun (t : Unit) => ((Exit.exit 0), ⟨mkE 27 0 [], []⟩)))) (by
  rintro (t | t) f K h
  · exact h
  · exact h) (fun s => link_map (laws_eqIntSS_n3_l x1384 x1385 s) (Sum.elim (fun (t : Int) => Sum.inl t) (Sum.elim (fun (t : Bool) => Sum.inr (Sum.inl t)) (fun (t : Unit) => Sum.inr (Sum.inr t)))) (by
  rintro (t | t | t)
  · kernel_rfl
  · kernel_rfl
  · kernel_rfl)) 0)

def laws_eqIntSS_n5_l (x1384 : List (List Int)) (x1385 : List (List Int)) := (link_block (fin2 := (Sum.elim (fun (t : Unit) => (Exit.normal, ⟨mkE 27 0 [], []⟩)) (fun (t : Bool) => (Exit.ret, ⟨mkE 27 0 [(4, dB t)], []⟩)))) (id := 0) (laws_eqIntSS_n4_l x1384 x1385) (Sum.elim (fun (t : Bool) => (Sum.inr t)) (fun (t : Unit) => (Sum.inl ()))) (by
  rintro (t | t) K h
  · exact Eq.mp (by kernel_rfl) h
  · exact Eq.mp (by kernel_rfl) h))

def laws_eqIntSS_n6_l (x1384 : List (List Int)) (x1385 : List (List Int)) := (link_seq (laws_eqIntSS_n2_l x1384 x1385) (fun (t : Unit) => (laws_eqIntSS_n5_l x1384 x1385)))

theorem laws_eqIntSS_n7_l : Link laws_eqIntSS_ctx LL (cq [1,1,1] (bodyOf Try.f22)) (aq [1,1,1] laws_eqIntSS_an) ⟨mkE 27 0 [], []⟩ (laws_eqIntSS_n7) (fun (t : Bool) => (Exit.ret, ⟨mkE 27 0 [(4, dB t)], []⟩)) := .of fun K h => by
  simp only [laws_eqIntSS_n7, wpW] at h
  exact .of (by kernel_rfl) h

def laws_eqIntSS_n8_l (x1384 : List (List Int)) (x1385 : List (List Int)) := (link_seq2 (laws_eqIntSS_n6_l x1384 x1385) (fun (t : Unit) => (laws_eqIntSS_n7_l)) (fun (t : Bool) => t) (by
  rintro t
  · kernel_rfl) (by
  rintro t f K h
  · exact h))

def laws_eqIntSS_n9_l (x1384 : List (List Int)) (x1385 : List (List Int)) := (link_group (c := (cq [0,1] (bodyOf Try.f22))) (a := (aq [0,1] laws_eqIntSS_an)) [(cq [0] (bodyOf Try.f22))] [(aq [0] laws_eqIntSS_an)] rfl (link_seq2 (laws_eqIntSS_n1_l x1384 x1385) (fun (t : Unit) => (laws_eqIntSS_n8_l x1384 x1385)) (fun (t : Bool) => t) (by
  rintro t
  · kernel_rfl) (by
  rintro t f K h
  · exact h)))

theorem laws_eqIntSS_e (x1384 : List (List Int)) (x1385 : List (List Int)) {r : AV} {H' : Heap} (h : (Ans.mk _ (laws_eqIntSS x1384 x1385) (fun (t : Bool) => (dB t, [])) [] none).run = some (r, H')) : Awp laws_eqIntSS_ctx LL (bodyOf Try.f22) laws_eqIntSS_an ⟨mkE 27 0 [(0, .dat (.list (.list (.int .i64))) x1384), (1, .dat (.list (.list (.int .i64))) x1385)], []⟩ (Ret (tlook tys) Try.f22.results.toList r H') :=
  ret_of' (Link.cast (by kernel_rfl) (by kernel_rfl) (laws_eqIntSS_n9_l x1384 x1385)) (by unfold laws_eqIntSS; kernel_rfl) (by
  intro t
  exact ret_mk [dB t] (by kernel_rfl) (by kernel_rfl) (by kernel_rfl) (by kernel_rfl)) h

def F_laws_eqIntSS : Fun := fun avs H =>
  match avs, H with
  | [.dat (.list (.list (.int .i64))) x1384, .dat (.list (.list (.int .i64))) x1385], [] => ⟨_, laws_eqIntSS x1384 x1385, fun (t : Bool) => (dB t, []), [], none⟩
  | _, _ => Ans.no

theorem laws_eqIntSS_sound : Sound Try.prog 22 F_laws_eqIntSS := by
  refine fn_sound' (C := laws_eqIntSS_ctx) (c := bodyOf Try.f22) (cok_of tys_ok (allc laws_eqIntS_sound alln) (allc Try.call13 alln) (by kernel_rfl)) Try.func22 (by kernel_rfl) LL laws_eqIntSS_an ?_
  intro avs H r H' h
  unfold F_laws_eqIntSS at h
  split at h
  · refine Awp.cast ?_ ?_ ?_ (laws_eqIntSS_e _ _ h) <;> kernel_rfl
  · simp [Ans.no, Ans.run] at h


/-! loop.example/headtrees/laws.eqDesk -/

def laws_eqDesk_an : Ann := (.seq (.leaf [2, 3]) (.seq (.seq (.leaf [2, 3, 10]) (.cond (.seq (.leaf [4]) (.leaf [4])) (.leaf [2, 3]))) (.seq (.seq (.leaf [16]) (.cond (.seq (.leaf [4]) (.leaf [4])) (.leaf []))) (.seq (.leaf [4]) (.leaf [4])))))

noncomputable def laws_eqDesk_ctx : Ctx := ⟨tlook tys, olook [(13, F_laws_eqIntS), (22, F_laws_eqIntSS)], ioF, 0, false, []⟩

theorem laws_eqDesk_n1_l (x1343 : List Int) (x1344 : List (List Int)) (x1345 : List Int) (x1346 : List (List Int)) : Link laws_eqDesk_ctx LL (bodyOf Try.f9) laws_eqDesk_an ⟨mkE 17 0 [(0, .agg [dL x1343, .dat (.list (.list (.int .i64))) x1344]), (1, .agg [dL x1345, .dat (.list (.list (.int .i64))) x1346])], []⟩ (laws_eqDesk_n1 x1343 x1344 x1345 x1346) (fun (t : Bool) => (Exit.ret, ⟨mkE 17 0 [(4, dB t)], []⟩)) := .of fun K h => by
  simp only [laws_eqDesk_n1, wpW] at h
  exact .of (by kernel_rfl) h

theorem laws_eqDesk_e (x1343 : List Int) (x1344 : List (List Int)) (x1345 : List Int) (x1346 : List (List Int)) {r : AV} {H' : Heap} (h : (Ans.mk _ (laws_eqDesk x1343 x1344 x1345 x1346) (fun (t : Bool) => (dB t, [])) [] none).run = some (r, H')) : Awp laws_eqDesk_ctx LL (bodyOf Try.f9) laws_eqDesk_an ⟨mkE 17 0 [(0, .agg [dL x1343, .dat (.list (.list (.int .i64))) x1344]), (1, .agg [dL x1345, .dat (.list (.list (.int .i64))) x1346])], []⟩ (Ret (tlook tys) Try.f9.results.toList r H') :=
  ret_of' (laws_eqDesk_n1_l x1343 x1344 x1345 x1346) (by unfold laws_eqDesk; kernel_rfl) (by
  intro t
  exact ret_mk [dB t] (by kernel_rfl) (by kernel_rfl) (by kernel_rfl) (by kernel_rfl)) h

def laws_eqDesk_v2_an : Ann := (.seq (.leaf [2, 3]) (.seq (.seq (.leaf [2, 3, 10]) (.cond (.seq (.leaf [4]) (.leaf [4])) (.leaf [2, 3]))) (.seq (.seq (.leaf [16]) (.cond (.seq (.leaf [4]) (.leaf [4])) (.leaf []))) (.seq (.leaf [4]) (.leaf [4])))))

noncomputable def laws_eqDesk_v2_ctx : Ctx := ⟨tlook tys, olook [(13, F_laws_eqIntS), (22, F_laws_eqIntSS)], ioF, 0, false, []⟩

theorem laws_eqDesk_v2_n1_l (x1629 : List Int) (x1630 : List (List Int)) (x1631 : List Int) : Link laws_eqDesk_v2_ctx LL (bodyOf Try.f9) laws_eqDesk_v2_an ⟨mkE 17 0 [(0, .agg [dL x1629, .dat (.list (.list (.int .i64))) x1630]), (1, .agg [dL x1631, .nils])], []⟩ (laws_eqDesk_v2_n1 x1629 x1630 x1631) (fun (t : Bool) => (Exit.ret, ⟨mkE 17 0 [(4, dB t)], []⟩)) := .of fun K h => by
  simp only [laws_eqDesk_v2_n1, wpW] at h
  exact .of (by kernel_rfl) h

theorem laws_eqDesk_v2_e (x1629 : List Int) (x1630 : List (List Int)) (x1631 : List Int) {r : AV} {H' : Heap} (h : (Ans.mk _ (laws_eqDesk_v2 x1629 x1630 x1631) (fun (t : Bool) => (dB t, [])) [] none).run = some (r, H')) : Awp laws_eqDesk_v2_ctx LL (bodyOf Try.f9) laws_eqDesk_v2_an ⟨mkE 17 0 [(0, .agg [dL x1629, .dat (.list (.list (.int .i64))) x1630]), (1, .agg [dL x1631, .nils])], []⟩ (Ret (tlook tys) Try.f9.results.toList r H') :=
  ret_of' (laws_eqDesk_v2_n1_l x1629 x1630 x1631) (by unfold laws_eqDesk_v2; kernel_rfl) (by
  intro t
  exact ret_mk [dB t] (by kernel_rfl) (by kernel_rfl) (by kernel_rfl) (by kernel_rfl)) h

def F_laws_eqDesk : Fun := fun avs H =>
  match avs, H with
  | [.agg [.dat (.list (.int .i64)) x1343, .dat (.list (.list (.int .i64))) x1344], .agg [.dat (.list (.int .i64)) x1345, .dat (.list (.list (.int .i64))) x1346]], [] => ⟨_, laws_eqDesk x1343 x1344 x1345 x1346, fun (t : Bool) => (dB t, []), [], none⟩
  | [.agg [.dat (.list (.int .i64)) x1629, .dat (.list (.list (.int .i64))) x1630], .agg [.dat (.list (.int .i64)) x1631, .nils]], [] => ⟨_, laws_eqDesk_v2 x1629 x1630 x1631, fun (t : Bool) => (dB t, []), [], none⟩
  | _, _ => Ans.no

theorem laws_eqDesk_sound : Sound Try.prog 9 F_laws_eqDesk := by
  refine fn_sound' (C := laws_eqDesk_ctx) (c := bodyOf Try.f9) (cok_of tys_ok (allc laws_eqIntS_sound (allc laws_eqIntSS_sound alln)) (allc Try.call13 (allc Try.call22 alln)) (by kernel_rfl)) Try.func9 (by kernel_rfl) LL laws_eqDesk_an ?_
  intro avs H r H' h
  unfold F_laws_eqDesk at h
  split at h
  · refine Awp.cast ?_ ?_ ?_ (laws_eqDesk_e _ _ _ _ h) <;> kernel_rfl
  · refine Awp.cast ?_ ?_ ?_ (laws_eqDesk_v2_e _ _ _ h) <;> kernel_rfl
  · simp [Ans.no, Ans.run] at h


/-! loop.example/headtrees/spec.DeskNew -/

def spec_DeskNew_an : Ann := (.seq (.leaf [0, 2]) (.seq (.seq (.leaf [0, 2, 6]) (.cond (.seq (.leaf [2, 3]) (.leafF [⟨0, 2, false, some 0, some (.int .i64)⟩] [2, 3])) (.leaf [0, 2]))) (.seq (.leaf [2, 3]) (.leaf [2, 3]))))

noncomputable def spec_DeskNew_ctx : Ctx := ⟨tlook tys, olook [(19, F_spec_TreeOk)], ioF, 0, false, []⟩

theorem spec_DeskNew_n1_l (x1474 : List Int) : Link spec_DeskNew_ctx LL (bodyOf Try.f10) spec_DeskNew_an ⟨mkE 12 0 [(0, dL x1474)], []⟩ (spec_DeskNew_n1 x1474) (fun (t : Bool × (List Int)) => (Exit.ret, ⟨mkE 12 0 [(2, .ptr 0 0), (3, dB t.1)], [some (.box [.slc 1, .nils]), some (sI t.2)]⟩)) := .of fun K h => by
  simp only [spec_DeskNew_n1, wpW] at h
  exact .of (by kernel_rfl) h

theorem spec_DeskNew_e (x1474 : List Int) {r : AV} {H' : Heap} (h : (Ans.mk _ (spec_DeskNew x1474) (fun (t : Bool × (List Int)) => (.tup [.agg [.slc 1, .nils], dB t.1], [some (.box [.slc 1, .nils]), some (sI t.2)])) [] none).run = some (r, H')) : Awp spec_DeskNew_ctx LL (bodyOf Try.f10) spec_DeskNew_an ⟨mkE 12 0 [(0, dL x1474)], []⟩ (Ret (tlook tys) Try.f10.results.toList r H') :=
  ret_of' (spec_DeskNew_n1_l x1474) (by unfold spec_DeskNew; kernel_rfl) (by
  intro t
  exact ret_mk [.agg [.slc 1, .nils], dB t.1] (by kernel_rfl) (by kernel_rfl) (by kernel_rfl) (by kernel_rfl)) h

def F_spec_DeskNew : Fun := fun avs H =>
  match avs, H with
  | [.dat (.list (.int .i64)) x1474], [] => ⟨_, spec_DeskNew x1474, fun (t : Bool × (List Int)) => (.tup [.agg [.slc 1, .nils], dB t.1], [some (.box [.slc 1, .nils]), some (sI t.2)]), [], none⟩
  | _, _ => Ans.no

theorem spec_DeskNew_sound : Sound Try.prog 10 F_spec_DeskNew := by
  refine fn_sound' (C := spec_DeskNew_ctx) (c := bodyOf Try.f10) (cok_of tys_ok (allc spec_TreeOk_sound alln) (allc Try.call19 alln) (by kernel_rfl)) Try.func10 (by kernel_rfl) LL spec_DeskNew_an ?_
  intro avs H r H' h
  unfold F_spec_DeskNew at h
  split at h
  · refine Awp.cast ?_ ?_ ?_ (spec_DeskNew_e _ h) <;> kernel_rfl
  · simp [Ans.no, Ans.run] at h


/-! slices.Clone[[]int,int] -/

def ren_slices_Clone_int_int : Go.Shelf.Ren := ⟨fun | 41 => 30 | n => n, fun | 4 => 4 | 22 => 22 | 23 => 3 | n => n, fun n => n⟩

theorem lay_slices_Clone_int_int : SlLaysE0.n41 Try.prog ren_slices_Clone_int_int := {
  mixed := by kernel_rfl
  f41 := ⟨Try.f30.name, by kernel_rfl, Try.func30.trans (congrArg some (by kernel_rfl))⟩
  t4 := Try.underlying4
  a4 := Try.isAgg4
  z4 := Try.sizeOf4
  v4 := Try.zeroValue4
  t22 := Try.underlying22
  a22 := Try.isAgg22
  z22 := Try.sizeOf22
  v22 := Try.zeroValue22 }

def F_slices_Clone_int_int : Fun := F_cloneD
theorem slices_Clone_int_int_sound : Sound Try.prog 30 F_slices_Clone_int_int := cloneD_sound lay_slices_Clone_int_int (infoOf (Try.prog.info? 3)) (.int .i64 0) 8 (by kernel_rfl) (by kernel_rfl) (by kernel_rfl) (by kernel_rfl) (by kernel_rfl) (by decide) Try.sizeOf3


/-! loop.example/headtrees/impl.newDesk -/

def impl_newDesk_an : Ann := (.seq (.leaf [0, 1, 4]) (.seq (.leaf [1, 4, 5]) (.seq (.seq (.leafF [⟨3, 5, true, some 1, some (.int .i64)⟩] [4, 5, 11, 12, 13]) (.block (.loop (.seq (.leaf [4, 5, 11, 12, 13, 14]) (.seq (.cond (.leaf [4, 5, 11, 12, 13]) (.leaf [4, 5])) (.seq (.block (.seq (.leaf [4, 5, 7, 11, 12, 13]) (.draw [3, 100005] [0, 1, 2, 3, 4, 5, 6, 7] [] [4, 5, 11, 12, 13]))) (.leaf [4, 5, 11, 12, 13]))))))) (.seq (.leaf [4]) (.leaf [4])))))

noncomputable def impl_newDesk_ctx : Ctx := ⟨tlook tys, olook [(30, F_slices_Clone_int_int)], ioF, 0, true, []⟩

theorem impl_newDesk_n1_l (x1523 : List Int) (x1524 : List (List Int)) : Link impl_newDesk_ctx LL (Code.seq (cq [0] (bodyOf Try.f23)) (cq [0,1] (bodyOf Try.f23))) (Ann.seq (aq [0] impl_newDesk_an) (aq [0,1] impl_newDesk_an)) ⟨mkE 26 0 [(0, dL x1523), (1, .dat (.list (.list (.int .i64))) x1524)], []⟩ (impl_newDesk_n1 x1523) (fun (t : (List Int)) => (Exit.normal, ⟨mkE 26 0 [(1, .dat (.list (.list (.int .i64))) x1524), (4, .ptr 0 0), (5, .ptr 1 0)], [some (.box [.nils, .nils]), some (.box [.slc 2, .nils]), some (sI t)]⟩)) := .of fun K h => by
  simp only [impl_newDesk_n1, wpW] at h
  exact .of (by kernel_rfl) h

theorem impl_newDesk_n2_l (x1524 : List (List Int)) (x1549 : List Int) : Link impl_newDesk_ctx LL (cq [0,0,1,1] (bodyOf Try.f23)) (aq [0,0,1,1] impl_newDesk_an) ⟨mkE 26 0 [(1, .dat (.list (.list (.int .i64))) x1524), (4, .ptr 0 0), (5, .ptr 1 0)], [some (.box [.nils, .nils]), some (.box [.slc 2, .nils]), some (sI x1549)]⟩ (impl_newDesk_n2 x1524) (fun (t : Int) => (Exit.normal, ⟨mkE 26 0 [(4, .ptr 0 0), (5, .ptr 1 0), (11, .dat (.list (.list (.int .i64))) x1524), (12, dI t), (13, dI 0)], [some (.box [.nils, .nils]), some (.box [.slc 2, .slc 3]), some (sI x1549), some (.nest (.int .i64) ([] : List (List Int)) 0 [])]⟩)) := .of fun K h => by
  simp only [impl_newDesk_n2, wpW] at h
  exact .of (by kernel_rfl) h

theorem impl_newDesk_n3_l (x1524 : List (List Int)) (x1550 : Int) (x1564 : Int) (x1549 : List Int) (x1565 : List (List Int)) : Link impl_newDesk_ctx LL (cq [0,0,1,0,1,1] (bodyOf Try.f23)) (aq [0,0,1,0,1,1] impl_newDesk_an) ⟨mkE 26 0 [(4, .ptr 0 0), (5, .ptr 1 0), (11, .dat (.list (.list (.int .i64))) x1524), (12, dI x1550), (13, dI x1564)], [some (.box [.nils, .nils]), some (.box [.slc 2, .slc 3]), some (sI x1549), some (.nest (.int .i64) x1565 0 [])]⟩ (impl_newDesk_n3 x1524 x1550 x1564 x1565) (Sum.elim (fun (t : Int × (List (List Int))) => (Exit.normal, ⟨mkE 26 0 [(4, .ptr 0 0), (5, .ptr 1 0), (11, .dat (.list (.list (.int .i64))) x1524), (12, dI x1550), (13, dI t.1)], [some (.box [.nils, .nils]), some (.box [.slc 2, .slc 3]), some (sI x1549), some (.nest (.int .i64) t.2 0 [])]⟩)) (fun (t : (List (List Int))) => ((Exit.exit 0), ⟨mkE 26 0 [(4, .ptr 0 0), (5, .ptr 1 0)], [some (.box [.nils, .nils]), some (.box [.slc 2, .slc 3]), some (sI x1549), some (.nest (.int .i64) t 0 [])]⟩))) := .of fun K h => by
  simp only [impl_newDesk_n3, wpW] at h
  exact .of (by kernel_rfl) h

def impl_newDesk_n4_l (x1524 : List (List Int)) (x1550 : Int) (x1549 : List Int) := (link_loop (mk := fun (s : Int × (List (List Int))) => ⟨mkE 26 0 [(4, .ptr 0 0), (5, .ptr 1 0), (11, .dat (.list (.list (.int .i64))) x1524), (12, dI x1550), (13, dI s.1)], [some (.box [.nils, .nils]), some (.box [.slc 2, .slc 3]), some (sI x1549), some (.nest (.int .i64) s.2 0 [])]⟩) (fin := (fun (t : (List (List Int))) => ((Exit.exit 0), ⟨mkE 26 0 [(4, .ptr 0 0), (5, .ptr 1 0)], [some (.box [.nils, .nils]), some (.box [.slc 2, .slc 3]), some (sI x1549), some (.nest (.int .i64) t 0 [])]⟩))) (by
  rintro t f K h
  · exact h) (fun s => link_map (impl_newDesk_n3_l x1524 x1550 s.1 x1549 s.2) (Sum.elim (fun (t : Int × (List (List Int))) => Sum.inl (t.1, t.2)) (fun (t : (List (List Int))) => Sum.inr t)) (by
  rintro (t | t)
  · kernel_rfl
  · kernel_rfl)) (0, ([] : List (List Int))))

def impl_newDesk_n5_l (x1524 : List (List Int)) (x1550 : Int) (x1549 : List Int) := (link_block (fin2 := (fun (t : (List (List Int))) => (Exit.normal, ⟨mkE 26 0 [(4, .ptr 0 0), (5, .ptr 1 0)], [some (.box [.nils, .nils]), some (.box [.slc 2, .slc 3]), some (sI x1549), some (.nest (.int .i64) t 0 [])]⟩))) (id := 0) (impl_newDesk_n4_l x1524 x1550 x1549) (fun (t : (List (List Int))) => t) (by
  rintro t K h
  · exact Eq.mp (by kernel_rfl) h))

def impl_newDesk_n6_l (x1524 : List (List Int)) (x1549 : List Int) := (link_seq (impl_newDesk_n2_l x1524 x1549) (fun (t : Int) => (impl_newDesk_n5_l x1524 t x1549)))

theorem impl_newDesk_n7_l (x1549 : List Int) (x1565 : List (List Int)) : Link impl_newDesk_ctx LL (cq [1,1,1] (bodyOf Try.f23)) (aq [1,1,1] impl_newDesk_an) ⟨mkE 26 0 [(4, .ptr 0 0), (5, .ptr 1 0)], [some (.box [.nils, .nils]), some (.box [.slc 2, .slc 3]), some (sI x1549), some (.nest (.int .i64) x1565 0 [])]⟩ (impl_newDesk_n7 x1549 x1565) (fun (t : (List Int) × (List (List Int))) => (Exit.ret, ⟨mkE 26 0 [(4, .ptr 0 0)], [some (.box [.slc 1, .slc 2]), some (sI t.1), some (.nest (.int .i64) t.2 0 [])]⟩)) := .of fun K h => by
  simp only [impl_newDesk_n7, wpW] at h
  exact .of (by kernel_rfl) h

def impl_newDesk_n8_l (x1524 : List (List Int)) (x1549 : List Int) := (link_seq (impl_newDesk_n6_l x1524 x1549) (fun (t : (List (List Int))) => (impl_newDesk_n7_l x1549 t)))

def impl_newDesk_n9_l (x1523 : List Int) (x1524 : List (List Int)) := (link_group (c := (cq [0,1] (bodyOf Try.f23))) (a := (aq [0,1] impl_newDesk_an)) [(cq [0] (bodyOf Try.f23))] [(aq [0] impl_newDesk_an)] rfl (link_seq (impl_newDesk_n1_l x1523 x1524) (fun (t : (List Int)) => (impl_newDesk_n8_l x1524 t))))

theorem impl_newDesk_e (x1523 : List Int) (x1524 : List (List Int)) {r : AV} {H' : Heap} (h : (Ans.mk _ (impl_newDesk x1523 x1524) (fun (t : (List Int) × (List (List Int))) => (.agg [.slc 1, .slc 2], [some (.box [.slc 1, .slc 2]), some (sI t.1), some (.nest (.int .i64) t.2 0 [])])) [] none).run = some (r, H')) : Awp impl_newDesk_ctx LL (bodyOf Try.f23) impl_newDesk_an ⟨mkE 26 0 [(0, dL x1523), (1, .dat (.list (.list (.int .i64))) x1524)], []⟩ (Ret (tlook tys) Try.f23.results.toList r H') :=
  ret_of' (Link.cast (by kernel_rfl) (by kernel_rfl) (impl_newDesk_n9_l x1523 x1524)) (by unfold impl_newDesk; kernel_rfl) (by
  intro t
  exact ret_mk [.agg [.slc 1, .slc 2]] (by kernel_rfl) (by kernel_rfl) (by kernel_rfl) (by kernel_rfl)) h

def F_impl_newDesk : Fun := fun avs H =>
  match avs, H with
  | [.dat (.list (.int .i64)) x1523, .dat (.list (.list (.int .i64))) x1524], [] => ⟨_, impl_newDesk x1523 x1524, fun (t : (List Int) × (List (List Int))) => (.agg [.slc 1, .slc 2], [some (.box [.slc 1, .slc 2]), some (sI t.1), some (.nest (.int .i64) t.2 0 [])]), [], none⟩
  | _, _ => Ans.no

theorem impl_newDesk_sound : Sound Try.prog 23 F_impl_newDesk := by
  refine fn_sound' (C := impl_newDesk_ctx) (c := bodyOf Try.f23) (cok_of tys_ok (allc slices_Clone_int_int_sound alln) (allc Try.call30 alln) (by kernel_rfl)) Try.func23 (by kernel_rfl) LL impl_newDesk_an ?_
  intro avs H r H' h
  unfold F_impl_newDesk at h
  split at h
  · refine Awp.cast ?_ ?_ ?_ (impl_newDesk_e _ _ h) <;> kernel_rfl
  · simp [Ans.no, Ans.run] at h


/-! loop.example/headtrees/impl.DeskNew -/

def impl_DeskNew_an : Ann := (.seq (.leaf [0, 2]) (.seq (.seq (.leaf [0, 2, 6]) (.cond (.seq (.leaf [2, 3]) (.leafF [⟨0, 2, false, some 0, some (.int .i64)⟩, ⟨0, 2, true, some 1, some (.int .i64)⟩] [2, 3])) (.leaf [0, 2]))) (.seq (.leaf [2, 3]) (.leaf [2, 3]))))

noncomputable def impl_DeskNew_ctx : Ctx := ⟨tlook tys, olook [(21, F_impl_TreeOk), (23, F_impl_newDesk)], ioF, 0, true, []⟩

theorem impl_DeskNew_n1_l (x1518 : List Int) : Link impl_DeskNew_ctx LL (bodyOf Try.f12) impl_DeskNew_an ⟨mkE 10 0 [(0, dL x1518)], []⟩ (impl_DeskNew_n1 x1518) (fun (t : Bool × (List Int) × (List (List Int))) => (Exit.ret, ⟨mkE 10 0 [(2, .ptr 0 0), (3, dB t.1)], [some (.box [.slc 1, .slc 2]), some (sI t.2.1), some (.nest (.int .i64) t.2.2 0 [])]⟩)) := .of fun K h => by
  simp only [impl_DeskNew_n1, wpW] at h
  exact .of (by kernel_rfl) h

theorem impl_DeskNew_e (x1518 : List Int) {r : AV} {H' : Heap} (h : (Ans.mk _ (impl_DeskNew x1518) (fun (t : Bool × (List Int) × (List (List Int))) => (.tup [.agg [.slc 1, .slc 2], dB t.1], [some (.box [.slc 1, .slc 2]), some (sI t.2.1), some (.nest (.int .i64) t.2.2 0 [])])) [] none).run = some (r, H')) : Awp impl_DeskNew_ctx LL (bodyOf Try.f12) impl_DeskNew_an ⟨mkE 10 0 [(0, dL x1518)], []⟩ (Ret (tlook tys) Try.f12.results.toList r H') :=
  ret_of' (impl_DeskNew_n1_l x1518) (by unfold impl_DeskNew; kernel_rfl) (by
  intro t
  exact ret_mk [.agg [.slc 1, .slc 2], dB t.1] (by kernel_rfl) (by kernel_rfl) (by kernel_rfl) (by kernel_rfl)) h

def F_impl_DeskNew : Fun := fun avs H =>
  match avs, H with
  | [.dat (.list (.int .i64)) x1518], [] => ⟨_, impl_DeskNew x1518, fun (t : Bool × (List Int) × (List (List Int))) => (.tup [.agg [.slc 1, .slc 2], dB t.1], [some (.box [.slc 1, .slc 2]), some (sI t.2.1), some (.nest (.int .i64) t.2.2 0 [])]), [], none⟩
  | _, _ => Ans.no

theorem impl_DeskNew_sound : Sound Try.prog 12 F_impl_DeskNew := by
  refine fn_sound' (C := impl_DeskNew_ctx) (c := bodyOf Try.f12) (cok_of tys_ok (allc impl_TreeOk_sound (allc impl_newDesk_sound alln)) (allc Try.call21 (allc Try.call23 alln)) (by kernel_rfl)) Try.func12 (by kernel_rfl) LL impl_DeskNew_an ?_
  intro avs H r H' h
  unfold F_impl_DeskNew at h
  split at h
  · refine Awp.cast ?_ ?_ ?_ (impl_DeskNew_e _ h) <;> kernel_rfl
  · simp [Ans.no, Ans.run] at h


/-! loop.example/headtrees/laws.markIntS -/

def laws_markIntS_an : Ann := (.seq (.leaf [0, 1]) (.seq (.seq (.leaf [0, 1, 5]) (.block (.loop (.seq (.seq (.leaf [0, 1, 5, 9]) (.cond (.leaf [0, 1, 5]) (.leaf [1]))) (.seq (.block (.seq (.leaf [0, 1, 5]) (.leaf [0, 1, 5]))) (.leaf [0, 1, 5])))))) (.seq (.leaf [4]) (.leaf [4]))))

noncomputable def laws_markIntS_ctx : Ctx := ⟨tlook tys, olook [], ioF, 1, false, []⟩

theorem laws_markIntS_n1_l (x1701 : Int) (x1702 : List Int) : Link laws_markIntS_ctx LL (cq [0] (bodyOf Try.f14)) (aq [0] laws_markIntS_an) ⟨mkE 19 0 [(0, .slc 0), (1, dI x1701)], [some (sI x1702)]⟩ (laws_markIntS_n1) (fun (t : Unit) => (Exit.normal, ⟨mkE 19 0 [(0, .slc 0), (1, dI x1701)], [some (sI x1702)]⟩)) := .of fun K h => by
  simp only [laws_markIntS_n1, wpW] at h
  exact .of (by kernel_rfl) h

theorem laws_markIntS_n2_l (x1701 : Int) (x1702 : List Int) : Link laws_markIntS_ctx LL (cq [0,0,1] (bodyOf Try.f14)) (aq [0,0,1] laws_markIntS_an) ⟨mkE 19 0 [(0, .slc 0), (1, dI x1701)], [some (sI x1702)]⟩ (laws_markIntS_n2) (fun (t : Unit) => (Exit.normal, ⟨mkE 19 0 [(0, .slc 0), (1, dI x1701), (5, dI 0)], [some (sI x1702)]⟩)) := .of fun K h => by
  simp only [laws_markIntS_n2, wpW] at h
  exact .of (by kernel_rfl) h

theorem laws_markIntS_n3_l (x1716 : Int) (x1717 : Int) (x1718 : List Int) : Link laws_markIntS_ctx LL (cq [0,0,1,0,1] (bodyOf Try.f14)) (aq [0,0,1,0,1] laws_markIntS_an) ⟨mkE 19 0 [(0, .slc 0), (1, dI x1716), (5, dI x1717)], [some (sI x1718)]⟩ (laws_markIntS_n3 x1716 x1717 x1718) (Sum.elim (fun (t : Int × Int × (List Int)) => (Exit.normal, ⟨mkE 19 0 [(0, .slc 0), (1, dI t.1), (5, dI t.2.1)], [some (sI t.2.2)]⟩)) (fun (t : Int × (List Int)) => ((Exit.exit 0), ⟨mkE 19 0 [(1, dI t.1)], [some (sI t.2)]⟩))) := .of fun K h => by
  simp only [laws_markIntS_n3, wpW] at h
  exact .of (by kernel_rfl) h

def laws_markIntS_n4_l (x1701 : Int) (x1702 : List Int) := (link_loop (mk := fun (s : Int × Int × (List Int)) => ⟨mkE 19 0 [(0, .slc 0), (1, dI s.1), (5, dI s.2.1)], [some (sI s.2.2)]⟩) (fin := (fun (t : Int × (List Int)) => ((Exit.exit 0), ⟨mkE 19 0 [(1, dI t.1)], [some (sI t.2)]⟩))) (by
  rintro t f K h
  · exact h) (fun s => link_map (laws_markIntS_n3_l s.1 s.2.1 s.2.2) (Sum.elim (fun (t : Int × Int × (List Int)) => Sum.inl (t.1, t.2.1, t.2.2)) (fun (t : Int × (List Int)) => Sum.inr t)) (by
  rintro (t | t)
  · kernel_rfl
  · kernel_rfl)) (x1701, 0, x1702))

def laws_markIntS_n5_l (x1701 : Int) (x1702 : List Int) := (link_block (fin2 := (fun (t : Int × (List Int)) => (Exit.normal, ⟨mkE 19 0 [(1, dI t.1)], [some (sI t.2)]⟩))) (id := 0) (laws_markIntS_n4_l x1701 x1702) (fun (t : Int × (List Int)) => (t.1, t.2)) (by
  rintro t K h
  · exact Eq.mp (by kernel_rfl) h))

def laws_markIntS_n6_l (x1701 : Int) (x1702 : List Int) := (link_seq (laws_markIntS_n2_l x1701 x1702) (fun (t : Unit) => (laws_markIntS_n5_l x1701 x1702)))

theorem laws_markIntS_n7_l (x1716 : Int) (x1718 : List Int) : Link laws_markIntS_ctx LL (cq [1,1] (bodyOf Try.f14)) (aq [1,1] laws_markIntS_an) ⟨mkE 19 0 [(1, dI x1716)], [some (sI x1718)]⟩ (laws_markIntS_n7 x1716 x1718) (fun (t : Int × (List Int)) => (Exit.ret, ⟨mkE 19 0 [(4, dI t.1)], [some (sI t.2)]⟩)) := .of fun K h => by
  simp only [laws_markIntS_n7, wpW] at h
  exact .of (by kernel_rfl) h

def laws_markIntS_n8_l (x1701 : Int) (x1702 : List Int) := (link_seq (laws_markIntS_n6_l x1701 x1702) (fun (t : Int × (List Int)) => (laws_markIntS_n7_l t.1 t.2)))

def laws_markIntS_n9_l (x1701 : Int) (x1702 : List Int) := (link_seq (laws_markIntS_n1_l x1701 x1702) (fun (t : Unit) => (laws_markIntS_n8_l x1701 x1702)))

theorem laws_markIntS_e (x1701 : Int) (x1702 : List Int) {r : AV} {H' : Heap} (h : (Ans.mk _ (laws_markIntS x1701 x1702) (fun (t : Int × (List Int)) => (dI t.1, [some (sI t.2)])) [] none).run = some (r, H')) : Awp laws_markIntS_ctx LL (bodyOf Try.f14) laws_markIntS_an ⟨mkE 19 0 [(0, .slc 0), (1, dI x1701)], [some (sI x1702)]⟩ (Ret (tlook tys) Try.f14.results.toList r H') :=
  ret_of' (Link.cast (by kernel_rfl) (by kernel_rfl) (laws_markIntS_n9_l x1701 x1702)) (by unfold laws_markIntS; kernel_rfl) (by
  intro t
  exact ret_mk [dI t.1] (by kernel_rfl) (by kernel_rfl) (by kernel_rfl) (by kernel_rfl)) h

def F_laws_markIntS : Fun := fun avs H =>
  match avs, H with
  | [.slc 0, .dat (.int .i64) x1701], [some (.seq (.int .i64) x1702)] => ⟨_, laws_markIntS x1701 x1702, fun (t : Int × (List Int)) => (dI t.1, [some (sI t.2)]), [], none⟩
  | _, _ => Ans.no

theorem laws_markIntS_sound : Sound Try.prog 14 F_laws_markIntS := by
  refine fn_sound' (C := laws_markIntS_ctx) (c := bodyOf Try.f14) (cok_of tys_ok (alln) (alln) (by kernel_rfl)) Try.func14 (by kernel_rfl) LL laws_markIntS_an ?_
  intro avs H r H' h
  unfold F_laws_markIntS at h
  split at h
  · refine Awp.cast ?_ ?_ ?_ (laws_markIntS_e _ _ h) <;> kernel_rfl
  · simp [Ans.no, Ans.run] at h


/-! loop.example/headtrees/laws.markIntSS -/

def laws_markIntSS_an : Ann := (.seq (.leaf [0, 1]) (.seq (.seq (.leaf [0, 1, 5]) (.block (.loop (.seq (.seq (.leaf [0, 1, 5, 9]) (.cond (.leaf [0, 1, 5]) (.leaf [1]))) (.seq (.block (.leafF [⟨7, 0, true, some 0, none⟩] [0, 1, 5])) (.leaf [0, 1, 5])))))) (.seq (.leaf [4]) (.leaf [4]))))

noncomputable def laws_markIntSS_ctx : Ctx := ⟨tlook tys, olook [(14, F_laws_markIntS)], ioF, 1, true, []⟩

theorem laws_markIntSS_n1_l (x1816 : Int) (x1817 : List (List Int)) : Link laws_markIntSS_ctx LL (cq [0] (bodyOf Try.f24)) (aq [0] laws_markIntSS_an) ⟨mkE 19 0 [(0, .slc 0), (1, dI x1816)], [some (.nest (.int .i64) x1817 0 [])]⟩ (laws_markIntSS_n1) (fun (t : Unit) => (Exit.normal, ⟨mkE 19 0 [(0, .slc 0), (1, dI x1816)], [some (.nest (.int .i64) x1817 0 [])]⟩)) := .of fun K h => by
  simp only [laws_markIntSS_n1, wpW] at h
  exact .of (by kernel_rfl) h

theorem laws_markIntSS_n2_l (x1816 : Int) (x1817 : List (List Int)) : Link laws_markIntSS_ctx LL (cq [0,0,1] (bodyOf Try.f24)) (aq [0,0,1] laws_markIntSS_an) ⟨mkE 19 0 [(0, .slc 0), (1, dI x1816)], [some (.nest (.int .i64) x1817 0 [])]⟩ (laws_markIntSS_n2) (fun (t : Unit) => (Exit.normal, ⟨mkE 19 0 [(0, .slc 0), (1, dI x1816), (5, dI 0)], [some (.nest (.int .i64) x1817 0 [])]⟩)) := .of fun K h => by
  simp only [laws_markIntSS_n2, wpW] at h
  exact .of (by kernel_rfl) h

theorem laws_markIntSS_n3_l (x1849 : Int) (x1850 : Int) (x1851 : List (List Int)) : Link laws_markIntSS_ctx LL (cq [0,0,1,0,1] (bodyOf Try.f24)) (aq [0,0,1,0,1] laws_markIntSS_an) ⟨mkE 19 0 [(0, .slc 0), (1, dI x1849), (5, dI x1850)], [some (.nest (.int .i64) x1851 0 [])]⟩ (laws_markIntSS_n3 x1849 x1850 x1851) (Sum.elim (fun (t : Int × Int × (List (List Int))) => (Exit.normal, ⟨mkE 19 0 [(0, .slc 0), (1, dI t.1), (5, dI t.2.1)], [some (.nest (.int .i64) t.2.2 0 [])]⟩)) (fun (t : Int × (List (List Int))) => ((Exit.exit 0), ⟨mkE 19 0 [(1, dI t.1)], [some (.nest (.int .i64) t.2 0 [])]⟩))) := .of fun K h => by
  simp only [laws_markIntSS_n3, wpW] at h
  exact .of (by kernel_rfl) h

def laws_markIntSS_n4_l (x1816 : Int) (x1817 : List (List Int)) := (link_loop (mk := fun (s : Int × Int × (List (List Int))) => ⟨mkE 19 0 [(0, .slc 0), (1, dI s.1), (5, dI s.2.1)], [some (.nest (.int .i64) s.2.2 0 [])]⟩) (fin := (fun (t : Int × (List (List Int))) => ((Exit.exit 0), ⟨mkE 19 0 [(1, dI t.1)], [some (.nest (.int .i64) t.2 0 [])]⟩))) (by
  rintro t f K h
  · exact h) (fun s => link_map (laws_markIntSS_n3_l s.1 s.2.1 s.2.2) (Sum.elim (fun (t : Int × Int × (List (List Int))) => Sum.inl (t.1, t.2.1, t.2.2)) (fun (t : Int × (List (List Int))) => Sum.inr t)) (by
  rintro (t | t)
  · kernel_rfl
  · kernel_rfl)) (x1816, 0, x1817))

def laws_markIntSS_n5_l (x1816 : Int) (x1817 : List (List Int)) := (link_block (fin2 := (fun (t : Int × (List (List Int))) => (Exit.normal, ⟨mkE 19 0 [(1, dI t.1)], [some (.nest (.int .i64) t.2 0 [])]⟩))) (id := 0) (laws_markIntSS_n4_l x1816 x1817) (fun (t : Int × (List (List Int))) => (t.1, t.2)) (by
  rintro t K h
  · exact Eq.mp (by kernel_rfl) h))

def laws_markIntSS_n6_l (x1816 : Int) (x1817 : List (List Int)) := (link_seq (laws_markIntSS_n2_l x1816 x1817) (fun (t : Unit) => (laws_markIntSS_n5_l x1816 x1817)))

theorem laws_markIntSS_n7_l (x1849 : Int) (x1851 : List (List Int)) : Link laws_markIntSS_ctx LL (cq [1,1] (bodyOf Try.f24)) (aq [1,1] laws_markIntSS_an) ⟨mkE 19 0 [(1, dI x1849)], [some (.nest (.int .i64) x1851 0 [])]⟩ (laws_markIntSS_n7 x1849 x1851) (fun (t : Int × (List (List Int))) => (Exit.ret, ⟨mkE 19 0 [(4, dI t.1)], [some (.nest (.int .i64) t.2 0 [])]⟩)) := .of fun K h => by
  simp only [laws_markIntSS_n7, wpW] at h
  exact .of (by kernel_rfl) h

def laws_markIntSS_n8_l (x1816 : Int) (x1817 : List (List Int)) := (link_seq (laws_markIntSS_n6_l x1816 x1817) (fun (t : Int × (List (List Int))) => (laws_markIntSS_n7_l t.1 t.2)))

def laws_markIntSS_n9_l (x1816 : Int) (x1817 : List (List Int)) := (link_seq (laws_markIntSS_n1_l x1816 x1817) (fun (t : Unit) => (laws_markIntSS_n8_l x1816 x1817)))

theorem laws_markIntSS_e (x1816 : Int) (x1817 : List (List Int)) {r : AV} {H' : Heap} (h : (Ans.mk _ (laws_markIntSS x1816 x1817) (fun (t : Int × (List (List Int))) => (dI t.1, [some (.nest (.int .i64) t.2 0 [])])) [] none).run = some (r, H')) : Awp laws_markIntSS_ctx LL (bodyOf Try.f24) laws_markIntSS_an ⟨mkE 19 0 [(0, .slc 0), (1, dI x1816)], [some (.nest (.int .i64) x1817 0 [])]⟩ (Ret (tlook tys) Try.f24.results.toList r H') :=
  ret_of' (Link.cast (by kernel_rfl) (by kernel_rfl) (laws_markIntSS_n9_l x1816 x1817)) (by unfold laws_markIntSS; kernel_rfl) (by
  intro t
  exact ret_mk [dI t.1] (by kernel_rfl) (by kernel_rfl) (by kernel_rfl) (by kernel_rfl)) h

def F_laws_markIntSS : Fun := fun avs H =>
  match avs, H with
  | [.slc 0, .dat (.int .i64) x1816], [some (.nest (.int .i64) x1817 0 [])] => ⟨_, laws_markIntSS x1816 x1817, fun (t : Int × (List (List Int))) => (dI t.1, [some (.nest (.int .i64) t.2 0 [])]), [], none⟩
  | _, _ => Ans.no

theorem laws_markIntSS_sound : Sound Try.prog 24 F_laws_markIntSS := by
  refine fn_sound' (C := laws_markIntSS_ctx) (c := bodyOf Try.f24) (cok_of tys_ok (allc laws_markIntS_sound alln) (allc Try.call14 alln) (by kernel_rfl)) Try.func24 (by kernel_rfl) LL laws_markIntSS_an ?_
  intro avs H r H' h
  unfold F_laws_markIntSS at h
  split at h
  · refine Awp.cast ?_ ?_ ?_ (laws_markIntSS_e _ _ h) <;> kernel_rfl
  · simp [Ans.no, Ans.run] at h


/-! loop.example/headtrees/laws.markDesk -/

def laws_markDesk_an : Ann := (.seq (.leaf [1, 2]) (.seq (.leaf [1, 2]) (.seq (.leaf [1]) (.seq (.leaf [4]) (.leaf [4])))))

noncomputable def laws_markDesk_ctx : Ctx := ⟨tlook tys, olook [(14, F_laws_markIntS), (24, F_laws_markIntSS)], ioF, 2, true, []⟩

theorem laws_markDesk_n1_l (x1807 : Int) (x1808 : List Int) (x1809 : List (List Int)) : Link laws_markDesk_ctx LL (bodyOf Try.f15) laws_markDesk_an ⟨mkE 14 0 [(0, .agg [.slc 0, .slc 1]), (1, dI x1807)], [some (sI x1808), some (.nest (.int .i64) x1809 0 [])]⟩ (laws_markDesk_n1 x1807 x1808 x1809) (fun (t : Int × (List Int) × (List (List Int))) => (Exit.ret, ⟨mkE 14 0 [(4, dI t.1)], [some (sI t.2.1), some (.nest (.int .i64) t.2.2 0 [])]⟩)) := .of fun K h => by
  simp only [laws_markDesk_n1, wpW] at h
  exact .of (by kernel_rfl) h

theorem laws_markDesk_e (x1807 : Int) (x1808 : List Int) (x1809 : List (List Int)) {r : AV} {H' : Heap} (h : (Ans.mk _ (laws_markDesk x1807 x1808 x1809) (fun (t : Int × (List Int) × (List (List Int))) => (dI t.1, [some (sI t.2.1), some (.nest (.int .i64) t.2.2 0 [])])) [] none).run = some (r, H')) : Awp laws_markDesk_ctx LL (bodyOf Try.f15) laws_markDesk_an ⟨mkE 14 0 [(0, .agg [.slc 0, .slc 1]), (1, dI x1807)], [some (sI x1808), some (.nest (.int .i64) x1809 0 [])]⟩ (Ret (tlook tys) Try.f15.results.toList r H') :=
  ret_of' (laws_markDesk_n1_l x1807 x1808 x1809) (by unfold laws_markDesk; kernel_rfl) (by
  intro t
  exact ret_mk [dI t.1] (by kernel_rfl) (by kernel_rfl) (by kernel_rfl) (by kernel_rfl)) h

def F_laws_markDesk : Fun := fun avs H =>
  match avs, H with
  | [.agg [.slc 0, .slc 1], .dat (.int .i64) x1807], [some (.seq (.int .i64) x1808), some (.nest (.int .i64) x1809 0 [])] => ⟨_, laws_markDesk x1807 x1808 x1809, fun (t : Int × (List Int) × (List (List Int))) => (dI t.1, [some (sI t.2.1), some (.nest (.int .i64) t.2.2 0 [])]), [], none⟩
  | _, _ => Ans.no

theorem laws_markDesk_sound : Sound Try.prog 15 F_laws_markDesk := by
  refine fn_sound' (C := laws_markDesk_ctx) (c := bodyOf Try.f15) (cok_of tys_ok (allc laws_markIntS_sound (allc laws_markIntSS_sound alln)) (allc Try.call14 (allc Try.call24 alln)) (by kernel_rfl)) Try.func15 (by kernel_rfl) LL laws_markDesk_an ?_
  intro avs H r H' h
  unfold F_laws_markDesk at h
  split at h
  · refine Awp.cast ?_ ?_ ?_ (laws_markDesk_e _ _ _ h) <;> kernel_rfl
  · simp [Ans.no, Ans.run] at h


/-! loop.example/headtrees/laws.heldIntS -/

def laws_heldIntS_an : Ann := (.seq (.leaf [0, 1]) (.seq (.seq (.leaf [0, 1, 5]) (.block (.loop (.seq (.seq (.leaf [0, 1, 5, 9]) (.cond (.leaf [0, 1, 5]) (.leaf [1]))) (.seq (.block (.seq (.seq (.leaf [0, 1, 5, 17]) (.cond (.seq (.leaf [4]) (.leaf [4])) (.leaf [0, 1, 5]))) (.leaf [0, 1, 5]))) (.leaf [0, 1, 5])))))) (.seq (.leaf [4]) (.leaf [4]))))

noncomputable def laws_heldIntS_ctx : Ctx := ⟨tlook tys, olook [], ioF, 0, false, []⟩

theorem laws_heldIntS_n1_l (x1951 : List Int) (x1952 : Int) : Link laws_heldIntS_ctx LL (cq [0] (bodyOf Try.f25)) (aq [0] laws_heldIntS_an) ⟨mkE 21 0 [(0, dL x1951), (1, dI x1952)], []⟩ (laws_heldIntS_n1) (fun (t : Unit) => (Exit.normal, ⟨mkE 21 0 [(0, dL x1951), (1, dI x1952)], []⟩)) := .of fun K h => by
  simp only [laws_heldIntS_n1, wpW] at h
  exact .of (by kernel_rfl) h

theorem laws_heldIntS_n2_l (x1951 : List Int) (x1952 : Int) : Link laws_heldIntS_ctx LL (cq [0,0,1] (bodyOf Try.f25)) (aq [0,0,1] laws_heldIntS_an) ⟨mkE 21 0 [(0, dL x1951), (1, dI x1952)], []⟩ (laws_heldIntS_n2) (fun (t : Unit) => (Exit.normal, ⟨mkE 21 0 [(0, dL x1951), (1, dI x1952), (5, dI 0)], []⟩)) := .of fun K h => by
  simp only [laws_heldIntS_n2, wpW] at h
  exact .of (by kernel_rfl) h

theorem laws_heldIntS_n3_l (x1951 : List Int) (x1966 : Int) (x1967 : Int) : Link laws_heldIntS_ctx LL (cq [0,0,1,0,1] (bodyOf Try.f25)) (aq [0,0,1,0,1] laws_heldIntS_an) ⟨mkE 21 0 [(0, dL x1951), (1, dI x1966), (5, dI x1967)], []⟩ (laws_heldIntS_n3 x1951 x1966 x1967) (Sum.elim (fun (t : Int × Int) => (Exit.normal, ⟨mkE 21 0 [(0, dL x1951), (1, dI t.1), (5, dI t.2)], []⟩)) (Sum.elim (fun (t : Int) => (Exit.ret, ⟨mkE 21 0 [(4, dI t)], []⟩)) (fun (t : Int) => ((Exit.exit 0), ⟨mkE 21 0 [(1, dI t)], []⟩)))) := .of fun K h => by
  simp only [laws_heldIntS_n3, wpW] at h
  exact .of (by kernel_rfl) h

def laws_heldIntS_n4_l (x1951 : List Int) (x1952 : Int) := (link_loop (mk := fun (s : Int × Int) => ⟨mkE 21 0 [(0, dL x1951), (1, dI s.1), (5, dI s.2)], []⟩) (fin := (Sum.elim (fun (t : Int) => (Exit.ret, ⟨mkE 21 0 [(4, dI t)], []⟩)) (fun (t : Int) => ((Exit.exit 0), ⟨mkE 21 0 [(1, dI t)], []⟩)))) (by
  rintro (t | t) f K h
  · exact h
  · exact h) (fun s => link_map (laws_heldIntS_n3_l x1951 s.1 s.2) (Sum.elim (fun (t : Int × Int) => Sum.inl (t.1, t.2)) (Sum.elim (fun (t : Int) => Sum.inr (Sum.inl t)) (fun (t : Int) => Sum.inr (Sum.inr t)))) (by
  rintro (t | t | t)
  · kernel_rfl
  · kernel_rfl
  · kernel_rfl)) (x1952, 0))

def laws_heldIntS_n5_l (x1951 : List Int) (x1952 : Int) := (link_block (fin2 := (Sum.elim (fun (t : Int) => (Exit.normal, ⟨mkE 21 0 [(1, dI t)], []⟩)) (fun (t : Int) => (Exit.ret, ⟨mkE 21 0 [(4, dI t)], []⟩)))) (id := 0) (laws_heldIntS_n4_l x1951 x1952) (Sum.elim (fun (t : Int) => (Sum.inr t)) (fun (t : Int) => (Sum.inl t))) (by
  rintro (t | t) K h
  · exact Eq.mp (by kernel_rfl) h
  · exact Eq.mp (by kernel_rfl) h))

def laws_heldIntS_n6_l (x1951 : List Int) (x1952 : Int) := (link_seq (laws_heldIntS_n2_l x1951 x1952) (fun (t : Unit) => (laws_heldIntS_n5_l x1951 x1952)))

theorem laws_heldIntS_n7_l (x1966 : Int) : Link laws_heldIntS_ctx LL (cq [1,1] (bodyOf Try.f25)) (aq [1,1] laws_heldIntS_an) ⟨mkE 21 0 [(1, dI x1966)], []⟩ (laws_heldIntS_n7 x1966) (fun (t : Int) => (Exit.ret, ⟨mkE 21 0 [(4, dI t)], []⟩)) := .of fun K h => by
  simp only [laws_heldIntS_n7, wpW] at h
  exact .of (by kernel_rfl) h

def laws_heldIntS_n8_l (x1951 : List Int) (x1952 : Int) := (link_seq2 (laws_heldIntS_n6_l x1951 x1952) (fun (t : Int) => (laws_heldIntS_n7_l t)) (fun (t : Int) => t) (by
  rintro t
  · kernel_rfl) (by
  rintro t f K h
  · exact h))

def laws_heldIntS_n9_l (x1951 : List Int) (x1952 : Int) := (link_seq (laws_heldIntS_n1_l x1951 x1952) (fun (t : Unit) => (laws_heldIntS_n8_l x1951 x1952)))

theorem laws_heldIntS_e (x1951 : List Int) (x1952 : Int) {r : AV} {H' : Heap} (h : (Ans.mk _ (laws_heldIntS x1951 x1952) (fun (t : Int) => (dI t, [])) [] none).run = some (r, H')) : Awp laws_heldIntS_ctx LL (bodyOf Try.f25) laws_heldIntS_an ⟨mkE 21 0 [(0, dL x1951), (1, dI x1952)], []⟩ (Ret (tlook tys) Try.f25.results.toList r H') :=
  ret_of' (Link.cast (by kernel_rfl) (by kernel_rfl) (laws_heldIntS_n9_l x1951 x1952)) (by unfold laws_heldIntS; kernel_rfl) (by
  intro t
  exact ret_mk [dI t] (by kernel_rfl) (by kernel_rfl) (by kernel_rfl) (by kernel_rfl)) h

def F_laws_heldIntS : Fun := fun avs H =>
  match avs, H with
  | [.dat (.list (.int .i64)) x1951, .dat (.int .i64) x1952], [] => ⟨_, laws_heldIntS x1951 x1952, fun (t : Int) => (dI t, []), [], none⟩
  | _, _ => Ans.no

theorem laws_heldIntS_sound : Sound Try.prog 25 F_laws_heldIntS := by
  refine fn_sound' (C := laws_heldIntS_ctx) (c := bodyOf Try.f25) (cok_of tys_ok (alln) (alln) (by kernel_rfl)) Try.func25 (by kernel_rfl) LL laws_heldIntS_an ?_
  intro avs H r H' h
  unfold F_laws_heldIntS at h
  split at h
  · refine Awp.cast ?_ ?_ ?_ (laws_heldIntS_e _ _ h) <;> kernel_rfl
  · simp [Ans.no, Ans.run] at h


/-! loop.example/headtrees/laws.heldIntSS -/

def laws_heldIntSS_an : Ann := (.seq (.leaf [0, 1]) (.seq (.seq (.leaf [0, 1, 5]) (.block (.loop (.seq (.seq (.leaf [0, 1, 5, 9]) (.cond (.leaf [0, 1, 5]) (.leaf [1]))) (.seq (.block (.seq (.leaf [0, 1, 5]) (.seq (.leaf [0, 1, 5, 19]) (.cond (.seq (.leaf [4]) (.leaf [4])) (.leaf [0, 1, 5]))))) (.leaf [0, 1, 5])))))) (.seq (.leaf [4]) (.leaf [4]))))

noncomputable def laws_heldIntSS_ctx : Ctx := ⟨tlook tys, olook [(25, F_laws_heldIntS)], ioF, 0, false, []⟩

theorem laws_heldIntSS_n1_l (x1987 : List (List Int)) (x1988 : Int) : Link laws_heldIntSS_ctx LL (cq [0] (bodyOf Try.f26)) (aq [0] laws_heldIntSS_an) ⟨mkE 21 0 [(0, .dat (.list (.list (.int .i64))) x1987), (1, dI x1988)], []⟩ (laws_heldIntSS_n1) (fun (t : Unit) => (Exit.normal, ⟨mkE 21 0 [(0, .dat (.list (.list (.int .i64))) x1987), (1, dI x1988)], []⟩)) := .of fun K h => by
  simp only [laws_heldIntSS_n1, wpW] at h
  exact .of (by kernel_rfl) h

theorem laws_heldIntSS_n2_l (x1987 : List (List Int)) (x1988 : Int) : Link laws_heldIntSS_ctx LL (cq [0,0,1] (bodyOf Try.f26)) (aq [0,0,1] laws_heldIntSS_an) ⟨mkE 21 0 [(0, .dat (.list (.list (.int .i64))) x1987), (1, dI x1988)], []⟩ (laws_heldIntSS_n2) (fun (t : Unit) => (Exit.normal, ⟨mkE 21 0 [(0, .dat (.list (.list (.int .i64))) x1987), (1, dI x1988), (5, dI 0)], []⟩)) := .of fun K h => by
  simp only [laws_heldIntSS_n2, wpW] at h
  exact .of (by kernel_rfl) h

theorem laws_heldIntSS_n3_l (x1987 : List (List Int)) (x2002 : Int) (x2003 : Int) : Link laws_heldIntSS_ctx LL (cq [0,0,1,0,1] (bodyOf Try.f26)) (aq [0,0,1,0,1] laws_heldIntSS_an) ⟨mkE 21 0 [(0, .dat (.list (.list (.int .i64))) x1987), (1, dI x2002), (5, dI x2003)], []⟩ (laws_heldIntSS_n3 x1987 x2002 x2003) (Sum.elim (fun (t : Int × Int) => (Exit.normal, ⟨mkE 21 0 [(0, .dat (.list (.list (.int .i64))) x1987), (1, dI t.1), (5, dI t.2)], []⟩)) (Sum.elim (fun (t : Int) => (Exit.ret, ⟨mkE 21 0 [(4, dI t)], []⟩)) (fun (t : Int) => ((Exit.exit 0), ⟨mkE 21 0 [(1, dI t)], []⟩)))) := .of fun K h => by
  simp only [laws_heldIntSS_n3, wpW] at h
  exact .of (by kernel_rfl) h

def laws_heldIntSS_n4_l (x1987 : List (List Int)) (x1988 : Int) := (link_loop (mk := fun (s : Int × Int) => ⟨mkE 21 0 [(0, .dat (.list (.list (.int .i64))) x1987), (1, dI s.1), (5, dI s.2)], []⟩) (fin := (Sum.elim (fun (t : Int) => (Exit.ret, ⟨mkE 21 0 [(4, dI t)], []⟩)) (fun (t : Int) => ((Exit.exit 0), ⟨mkE 21 0 [(1, dI t)], []⟩)))) (by
  rintro (t | t) f K h
  · exact h
  · exact h) (fun s => link_map (laws_heldIntSS_n3_l x1987 s.1 s.2) (Sum.elim (fun (t : Int × Int) => Sum.inl (t.1, t.2)) (Sum.elim (fun (t : Int) => Sum.inr (Sum.inl t)) (fun (t : Int) => Sum.inr (Sum.inr t)))) (by
  rintro (t | t | t)
  · kernel_rfl
  · kernel_rfl
  · kernel_rfl)) (x1988, 0))

def laws_heldIntSS_n5_l (x1987 : List (List Int)) (x1988 : Int) := (link_block (fin2 := (Sum.elim (fun (t : Int) => (Exit.normal, ⟨mkE 21 0 [(1, dI t)], []⟩)) (fun (t : Int) => (Exit.ret, ⟨mkE 21 0 [(4, dI t)], []⟩)))) (id := 0) (laws_heldIntSS_n4_l x1987 x1988) (Sum.elim (fun (t : Int) => (Sum.inr t)) (fun (t : Int) => (Sum.inl t))) (by
  rintro (t | t) K h
  · exact Eq.mp (by kernel_rfl) h
  · exact Eq.mp (by kernel_rfl) h))

def laws_heldIntSS_n6_l (x1987 : List (List Int)) (x1988 : Int) := (link_seq (laws_heldIntSS_n2_l x1987 x1988) (fun (t : Unit) => (laws_heldIntSS_n5_l x1987 x1988)))

theorem laws_heldIntSS_n7_l (x2002 : Int) : Link laws_heldIntSS_ctx LL (cq [1,1] (bodyOf Try.f26)) (aq [1,1] laws_heldIntSS_an) ⟨mkE 21 0 [(1, dI x2002)], []⟩ (laws_heldIntSS_n7 x2002) (fun (t : Int) => (Exit.ret, ⟨mkE 21 0 [(4, dI t)], []⟩)) := .of fun K h => by
  simp only [laws_heldIntSS_n7, wpW] at h
  exact .of (by kernel_rfl) h

def laws_heldIntSS_n8_l (x1987 : List (List Int)) (x1988 : Int) := (link_seq2 (laws_heldIntSS_n6_l x1987 x1988) (fun (t : Int) => (laws_heldIntSS_n7_l t)) (fun (t : Int) => t) (by
  rintro t
  · kernel_rfl) (by
  rintro t f K h
  · exact h))

def laws_heldIntSS_n9_l (x1987 : List (List Int)) (x1988 : Int) := (link_seq (laws_heldIntSS_n1_l x1987 x1988) (fun (t : Unit) => (laws_heldIntSS_n8_l x1987 x1988)))

theorem laws_heldIntSS_e (x1987 : List (List Int)) (x1988 : Int) {r : AV} {H' : Heap} (h : (Ans.mk _ (laws_heldIntSS x1987 x1988) (fun (t : Int) => (dI t, [])) [] none).run = some (r, H')) : Awp laws_heldIntSS_ctx LL (bodyOf Try.f26) laws_heldIntSS_an ⟨mkE 21 0 [(0, .dat (.list (.list (.int .i64))) x1987), (1, dI x1988)], []⟩ (Ret (tlook tys) Try.f26.results.toList r H') :=
  ret_of' (Link.cast (by kernel_rfl) (by kernel_rfl) (laws_heldIntSS_n9_l x1987 x1988)) (by unfold laws_heldIntSS; kernel_rfl) (by
  intro t
  exact ret_mk [dI t] (by kernel_rfl) (by kernel_rfl) (by kernel_rfl) (by kernel_rfl)) h

def F_laws_heldIntSS : Fun := fun avs H =>
  match avs, H with
  | [.dat (.list (.list (.int .i64))) x1987, .dat (.int .i64) x1988], [] => ⟨_, laws_heldIntSS x1987 x1988, fun (t : Int) => (dI t, []), [], none⟩
  | _, _ => Ans.no

theorem laws_heldIntSS_sound : Sound Try.prog 26 F_laws_heldIntSS := by
  refine fn_sound' (C := laws_heldIntSS_ctx) (c := bodyOf Try.f26) (cok_of tys_ok (allc laws_heldIntS_sound alln) (allc Try.call25 alln) (by kernel_rfl)) Try.func26 (by kernel_rfl) LL laws_heldIntSS_an ?_
  intro avs H r H' h
  unfold F_laws_heldIntSS at h
  split at h
  · refine Awp.cast ?_ ?_ ?_ (laws_heldIntSS_e _ _ h) <;> kernel_rfl
  · simp [Ans.no, Ans.run] at h


/-! loop.example/headtrees/laws.heldDesk -/

def laws_heldDesk_an : Ann := (.seq (.leaf [1, 2]) (.seq (.leaf [1, 2]) (.seq (.seq (.leaf [1, 2, 10]) (.cond (.seq (.leaf [4]) (.leaf [4])) (.leaf [1, 2]))) (.seq (.leaf [1]) (.seq (.seq (.leaf [1, 16]) (.cond (.seq (.leaf [4]) (.leaf [4])) (.leaf [1]))) (.seq (.leaf [4]) (.leaf [4])))))))

noncomputable def laws_heldDesk_ctx : Ctx := ⟨tlook tys, olook [(25, F_laws_heldIntS), (26, F_laws_heldIntSS)], ioF, 0, false, []⟩

theorem laws_heldDesk_n1_l (x1948 : List Int) (x1949 : List (List Int)) (x1950 : Int) : Link laws_heldDesk_ctx LL (bodyOf Try.f16) laws_heldDesk_an ⟨mkE 18 0 [(0, .agg [dL x1948, .dat (.list (.list (.int .i64))) x1949]), (1, dI x1950)], []⟩ (laws_heldDesk_n1 x1948 x1949 x1950) (fun (t : Int) => (Exit.ret, ⟨mkE 18 0 [(4, dI t)], []⟩)) := .of fun K h => by
  simp only [laws_heldDesk_n1, wpW] at h
  exact .of (by kernel_rfl) h

theorem laws_heldDesk_e (x1948 : List Int) (x1949 : List (List Int)) (x1950 : Int) {r : AV} {H' : Heap} (h : (Ans.mk _ (laws_heldDesk x1948 x1949 x1950) (fun (t : Int) => (dI t, [])) [] none).run = some (r, H')) : Awp laws_heldDesk_ctx LL (bodyOf Try.f16) laws_heldDesk_an ⟨mkE 18 0 [(0, .agg [dL x1948, .dat (.list (.list (.int .i64))) x1949]), (1, dI x1950)], []⟩ (Ret (tlook tys) Try.f16.results.toList r H') :=
  ret_of' (laws_heldDesk_n1_l x1948 x1949 x1950) (by unfold laws_heldDesk; kernel_rfl) (by
  intro t
  exact ret_mk [dI t] (by kernel_rfl) (by kernel_rfl) (by kernel_rfl) (by kernel_rfl)) h

def F_laws_heldDesk : Fun := fun avs H =>
  match avs, H with
  | [.agg [.dat (.list (.int .i64)) x1948, .dat (.list (.list (.int .i64))) x1949], .dat (.int .i64) x1950], [] => ⟨_, laws_heldDesk x1948 x1949 x1950, fun (t : Int) => (dI t, []), [], none⟩
  | _, _ => Ans.no

theorem laws_heldDesk_sound : Sound Try.prog 16 F_laws_heldDesk := by
  refine fn_sound' (C := laws_heldDesk_ctx) (c := bodyOf Try.f16) (cok_of tys_ok (allc laws_heldIntS_sound (allc laws_heldIntSS_sound alln)) (allc Try.call25 (allc Try.call26 alln)) (by kernel_rfl)) Try.func16 (by kernel_rfl) LL laws_heldDesk_an ?_
  intro avs H r H' h
  unfold F_laws_heldDesk at h
  split at h
  · refine Awp.cast ?_ ?_ ?_ (laws_heldDesk_e _ _ _ h) <;> kernel_rfl
  · simp [Ans.no, Ans.run] at h


/-! loop.example/headtrees/laws.FnExactDeskNew -/

def laws_FnExactDeskNew_an : Ann := (.seq (.leaf [0]) (.seq (.seq (.leaf [0, 15]) (.cond (.seq (.leaf [2]) (.leaf [2])) (.leaf [0]))) (.seq (.leaf [0, 3, 4]) (.seq (.leaf [0, 3, 4, 5]) (.seq (.leaf [0, 3, 4, 5, 6, 7]) (.seq (.seq (.leaf [0, 3, 4, 5, 6, 7, 37]) (.cond (.seq (.leaf [2]) (.leaf [2])) (.leaf [0, 3, 4, 5, 6, 7]))) (.seq (.seq (.leaf [0, 3, 4, 5, 6, 7, 42]) (.cond (.seq (.leaf [2]) (.leaf [2])) (.leaf [0, 3, 4, 5, 6, 7]))) (.seq (.leaf [0, 3, 4, 5, 6, 7, 8]) (.seq (.leaf [0, 3, 4, 6, 7, 8]) (.seq (.seq (.leaf [0, 3, 4, 6, 58]) (.cond (.seq (.leaf [2]) (.leaf [2])) (.leaf [0, 3, 4, 6]))) (.seq (.leaf [0, 3, 4, 6, 9]) (.seq (.leaf [0, 3, 4, 6, 9]) (.seq (.leaf [0, 3, 4, 6, 9, 10]) (.seq (.leaf [0, 3, 4, 6, 9, 10]) (.seq (.seq (.leaf [0, 3, 4, 6, 9, 10, 66]) (.cond (.seq (.leaf [2]) (.leaf [2])) (.leaf [0, 3, 4, 6, 9, 10]))) (.seq (.seq (.leaf [0, 3, 4, 6, 9, 69]) (.cond (.seq (.leaf [2]) (.leaf [2])) (.leaf [0, 3, 4, 6, 9]))) (.seq (.leaf [3, 4, 6, 9, 11, 12]) (.seq (.seq (.leaf [6, 9, 84]) (.cond (.seq (.leaf [2]) (.leaf [2])) (.leaf [6, 9]))) (.seq (.leaf [6, 9, 10]) (.seq (.leaf [9, 10]) (.seq (.seq (.leaf [9, 10, 89]) (.cond (.seq (.leaf [2]) (.leaf [2])) (.leaf [9, 10]))) (.seq (.seq (.leaf [92]) (.cond (.seq (.leaf [2]) (.leaf [2])) (.leaf []))) (.seq (.leaf [2]) (.leaf [2]))))))))))))))))))))))))

noncomputable def laws_FnExactDeskNew_ctx : Ctx := ⟨tlook tys, olook [(11, F_laws_toIntS), (10, F_spec_DeskNew), (12, F_impl_DeskNew), (9, F_laws_eqDesk), (13, F_laws_eqIntS), (14, F_laws_markIntS), (15, F_laws_markDesk), (16, F_laws_heldDesk)], ioF, 0, true, []⟩

theorem laws_FnExactDeskNew_n1_l (x1468 : List Int) : Link laws_FnExactDeskNew_ctx LL (bodyOf Try.f4) laws_FnExactDeskNew_an ⟨mkE 93 0 [(0, dL x1468)], []⟩ (laws_FnExactDeskNew_n1 x1468) (fun (t : Bool) => (Exit.ret, ⟨mkE 93 0 [(2, dB t)], []⟩)) := .of fun K h => by
  simp only [laws_FnExactDeskNew_n1, wpW] at h
  exact .of (by kernel_rfl) h

theorem laws_FnExactDeskNew_e (x1468 : List Int) {r : AV} {H' : Heap} (h : (Ans.mk _ (laws_FnExactDeskNew x1468) (fun (t : Bool) => (dB t, [])) [] none).run = some (r, H')) : Awp laws_FnExactDeskNew_ctx LL (bodyOf Try.f4) laws_FnExactDeskNew_an ⟨mkE 93 0 [(0, dL x1468)], []⟩ (Ret (tlook tys) Try.f4.results.toList r H') :=
  ret_of' (laws_FnExactDeskNew_n1_l x1468) (by unfold laws_FnExactDeskNew; kernel_rfl) (by
  intro t
  exact ret_mk [dB t] (by kernel_rfl) (by kernel_rfl) (by kernel_rfl) (by kernel_rfl)) h

def F_laws_FnExactDeskNew : Fun := fun avs H =>
  match avs, H with
  | [.dat (.list (.int .i64)) x1468], [] => ⟨_, laws_FnExactDeskNew x1468, fun (t : Bool) => (dB t, []), [], none⟩
  | _, _ => Ans.no

theorem laws_FnExactDeskNew_sound : Sound Try.prog 4 F_laws_FnExactDeskNew := by
  refine fn_sound' (C := laws_FnExactDeskNew_ctx) (c := bodyOf Try.f4) (cok_of tys_ok (allc laws_toIntS_sound (allc spec_DeskNew_sound (allc impl_DeskNew_sound (allc laws_eqDesk_sound (allc laws_eqIntS_sound (allc laws_markIntS_sound (allc laws_markDesk_sound (allc laws_heldDesk_sound alln)))))))) (allc Try.call11 (allc Try.call10 (allc Try.call12 (allc Try.call9 (allc Try.call13 (allc Try.call14 (allc Try.call15 (allc Try.call16 alln)))))))) (by kernel_rfl)) Try.func4 (by kernel_rfl) LL laws_FnExactDeskNew_an ?_
  intro avs H r H' h
  unfold F_laws_FnExactDeskNew at h
  split at h
  · refine Awp.cast ?_ ?_ ?_ (laws_FnExactDeskNew_e _ h) <;> kernel_rfl
  · simp [Ans.no, Ans.run] at h

end Go.Rv
