/-
  The checked code answers as the plain functions do; written by program. Conditions: none.
-/
import Derived.Test.YtihgceegapfngacGFnExactDeskOk
import Derived.Test.YtihgceegapfngacFB
import Derived.Test.YtihgceegapfngacProg
set_option linter.unusedVariables false
set_option linter.unusedSimpArgs false
set_option linter.defProp false
set_option maxRecDepth 100000
namespace Go.Rv
open Go.Proofs
theorem ty3 : TIOk Try.prog 3 ⟨.int .i64, 1, 8, some (.int .i64), [.int .i64 0], false⟩ := ⟨⟨infoOf (Try.prog.info? 3), by kernel_rfl, by kernel_rfl, by kernel_rfl, .int .i64 0, by kernel_rfl, by kernel_rfl⟩, (by kernel_rfl : Try.prog.underlying 3 = some (.int .i64)), no_eq⟩
theorem ty4 : TIOk Try.prog 4 ⟨.bool, 1, 1, some .bool, [.bool false], false⟩ := ⟨⟨infoOf (Try.prog.info? 4), by kernel_rfl, by kernel_rfl, by kernel_rfl, .bool false, by kernel_rfl, by kernel_rfl⟩, (by kernel_rfl : Try.prog.underlying 4 = some .bool), no_eq⟩
theorem ty22 : TIOk Try.prog 22 ⟨.slice 3, 1, 24, some (.list (.int .i64)), [.slice none 0 0], false⟩ := ⟨⟨infoOf (Try.prog.info? 22), by kernel_rfl, by kernel_rfl, by kernel_rfl, .slice none 0 0, by kernel_rfl, by kernel_rfl⟩, (by kernel_rfl : Try.prog.underlying 22 = some (.slice 3)), no_eq⟩
theorem ty23 : TIOk Try.prog 23 ⟨.slice 22, 1, 24, some (.list (.list (.int .i64))), [.slice none 0 0], false⟩ := ⟨⟨infoOf (Try.prog.info? 23), by kernel_rfl, by kernel_rfl, by kernel_rfl, .slice none 0 0, by kernel_rfl, by kernel_rfl⟩, (by kernel_rfl : Try.prog.underlying 23 = some (.slice 22)), no_eq⟩
theorem ty25 : TIOk Try.prog 25 ⟨.strct [(0, 22), (1, 23)], 2, 48, some (.pair (.list (.int .i64)) (.pair (.list (.list (.int .i64))) .unit)), [.slice none 0 0, .slice none 0 0], false⟩ := ⟨⟨infoOf (Try.prog.info? 25), by kernel_rfl, by kernel_rfl, by kernel_rfl, .agg #[.slice none 0 0, .slice none 0 0], by kernel_rfl, by kernel_rfl⟩, ⟨fieldsOf (Try.prog.underlying 25), by kernel_rfl, by kernel_rfl⟩, no_eq⟩
theorem ty28 : TIOk Try.prog 28 ⟨.strct [(0, 22), (1, 23)], 2, 48, some (.pair (.list (.int .i64)) (.pair (.list (.list (.int .i64))) .unit)), [.slice none 0 0, .slice none 0 0], false⟩ := ⟨⟨infoOf (Try.prog.info? 28), by kernel_rfl, by kernel_rfl, by kernel_rfl, .agg #[.slice none 0 0, .slice none 0 0], by kernel_rfl, by kernel_rfl⟩, ⟨fieldsOf (Try.prog.underlying 28), by kernel_rfl, by kernel_rfl⟩, no_eq⟩
theorem ty47 : TIOk Try.prog 47 ⟨.strct [(0, 22), (1, 3), (2, 3)], 3, 40, some (.pair (.list (.int .i64)) (.pair (.int .i64) (.pair (.int .i64) .unit))), [.slice none 0 0, .int .i64 0, .int .i64 0], false⟩ := ⟨⟨infoOf (Try.prog.info? 47), by kernel_rfl, by kernel_rfl, by kernel_rfl, .agg #[.slice none 0 0, .int .i64 0, .int .i64 0], by kernel_rfl, by kernel_rfl⟩, ⟨fieldsOf (Try.prog.underlying 47), by kernel_rfl, by kernel_rfl⟩, no_eq⟩
def tys : List (TypeId × TI) := [(3, ⟨.int .i64, 1, 8, some (.int .i64), [.int .i64 0], false⟩), (4, ⟨.bool, 1, 1, some .bool, [.bool false], false⟩), (22, ⟨.slice 3, 1, 24, some (.list (.int .i64)), [.slice none 0 0], false⟩), (23, ⟨.slice 22, 1, 24, some (.list (.list (.int .i64))), [.slice none 0 0], false⟩), (25, ⟨.strct [(0, 22), (1, 23)], 2, 48, some (.pair (.list (.int .i64)) (.pair (.list (.list (.int .i64))) .unit)), [.slice none 0 0, .slice none 0 0], false⟩), (28, ⟨.strct [(0, 22), (1, 23)], 2, 48, some (.pair (.list (.int .i64)) (.pair (.list (.list (.int .i64))) .unit)), [.slice none 0 0, .slice none 0 0], false⟩), (47, ⟨.strct [(0, 22), (1, 3), (2, 3)], 3, 40, some (.pair (.list (.int .i64)) (.pair (.int .i64) (.pair (.int .i64) .unit))), [.slice none 0 0, .int .i64 0, .int .i64 0], false⟩)]
theorem tys_ok : TOk Try.prog (tlook tys) := tok_of (allc ty3 (allc ty4 (allc ty22 (allc ty23 (allc ty25 (allc ty28 (allc ty47 alln)))))))
def ioF (f : FuncId) (i : Nat) : Bool := [(14, 0), (15, 0), (24, 0)].any fun (p : Nat × Nat) => Nat.beq p.1 f && Nat.beq p.2 i


/-! loop.example/headtrees/laws.szIntS -/

def laws_szIntS_an : Ann := (.seq (.leaf [0, 1]) (.seq (.leaf [1]) (.seq (.seq (.leaf [1, 10]) (.cond (.seq (.leaf [4]) (.leaf [4])) (.leaf [1]))) (.seq (.leaf [4]) (.leaf [4])))))

noncomputable def laws_szIntS_ctx : Ctx := ⟨tlook tys, olook [], ioF, 0, false, []⟩

theorem laws_szIntS_n1_l (x779 : List Int) (x780 : Int) : Link laws_szIntS_ctx LL (bodyOf Try.f17) laws_szIntS_an ⟨mkE 12 0 [(0, dL x779), (1, dI x780)], []⟩ (laws_szIntS_n1 x779 x780) (fun (t : Int) => (Exit.ret, ⟨mkE 12 0 [(4, dI t)], []⟩)) := .of fun K h => by
  simp only [laws_szIntS_n1, wpW] at h
  exact .of (by kernel_rfl) h

theorem laws_szIntS_e (x779 : List Int) (x780 : Int) {r : AV} {H' : Heap} (h : (Ans.mk _ (laws_szIntS x779 x780) (fun (t : Int) => (dI t, [])) [] none).run = some (r, H')) : Awp laws_szIntS_ctx LL (bodyOf Try.f17) laws_szIntS_an ⟨mkE 12 0 [(0, dL x779), (1, dI x780)], []⟩ (Ret (tlook tys) Try.f17.results.toList r H') :=
  ret_of' (laws_szIntS_n1_l x779 x780) (by unfold laws_szIntS; kernel_rfl) (by
  intro t
  exact ret_mk [dI t] (by kernel_rfl) (by kernel_rfl) (by kernel_rfl) (by kernel_rfl)) h

def F_laws_szIntS : Fun := fun avs H =>
  match avs, H with
  | [.dat (.list (.int .i64)) x779, .dat (.int .i64) x780], [] => ⟨_, laws_szIntS x779 x780, fun (t : Int) => (dI t, []), [], none⟩
  | _, _ => Ans.no

theorem laws_szIntS_sound : Sound Try.prog 17 F_laws_szIntS := by
  refine fn_sound' (C := laws_szIntS_ctx) (c := bodyOf Try.f17) (cok_of tys_ok (alln) (alln) (by kernel_rfl)) Try.func17 (by kernel_rfl) LL laws_szIntS_an ?_
  intro avs H r H' h
  unfold F_laws_szIntS at h
  split at h
  · refine Awp.cast ?_ ?_ ?_ (laws_szIntS_e _ _ h) <;> kernel_rfl
  · simp [Ans.no, Ans.run] at h


/-! loop.example/headtrees/laws.szIntSS -/

def laws_szIntSS_an : Ann := (.seq (.leaf [0, 1]) (.seq (.leaf [0, 1]) (.seq (.seq (.leaf [0, 1, 11]) (.cond (.seq (.leaf [4]) (.leaf [4])) (.leaf [0, 1]))) (.seq (.seq (.leaf [0, 1, 5]) (.block (.loop (.seq (.seq (.leaf [0, 1, 5, 15]) (.cond (.leaf [0, 1, 5]) (.leaf [1]))) (.seq (.block (.seq (.leaf [0, 1, 5]) (.seq (.leaf [0, 1, 5, 25]) (.cond (.seq (.leaf [4]) (.leaf [4])) (.leaf [0, 1, 5]))))) (.leaf [0, 1, 5])))))) (.seq (.leaf [4]) (.leaf [4]))))))

noncomputable def laws_szIntSS_ctx : Ctx := ⟨tlook tys, olook [(17, F_laws_szIntS)], ioF, 0, false, []⟩

theorem laws_szIntSS_n1_l (x798 : List (List Int)) (x799 : Int) : Link laws_szIntSS_ctx LL (Code.seq (cq [0] (bodyOf Try.f18)) (Code.seq (cq [0,1] (bodyOf Try.f18)) (cq [0,1,1] (bodyOf Try.f18)))) (Ann.seq (aq [0] laws_szIntSS_an) (Ann.seq (aq [0,1] laws_szIntSS_an) (aq [0,1,1] laws_szIntSS_an))) ⟨mkE 27 0 [(0, .dat (.list (.list (.int .i64))) x798), (1, dI x799)], []⟩ (laws_szIntSS_n1 x798 x799) (Sum.elim (fun (t : Int) => (Exit.normal, ⟨mkE 27 0 [(0, .dat (.list (.list (.int .i64))) x798), (1, dI t)], []⟩)) (fun (t : Int) => (Exit.ret, ⟨mkE 27 0 [(4, dI t)], []⟩))) := .of fun K h => by
  simp only [laws_szIntSS_n1, wpW] at h
  exact .of (by kernel_rfl) h

theorem laws_szIntSS_n2_l (x798 : List (List Int)) (x803 : Int) : Link laws_szIntSS_ctx LL (cq [0,0,1,1,1] (bodyOf Try.f18)) (aq [0,0,1,1,1] laws_szIntSS_an) ⟨mkE 27 0 [(0, .dat (.list (.list (.int .i64))) x798), (1, dI x803)], []⟩ (laws_szIntSS_n2) (fun (t : Unit) => (Exit.normal, ⟨mkE 27 0 [(0, .dat (.list (.list (.int .i64))) x798), (1, dI x803), (5, dI 0)], []⟩)) := .of fun K h => by
  simp only [laws_szIntSS_n2, wpW] at h
  exact .of (by kernel_rfl) h

theorem laws_szIntSS_n3_l (x798 : List (List Int)) (x818 : Int) (x819 : Int) : Link laws_szIntSS_ctx LL (cq [0,0,1,0,1,1,1] (bodyOf Try.f18)) (aq [0,0,1,0,1,1,1] laws_szIntSS_an) ⟨mkE 27 0 [(0, .dat (.list (.list (.int .i64))) x798), (1, dI x818), (5, dI x819)], []⟩ (laws_szIntSS_n3 x798 x818 x819) (Sum.elim (fun (t : Int × Int) => (Exit.normal, ⟨mkE 27 0 [(0, .dat (.list (.list (.int .i64))) x798), (1, dI t.1), (5, dI t.2)], []⟩)) (Sum.elim (fun (t : Int) => (Exit.ret, ⟨mkE 27 0 [(4, dI t)], []⟩)) (fun (t : Int) => ((Exit.exit 0), ⟨mkE 27 0 [(1, dI t)], []⟩)))) := .of fun K h => by
  simp only [laws_szIntSS_n3, wpW] at h
  exact .of (by kernel_rfl) h

def laws_szIntSS_n4_l (x798 : List (List Int)) (x803 : Int) := (link_loop (mk := fun (s : Int × Int) => ⟨mkE 27 0 [(0, .dat (.list (.list (.int .i64))) x798), (1, dI s.1), (5, dI s.2)], []⟩) (fin := (Sum.elim (fun (t : Int) => (Exit.ret, ⟨mkE 27 0 [(4, dI t)], []⟩)) (fun (t : Int) => ((Exit.exit 0), ⟨mkE 27 0 [(1, dI t)], []⟩)))) (by
  rintro (t | t) f K h
  · exact h
  · exact h) (fun s => link_map (laws_szIntSS_n3_l x798 s.1 s.2) (Sum.elim (fun (t : Int × Int) => Sum.inl (t.1, t.2)) (Sum.elim (fun (t : Int) => Sum.inr (Sum.inl t)) (fun (t : Int) => Sum.inr (Sum.inr t)))) (by
  rintro (t | t | t)
  · kernel_rfl
  · kernel_rfl
  · kernel_rfl)) (x803, 0))

def laws_szIntSS_n5_l (x798 : List (List Int)) (x803 : Int) := (link_block (fin2 := (Sum.elim (fun (t : Int) => (Exit.normal, ⟨mkE 27 0 [(1, dI t)], []⟩)) (fun (t : Int) => (Exit.ret, ⟨mkE 27 0 [(4, dI t)], []⟩)))) (id := 0) (laws_szIntSS_n4_l x798 x803) (Sum.elim (fun (t : Int) => (Sum.inr t)) (fun (t : Int) => (Sum.inl t))) (by
  rintro (t | t) K h
  · exact Eq.mp (by kernel_rfl) h
  · exact Eq.mp (by kernel_rfl) h))

def laws_szIntSS_n6_l (x798 : List (List Int)) (x803 : Int) := (link_seq (laws_szIntSS_n2_l x798 x803) (fun (t : Unit) => (laws_szIntSS_n5_l x798 x803)))

theorem laws_szIntSS_n7_l (x818 : Int) : Link laws_szIntSS_ctx LL (cq [1,1,1,1] (bodyOf Try.f18)) (aq [1,1,1,1] laws_szIntSS_an) ⟨mkE 27 0 [(1, dI x818)], []⟩ (laws_szIntSS_n7 x818) (fun (t : Int) => (Exit.ret, ⟨mkE 27 0 [(4, dI t)], []⟩)) := .of fun K h => by
  simp only [laws_szIntSS_n7, wpW] at h
  exact .of (by kernel_rfl) h

def laws_szIntSS_n8_l (x798 : List (List Int)) (x803 : Int) := (link_seq2 (laws_szIntSS_n6_l x798 x803) (fun (t : Int) => (laws_szIntSS_n7_l t)) (fun (t : Int) => t) (by
  rintro t
  · kernel_rfl) (by
  rintro t f K h
  · exact h))

def laws_szIntSS_n9_l (x798 : List (List Int)) (x799 : Int) := (link_group (c := (cq [0,1,1] (bodyOf Try.f18))) (a := (aq [0,1,1] laws_szIntSS_an)) [(cq [0] (bodyOf Try.f18)), (cq [0,1] (bodyOf Try.f18))] [(aq [0] laws_szIntSS_an), (aq [0,1] laws_szIntSS_an)] rfl (link_seq2 (laws_szIntSS_n1_l x798 x799) (fun (t : Int) => (laws_szIntSS_n8_l x798 t)) (fun (t : Int) => t) (by
  rintro t
  · kernel_rfl) (by
  rintro t f K h
  · exact h)))

theorem laws_szIntSS_e (x798 : List (List Int)) (x799 : Int) {r : AV} {H' : Heap} (h : (Ans.mk _ (laws_szIntSS x798 x799) (fun (t : Int) => (dI t, [])) [] none).run = some (r, H')) : Awp laws_szIntSS_ctx LL (bodyOf Try.f18) laws_szIntSS_an ⟨mkE 27 0 [(0, .dat (.list (.list (.int .i64))) x798), (1, dI x799)], []⟩ (Ret (tlook tys) Try.f18.results.toList r H') :=
  ret_of' (Link.cast (by kernel_rfl) (by kernel_rfl) (laws_szIntSS_n9_l x798 x799)) (by unfold laws_szIntSS; kernel_rfl) (by
  intro t
  exact ret_mk [dI t] (by kernel_rfl) (by kernel_rfl) (by kernel_rfl) (by kernel_rfl)) h

def F_laws_szIntSS : Fun := fun avs H =>
  match avs, H with
  | [.dat (.list (.list (.int .i64))) x798, .dat (.int .i64) x799], [] => ⟨_, laws_szIntSS x798 x799, fun (t : Int) => (dI t, []), [], none⟩
  | _, _ => Ans.no

theorem laws_szIntSS_sound : Sound Try.prog 18 F_laws_szIntSS := by
  refine fn_sound' (C := laws_szIntSS_ctx) (c := bodyOf Try.f18) (cok_of tys_ok (allc laws_szIntS_sound alln) (allc Try.call17 alln) (by kernel_rfl)) Try.func18 (by kernel_rfl) LL laws_szIntSS_an ?_
  intro avs H r H' h
  unfold F_laws_szIntSS at h
  split at h
  · refine Awp.cast ?_ ?_ ?_ (laws_szIntSS_e _ _ h) <;> kernel_rfl
  · simp [Ans.no, Ans.run] at h


/-! loop.example/headtrees/laws.szDesk -/

def laws_szDesk_an : Ann := (.seq (.leaf [1, 2]) (.seq (.leaf [1, 2]) (.seq (.seq (.leaf [1, 2, 10]) (.cond (.seq (.leaf [4]) (.leaf [4])) (.leaf [1, 2]))) (.seq (.leaf [1]) (.seq (.seq (.leaf [1, 16]) (.cond (.seq (.leaf [4]) (.leaf [4])) (.leaf [1]))) (.seq (.leaf [4]) (.leaf [4])))))))

noncomputable def laws_szDesk_ctx : Ctx := ⟨tlook tys, olook [(17, F_laws_szIntS), (18, F_laws_szIntSS)], ioF, 0, false, []⟩

theorem laws_szDesk_n1_l (x776 : List Int) (x777 : List (List Int)) (x778 : Int) : Link laws_szDesk_ctx LL (bodyOf Try.f5) laws_szDesk_an ⟨mkE 18 0 [(0, .agg [dL x776, .dat (.list (.list (.int .i64))) x777]), (1, dI x778)], []⟩ (laws_szDesk_n1 x776 x777 x778) (fun (t : Int) => (Exit.ret, ⟨mkE 18 0 [(4, dI t)], []⟩)) := .of fun K h => by
  simp only [laws_szDesk_n1, wpW] at h
  exact .of (by kernel_rfl) h

theorem laws_szDesk_e (x776 : List Int) (x777 : List (List Int)) (x778 : Int) {r : AV} {H' : Heap} (h : (Ans.mk _ (laws_szDesk x776 x777 x778) (fun (t : Int) => (dI t, [])) [] none).run = some (r, H')) : Awp laws_szDesk_ctx LL (bodyOf Try.f5) laws_szDesk_an ⟨mkE 18 0 [(0, .agg [dL x776, .dat (.list (.list (.int .i64))) x777]), (1, dI x778)], []⟩ (Ret (tlook tys) Try.f5.results.toList r H') :=
  ret_of' (laws_szDesk_n1_l x776 x777 x778) (by unfold laws_szDesk; kernel_rfl) (by
  intro t
  exact ret_mk [dI t] (by kernel_rfl) (by kernel_rfl) (by kernel_rfl) (by kernel_rfl)) h

def F_laws_szDesk : Fun := fun avs H =>
  match avs, H with
  | [.agg [.dat (.list (.int .i64)) x776, .dat (.list (.list (.int .i64))) x777], .dat (.int .i64) x778], [] => ⟨_, laws_szDesk x776 x777 x778, fun (t : Int) => (dI t, []), [], none⟩
  | _, _ => Ans.no

theorem laws_szDesk_sound : Sound Try.prog 5 F_laws_szDesk := by
  refine fn_sound' (C := laws_szDesk_ctx) (c := bodyOf Try.f5) (cok_of tys_ok (allc laws_szIntS_sound (allc laws_szIntSS_sound alln)) (allc Try.call17 (allc Try.call18 alln)) (by kernel_rfl)) Try.func5 (by kernel_rfl) LL laws_szDesk_an ?_
  intro avs H r H' h
  unfold F_laws_szDesk at h
  split at h
  · refine Awp.cast ?_ ?_ ?_ (laws_szDesk_e _ _ _ h) <;> kernel_rfl
  · simp [Ans.no, Ans.run] at h


/-! loop.example/headtrees/laws.toIntS -/

def laws_toIntS_an : Ann := (.seq (.leaf [0]) (.seq (.leaf [0, 3]) (.seq (.seq (.leaf [0, 3, 4]) (.block (.loop (.seq (.seq (.leaf [0, 3, 4, 11]) (.cond (.leaf [0, 3, 4]) (.leaf [3]))) (.seq (.block (.leaf [0, 3, 4])) (.leaf [0, 3, 4])))))) (.seq (.leaf [2]) (.leaf [2])))))

noncomputable def laws_toIntS_ctx : Ctx := ⟨tlook tys, olook [], ioF, 0, false, []⟩

theorem laws_toIntS_n1_l (x855 : List Int) : Link laws_toIntS_ctx LL (Code.seq (cq [0] (bodyOf Try.f11)) (cq [0,1] (bodyOf Try.f11))) (Ann.seq (aq [0] laws_toIntS_an) (aq [0,1] laws_toIntS_an)) ⟨mkE 22 0 [(0, dL x855)], []⟩ (laws_toIntS_n1 x855) (fun (t : (List Int)) => (Exit.normal, ⟨mkE 22 0 [(0, dL x855), (3, .slc 0)], [some (sI t)]⟩)) := .of fun K h => by
  simp only [laws_toIntS_n1, wpW] at h
  exact .of (by kernel_rfl) h

theorem laws_toIntS_n2_l (x855 : List Int) (x858 : List Int) : Link laws_toIntS_ctx LL (cq [0,0,1,1] (bodyOf Try.f11)) (aq [0,0,1,1] laws_toIntS_an) ⟨mkE 22 0 [(0, dL x855), (3, .slc 0)], [some (sI x858)]⟩ (laws_toIntS_n2) (fun (t : Unit) => (Exit.normal, ⟨mkE 22 0 [(0, dL x855), (3, .slc 0), (4, dI 0)], [some (sI x858)]⟩)) := .of fun K h => by
  simp only [laws_toIntS_n2, wpW] at h
  exact .of (by kernel_rfl) h

theorem laws_toIntS_n3_l (x855 : List Int) (x872 : Int) (x873 : List Int) : Link laws_toIntS_ctx LL (cq [0,0,1,0,1,1] (bodyOf Try.f11)) (aq [0,0,1,0,1,1] laws_toIntS_an) ⟨mkE 22 0 [(0, dL x855), (3, .slc 0), (4, dI x872)], [some (sI x873)]⟩ (laws_toIntS_n3 x855 x872 x873) (Sum.elim (fun (t : Int × (List Int)) => (Exit.normal, ⟨mkE 22 0 [(0, dL x855), (3, .slc 0), (4, dI t.1)], [some (sI t.2)]⟩)) (fun (t : (List Int)) => ((Exit.exit 0), ⟨mkE 22 0 [(3, .slc 0)], [some (sI t)]⟩))) := .of fun K h => by
  simp only [laws_toIntS_n3, wpW] at h
  exact .of (by kernel_rfl) h

def laws_toIntS_n4_l (x855 : List Int) (x858 : List Int) := (link_loop (mk := fun (s : Int × (List Int)) => ⟨mkE 22 0 [(0, dL x855), (3, .slc 0), (4, dI s.1)], [some (sI s.2)]⟩) (fin := (fun (t : (List Int)) => ((Exit.exit 0), ⟨mkE 22 0 [(3, .slc 0)], [some (sI t)]⟩))) (by
  rintro t f K h
  · exact h) (fun s => link_map (laws_toIntS_n3_l x855 s.1 s.2) (Sum.elim (fun (t : Int × (List Int)) => Sum.inl (t.1, t.2)) (fun (t : (List Int)) => Sum.inr t)) (by
  rintro (t | t)
  · kernel_rfl
  · kernel_rfl)) (0, x858))

def laws_toIntS_n5_l (x855 : List Int) (x858 : List Int) := (link_block (fin2 := (fun (t : (List Int)) => (Exit.normal, ⟨mkE 22 0 [(3, .slc 0)], [some (sI t)]⟩))) (id := 0) (laws_toIntS_n4_l x855 x858) (fun (t : (List Int)) => t) (by
  rintro t K h
  · exact Eq.mp (by kernel_rfl) h))

def laws_toIntS_n6_l (x855 : List Int) (x858 : List Int) := (link_seq (laws_toIntS_n2_l x855 x858) (fun (t : Unit) => (laws_toIntS_n5_l x855 x858)))

theorem laws_toIntS_n7_l (x873 : List Int) : Link laws_toIntS_ctx LL (cq [1,1,1] (bodyOf Try.f11)) (aq [1,1,1] laws_toIntS_an) ⟨mkE 22 0 [(3, .slc 0)], [some (sI x873)]⟩ (laws_toIntS_n7 x873) (fun (t : (List Int)) => (Exit.ret, ⟨mkE 22 0 [(2, .slc 0)], [some (sI t)]⟩)) := .of fun K h => by
  simp only [laws_toIntS_n7, wpW] at h
  exact .of (by kernel_rfl) h

def laws_toIntS_n8_l (x855 : List Int) (x858 : List Int) := (link_seq (laws_toIntS_n6_l x855 x858) (fun (t : (List Int)) => (laws_toIntS_n7_l t)))

def laws_toIntS_n9_l (x855 : List Int) := (link_group (c := (cq [0,1] (bodyOf Try.f11))) (a := (aq [0,1] laws_toIntS_an)) [(cq [0] (bodyOf Try.f11))] [(aq [0] laws_toIntS_an)] rfl (link_seq (laws_toIntS_n1_l x855) (fun (t : (List Int)) => (laws_toIntS_n8_l x855 t))))

theorem laws_toIntS_e (x855 : List Int) {r : AV} {H' : Heap} (h : (Ans.mk _ (laws_toIntS x855) (fun (t : (List Int)) => (.slc 0, [some (sI t)])) [] none).run = some (r, H')) : Awp laws_toIntS_ctx LL (bodyOf Try.f11) laws_toIntS_an ⟨mkE 22 0 [(0, dL x855)], []⟩ (Ret (tlook tys) Try.f11.results.toList r H') :=
  ret_of' (Link.cast (by kernel_rfl) (by kernel_rfl) (laws_toIntS_n9_l x855)) (by unfold laws_toIntS; kernel_rfl) (by
  intro t
  exact ret_mk [.slc 0] (by kernel_rfl) (by kernel_rfl) (by kernel_rfl) (by kernel_rfl)) h

def F_laws_toIntS : Fun := fun avs H =>
  match avs, H with
  | [.dat (.list (.int .i64)) x855], [] => ⟨_, laws_toIntS x855, fun (t : (List Int)) => (.slc 0, [some (sI t)]), [], none⟩
  | _, _ => Ans.no

theorem laws_toIntS_sound : Sound Try.prog 11 F_laws_toIntS := by
  refine fn_sound' (C := laws_toIntS_ctx) (c := bodyOf Try.f11) (cok_of tys_ok (alln) (alln) (by kernel_rfl)) Try.func11 (by kernel_rfl) LL laws_toIntS_an ?_
  intro avs H r H' h
  unfold F_laws_toIntS at h
  split at h
  · refine Awp.cast ?_ ?_ ?_ (laws_toIntS_e _ h) <;> kernel_rfl
  · simp [Ans.no, Ans.run] at h


/-! loop.example/headtrees/laws.toIntSS -/

def laws_toIntSS_an : Ann := (.seq (.leaf [0]) (.seq (.leaf [0, 3]) (.seq (.seq (.leaf [0, 3, 4]) (.block (.loop (.seq (.seq (.leaf [0, 3, 4, 11]) (.cond (.leaf [0, 3, 4]) (.leaf [3]))) (.seq (.block (.leafF [⟨8, 20, false, none, none⟩] [0, 3, 4])) (.leaf [0, 3, 4])))))) (.seq (.leaf [2]) (.leaf [2])))))

noncomputable def laws_toIntSS_ctx : Ctx := ⟨tlook tys, olook [(11, F_laws_toIntS)], ioF, 0, false, []⟩

theorem laws_toIntSS_n1_l (x889 : List (List Int)) : Link laws_toIntSS_ctx LL (Code.seq (cq [0] (bodyOf Try.f20)) (cq [0,1] (bodyOf Try.f20))) (Ann.seq (aq [0] laws_toIntSS_an) (aq [0,1] laws_toIntSS_an)) ⟨mkE 23 0 [(0, .dat (.list (.list (.int .i64))) x889)], []⟩ (laws_toIntSS_n1 x889) (fun (t : (List (List Int))) => (Exit.normal, ⟨mkE 23 0 [(0, .dat (.list (.list (.int .i64))) x889), (3, .slc 0)], [some (.seq (.list (.int .i64)) t)]⟩)) := .of fun K h => by
  simp only [laws_toIntSS_n1, wpW] at h
  exact .of (by kernel_rfl) h

theorem laws_toIntSS_n2_l (x889 : List (List Int)) (x902 : List (List Int)) : Link laws_toIntSS_ctx LL (cq [0,0,1,1] (bodyOf Try.f20)) (aq [0,0,1,1] laws_toIntSS_an) ⟨mkE 23 0 [(0, .dat (.list (.list (.int .i64))) x889), (3, .slc 0)], [some (.seq (.list (.int .i64)) x902)]⟩ (laws_toIntSS_n2) (fun (t : Unit) => (Exit.normal, ⟨mkE 23 0 [(0, .dat (.list (.list (.int .i64))) x889), (3, .slc 0), (4, dI 0)], [some (.seq (.list (.int .i64)) x902)]⟩)) := .of fun K h => by
  simp only [laws_toIntSS_n2, wpW] at h
  exact .of (by kernel_rfl) h

theorem laws_toIntSS_n3_l (x889 : List (List Int)) (x918 : Int) (x919 : List (List Int)) : Link laws_toIntSS_ctx LL (cq [0,0,1,0,1,1] (bodyOf Try.f20)) (aq [0,0,1,0,1,1] laws_toIntSS_an) ⟨mkE 23 0 [(0, .dat (.list (.list (.int .i64))) x889), (3, .slc 0), (4, dI x918)], [some (.seq (.list (.int .i64)) x919)]⟩ (laws_toIntSS_n3 x889 x918 x919) (Sum.elim (fun (t : Int × (List (List Int))) => (Exit.normal, ⟨mkE 23 0 [(0, .dat (.list (.list (.int .i64))) x889), (3, .slc 0), (4, dI t.1)], [some (.seq (.list (.int .i64)) t.2)]⟩)) (fun (t : (List (List Int))) => ((Exit.exit 0), ⟨mkE 23 0 [(3, .slc 0)], [some (.seq (.list (.int .i64)) t)]⟩))) := .of fun K h => by
  simp only [laws_toIntSS_n3, wpW] at h
  exact .of (by kernel_rfl) h

def laws_toIntSS_n4_l (x889 : List (List Int)) (x902 : List (List Int)) := (link_loop (mk := fun (s : Int × (List (List Int))) => ⟨mkE 23 0 [(0, .dat (.list (.list (.int .i64))) x889), (3, .slc 0), (4, dI s.1)], [some (.seq (.list (.int .i64)) s.2)]⟩) (fin := (fun (t : (List (List Int))) => ((Exit.exit 0), ⟨mkE 23 0 [(3, .slc 0)], [some (.seq (.list (.int .i64)) t)]⟩))) (by
  rintro t f K h
  · exact h) (fun s => link_map (laws_toIntSS_n3_l x889 s.1 s.2) (Sum.elim (fun (t : Int × (List (List Int))) => Sum.inl (t.1, t.2)) (fun (t : (List (List Int))) => Sum.inr t)) (by
  rintro (t | t)
  · kernel_rfl
  · kernel_rfl)) (0, x902))

def laws_toIntSS_n5_l (x889 : List (List Int)) (x902 : List (List Int)) := (link_block (fin2 := (fun (t : (List (List Int))) => (Exit.normal, ⟨mkE 23 0 [(3, .slc 0)], [some (.seq (.list (.int .i64)) t)]⟩))) (id := 0) (laws_toIntSS_n4_l x889 x902) (fun (t : (List (List Int))) => t) (by
  rintro t K h
  · exact Eq.mp (by kernel_rfl) h))

def laws_toIntSS_n6_l (x889 : List (List Int)) (x902 : List (List Int)) := (link_seq (laws_toIntSS_n2_l x889 x902) (fun (t : Unit) => (laws_toIntSS_n5_l x889 x902)))

theorem laws_toIntSS_n7_l (x919 : List (List Int)) : Link laws_toIntSS_ctx LL (cq [1,1,1] (bodyOf Try.f20)) (aq [1,1,1] laws_toIntSS_an) ⟨mkE 23 0 [(3, .slc 0)], [some (.seq (.list (.int .i64)) x919)]⟩ (laws_toIntSS_n7 x919) (fun (t : (List (List Int))) => (Exit.ret, ⟨mkE 23 0 [(2, .slc 0)], [some (.seq (.list (.int .i64)) t)]⟩)) := .of fun K h => by
  simp only [laws_toIntSS_n7, wpW] at h
  exact .of (by kernel_rfl) h

def laws_toIntSS_n8_l (x889 : List (List Int)) (x902 : List (List Int)) := (link_seq (laws_toIntSS_n6_l x889 x902) (fun (t : (List (List Int))) => (laws_toIntSS_n7_l t)))

def laws_toIntSS_n9_l (x889 : List (List Int)) := (link_group (c := (cq [0,1] (bodyOf Try.f20))) (a := (aq [0,1] laws_toIntSS_an)) [(cq [0] (bodyOf Try.f20))] [(aq [0] laws_toIntSS_an)] rfl (link_seq (laws_toIntSS_n1_l x889) (fun (t : (List (List Int))) => (laws_toIntSS_n8_l x889 t))))

theorem laws_toIntSS_e (x889 : List (List Int)) {r : AV} {H' : Heap} (h : (Ans.mk _ (laws_toIntSS x889) (fun (t : (List (List Int))) => (.slc 0, [some (.seq (.list (.int .i64)) t)])) [] none).run = some (r, H')) : Awp laws_toIntSS_ctx LL (bodyOf Try.f20) laws_toIntSS_an ⟨mkE 23 0 [(0, .dat (.list (.list (.int .i64))) x889)], []⟩ (Ret (tlook tys) Try.f20.results.toList r H') :=
  ret_of' (Link.cast (by kernel_rfl) (by kernel_rfl) (laws_toIntSS_n9_l x889)) (by unfold laws_toIntSS; kernel_rfl) (by
  intro t
  exact ret_mk [.slc 0] (by kernel_rfl) (by kernel_rfl) (by kernel_rfl) (by kernel_rfl)) h

def F_laws_toIntSS : Fun := fun avs H =>
  match avs, H with
  | [.dat (.list (.list (.int .i64))) x889], [] => ⟨_, laws_toIntSS x889, fun (t : (List (List Int))) => (.slc 0, [some (.seq (.list (.int .i64)) t)]), [], none⟩
  | _, _ => Ans.no

theorem laws_toIntSS_sound : Sound Try.prog 20 F_laws_toIntSS := by
  refine fn_sound' (C := laws_toIntSS_ctx) (c := bodyOf Try.f20) (cok_of tys_ok (allc laws_toIntS_sound alln) (allc Try.call11 alln) (by kernel_rfl)) Try.func20 (by kernel_rfl) LL laws_toIntSS_an ?_
  intro avs H r H' h
  unfold F_laws_toIntSS at h
  split at h
  · refine Awp.cast ?_ ?_ ?_ (laws_toIntSS_e _ h) <;> kernel_rfl
  · simp [Ans.no, Ans.run] at h


/-! loop.example/headtrees/laws.toDesk -/

def laws_toDesk_an : Ann := (.seq (.leaf [1, 2]) (.seq (.leaf [1, 2, 3]) (.seq (.leaf [1, 2, 3]) (.seq (.leaf [2, 3]) (.seq (.leaf [2]) (.leaf [2]))))))

noncomputable def laws_toDesk_ctx : Ctx := ⟨tlook tys, olook [(11, F_laws_toIntS), (20, F_laws_toIntSS)], ioF, 0, false, []⟩

theorem laws_toDesk_n1_l (x853 : List Int) (x854 : List (List Int)) : Link laws_toDesk_ctx LL (bodyOf Try.f7) laws_toDesk_an ⟨mkE 13 0 [(0, .agg [dL x853, .dat (.list (.list (.int .i64))) x854])], []⟩ (laws_toDesk_n1 x853 x854) (fun (t : (List Int) × (List (List Int))) => (Exit.ret, ⟨mkE 13 0 [(2, .ptr 0 0)], [some (.box [.slc 1, .slc 2]), some (sI t.1), some (.seq (.list (.int .i64)) t.2)]⟩)) := .of fun K h => by
  simp only [laws_toDesk_n1, wpW] at h
  exact .of (by kernel_rfl) h

theorem laws_toDesk_e (x853 : List Int) (x854 : List (List Int)) {r : AV} {H' : Heap} (h : (Ans.mk _ (laws_toDesk x853 x854) (fun (t : (List Int) × (List (List Int))) => (.agg [.slc 1, .slc 2], [some (.box [.slc 1, .slc 2]), some (sI t.1), some (.seq (.list (.int .i64)) t.2)])) [] none).run = some (r, H')) : Awp laws_toDesk_ctx LL (bodyOf Try.f7) laws_toDesk_an ⟨mkE 13 0 [(0, .agg [dL x853, .dat (.list (.list (.int .i64))) x854])], []⟩ (Ret (tlook tys) Try.f7.results.toList r H') :=
  ret_of' (laws_toDesk_n1_l x853 x854) (by unfold laws_toDesk; kernel_rfl) (by
  intro t
  exact ret_mk [.agg [.slc 1, .slc 2]] (by kernel_rfl) (by kernel_rfl) (by kernel_rfl) (by kernel_rfl)) h

def F_laws_toDesk : Fun := fun avs H =>
  match avs, H with
  | [.agg [.dat (.list (.int .i64)) x853, .dat (.list (.list (.int .i64))) x854]], [] => ⟨_, laws_toDesk x853 x854, fun (t : (List Int) × (List (List Int))) => (.agg [.slc 1, .slc 2], [some (.box [.slc 1, .slc 2]), some (sI t.1), some (.seq (.list (.int .i64)) t.2)]), [], none⟩
  | _, _ => Ans.no

theorem laws_toDesk_sound : Sound Try.prog 7 F_laws_toDesk := by
  refine fn_sound' (C := laws_toDesk_ctx) (c := bodyOf Try.f7) (cok_of tys_ok (allc laws_toIntS_sound (allc laws_toIntSS_sound alln)) (allc Try.call11 (allc Try.call20 alln)) (by kernel_rfl)) Try.func7 (by kernel_rfl) LL laws_toDesk_an ?_
  intro avs H r H' h
  unfold F_laws_toDesk at h
  split at h
  · refine Awp.cast ?_ ?_ ?_ (laws_toDesk_e _ _ h) <;> kernel_rfl
  · simp [Ans.no, Ans.run] at h


/-! loop.example/headtrees/spec.l1In -/

def spec_l1In_an : Ann := (.seq (.leaf [0, 1, 2]) (.seq (.leaf [6]) (.leaf [6])))

noncomputable def spec_l1In_ctx : Ctx := ⟨tlook tys, olook [], ioF, 0, false, []⟩

theorem spec_l1In_n1_l (x953 : Int) (x954 : Int) (x955 : Int) : Link spec_l1In_ctx LL (bodyOf Try.f27) spec_l1In_an ⟨mkE 15 0 [(0, dI x953), (1, dI x954), (2, dI x955)], []⟩ (spec_l1In_n1 x953 x954 x955) (fun (t : Bool) => (Exit.ret, ⟨mkE 15 0 [(6, dB t)], []⟩)) := .of fun K h => by
  simp only [spec_l1In_n1, wpW] at h
  exact .of (by kernel_rfl) h

theorem spec_l1In_e (x953 : Int) (x954 : Int) (x955 : Int) {r : AV} {H' : Heap} (h : (Ans.mk _ (spec_l1In x953 x954 x955) (fun (t : Bool) => (dB t, [])) [] none).run = some (r, H')) : Awp spec_l1In_ctx LL (bodyOf Try.f27) spec_l1In_an ⟨mkE 15 0 [(0, dI x953), (1, dI x954), (2, dI x955)], []⟩ (Ret (tlook tys) Try.f27.results.toList r H') :=
  ret_of' (spec_l1In_n1_l x953 x954 x955) (by unfold spec_l1In; kernel_rfl) (by
  intro t
  exact ret_mk [dB t] (by kernel_rfl) (by kernel_rfl) (by kernel_rfl) (by kernel_rfl)) h

def F_spec_l1In : Fun := fun avs H =>
  match avs, H with
  | [.dat (.int .i64) x953, .dat (.int .i64) x954, .dat (.int .i64) x955], [] => ⟨_, spec_l1In x953 x954 x955, fun (t : Bool) => (dB t, []), [], none⟩
  | _, _ => Ans.no

theorem spec_l1In_sound : Sound Try.prog 27 F_spec_l1In := by
  refine fn_sound' (C := spec_l1In_ctx) (c := bodyOf Try.f27) (cok_of tys_ok (alln) (alln) (by kernel_rfl)) Try.func27 (by kernel_rfl) LL spec_l1In_an ?_
  intro avs H r H' h
  unfold F_spec_l1In at h
  split at h
  · refine Awp.cast ?_ ?_ ?_ (spec_l1In_e _ _ _ h) <;> kernel_rfl
  · simp [Ans.no, Ans.run] at h


/-! loop.example/headtrees/spec.TreeOk -/

def spec_TreeOk_an : Ann := (.seq (.leaf [0]) (.seq (.leaf [0, 3]) (.seq (.seq (.leaf [0, 3, 12]) (.cond (.seq (.leaf [2]) (.leaf [2])) (.leaf [0, 3]))) (.seq (.leaf [0, 3, 4]) (.seq (.seq (.leaf [0, 3, 4, 5]) (.block (.loop (.seq (.seq (.leaf [0, 3, 4, 5, 15]) (.cond (.leaf [0, 3, 4, 5]) (.leaf [4]))) (.seq (.block (.seq (.seq (.leaf [0, 3, 4, 5, 33]) (.cond (.seq (.leaf [2]) (.leaf [2])) (.leaf [0, 3, 4, 5]))) (.seq (.seq (.leaf [0, 3, 4, 5, 38]) (.cond (.leaf [0, 3, 4, 5]) (.leaf [0, 3, 4, 5]))) (.seq (.leaf [0, 3, 4, 5, 6]) (.seq (.seq (.leaf [0, 3, 4, 5, 6, 7]) (.block (.loop (.seq (.seq (.leaf [0, 3, 4, 5, 6, 7, 49]) (.cond (.leaf [0, 3, 4, 5, 6, 7]) (.leaf [0, 3, 4, 5, 6]))) (.seq (.block (.seq (.leaf [0, 3, 4, 5, 6, 7]) (.seq (.leaf [0, 3, 4, 5, 6, 7, 60]) (.cond (.seq (.leaf [2]) (.leaf [2])) (.leaf [0, 3, 4, 5, 6, 7]))))) (.leaf [0, 3, 4, 5, 6, 7])))))) (.seq (.leaf [0, 3, 4, 5, 62]) (.cond (.seq (.leaf [2]) (.leaf [2])) (.leaf [0, 3, 4, 5])))))))) (.leaf [0, 3, 4, 5])))))) (.seq (.leaf [2]) (.leaf [2])))))))

noncomputable def spec_TreeOk_ctx : Ctx := ⟨tlook tys, olook [(27, F_spec_l1In)], ioF, 0, false, []⟩

theorem spec_TreeOk_n1_l (x950 : List Int) : Link spec_TreeOk_ctx LL (Code.seq (cq [0] (bodyOf Try.f19)) (Code.seq (cq [0,1] (bodyOf Try.f19)) (Code.seq (cq [0,1,1] (bodyOf Try.f19)) (cq [0,1,1,1] (bodyOf Try.f19))))) (Ann.seq (aq [0] spec_TreeOk_an) (Ann.seq (aq [0,1] spec_TreeOk_an) (Ann.seq (aq [0,1,1] spec_TreeOk_an) (aq [0,1,1,1] spec_TreeOk_an)))) ⟨mkE 65 0 [(0, dL x950)], []⟩ (spec_TreeOk_n1 x950) (Sum.elim (fun (t : Int) => (Exit.normal, ⟨mkE 65 0 [(0, dL x950), (3, dI t), (4, dI 0)], []⟩)) (fun (t : Bool) => (Exit.ret, ⟨mkE 65 0 [(2, dB t)], []⟩))) := .of fun K h => by
  simp only [spec_TreeOk_n1, wpW] at h
  exact .of (by kernel_rfl) h

theorem spec_TreeOk_n2_l (x950 : List Int) (x963 : Int) : Link spec_TreeOk_ctx LL (cq [0,0,1,1,1,1] (bodyOf Try.f19)) (aq [0,0,1,1,1,1] spec_TreeOk_an) ⟨mkE 65 0 [(0, dL x950), (3, dI x963), (4, dI 0)], []⟩ (spec_TreeOk_n2) (fun (t : Unit) => (Exit.normal, ⟨mkE 65 0 [(0, dL x950), (3, dI x963), (4, dI 0), (5, dI 0)], []⟩)) := .of fun K h => by
  simp only [spec_TreeOk_n2, wpW] at h
  exact .of (by kernel_rfl) h

theorem spec_TreeOk_n3_l (x950 : List Int) (x963 : Int) (x1030 : Int) (x1031 : Int) : Link spec_TreeOk_ctx LL (cq [0,0,0,1,0,1,1,1,1] (bodyOf Try.f19)) (aq [0,0,0,1,0,1,1,1,1] spec_TreeOk_an) ⟨mkE 65 0 [(0, dL x950), (3, dI x963), (4, dI x1030), (5, dI x1031)], []⟩ (spec_TreeOk_n3 x963 x1030 x1031) (Sum.elim (fun (t : Unit) => (Exit.normal, ⟨mkE 65 0 [(0, dL x950), (3, dI x963), (4, dI x1030), (5, dI x1031)], []⟩)) (fun (t : Int) => ((Exit.exit 0), ⟨mkE 65 0 [(4, dI t)], []⟩))) := .of fun K h => by
  simp only [spec_TreeOk_n3, wpW] at h
  exact .of (by kernel_rfl) h

theorem spec_TreeOk_n4_l (x950 : List Int) (x963 : Int) (x1030 : Int) (x1031 : Int) : Link spec_TreeOk_ctx LL (Code.seq (cq [0,0,0,1,0,0,1,0,1,1,1,1] (bodyOf Try.f19)) (Code.seq (cq [0,1,0,0,1,0,0,1,0,1,1,1,1] (bodyOf Try.f19)) (cq [0,1,1,0,0,1,0,0,1,0,1,1,1,1] (bodyOf Try.f19)))) (Ann.seq (aq [0,0,0,1,0,0,1,0,1,1,1,1] spec_TreeOk_an) (Ann.seq (aq [0,1,0,0,1,0,0,1,0,1,1,1,1] spec_TreeOk_an) (aq [0,1,1,0,0,1,0,0,1,0,1,1,1,1] spec_TreeOk_an))) ⟨mkE 65 0 [(0, dL x950), (3, dI x963), (4, dI x1030), (5, dI x1031)], []⟩ (spec_TreeOk_n4 x950 x963 x1030 x1031) (Sum.elim (fun (t : Int × Int) => (Exit.normal, ⟨mkE 65 0 [(0, dL x950), (3, dI x963), (4, dI t.1), (5, dI x1031), (6, dI t.2)], []⟩)) (fun (t : Bool) => (Exit.ret, ⟨mkE 65 0 [(2, dB t)], []⟩))) := .of fun K h => by
  simp only [spec_TreeOk_n4, wpW] at h
  exact .of (by kernel_rfl) h

theorem spec_TreeOk_n5_l (x950 : List Int) (x963 : Int) (x1059 : Int) (x1031 : Int) (x1060 : Int) : Link spec_TreeOk_ctx LL (cq [0,0,1,1,1,0,0,1,0,0,1,0,1,1,1,1] (bodyOf Try.f19)) (aq [0,0,1,1,1,0,0,1,0,0,1,0,1,1,1,1] spec_TreeOk_an) ⟨mkE 65 0 [(0, dL x950), (3, dI x963), (4, dI x1059), (5, dI x1031), (6, dI x1060)], []⟩ (spec_TreeOk_n5) (fun (t : Unit) => (Exit.normal, ⟨mkE 65 0 [(0, dL x950), (3, dI x963), (4, dI x1059), (5, dI x1031), (6, dI x1060), (7, dI 0)], []⟩)) := .of fun K h => by
  simp only [spec_TreeOk_n5, wpW] at h
  exact .of (by kernel_rfl) h

theorem spec_TreeOk_n6_l (x950 : List Int) (x963 : Int) (x1059 : Int) (x1031 : Int) (x1076 : Int) (x1077 : Int) : Link spec_TreeOk_ctx LL (cq [0,0,1,0,1,1,1,0,0,1,0,0,1,0,1,1,1,1] (bodyOf Try.f19)) (aq [0,0,1,0,1,1,1,0,0,1,0,0,1,0,1,1,1,1] spec_TreeOk_an) ⟨mkE 65 0 [(0, dL x950), (3, dI x963), (4, dI x1059), (5, dI x1031), (6, dI x1076), (7, dI x1077)], []⟩ (spec_TreeOk_n6 x950 x963 x1076 x1077) (Sum.elim (fun (t : Int × Int) => (Exit.normal, ⟨mkE 65 0 [(0, dL x950), (3, dI x963), (4, dI x1059), (5, dI x1031), (6, dI t.1), (7, dI t.2)], []⟩)) (Sum.elim (fun (t : Bool) => (Exit.ret, ⟨mkE 65 0 [(2, dB t)], []⟩)) (fun (t : Int) => ((Exit.exit 2), ⟨mkE 65 0 [(0, dL x950), (3, dI x963), (4, dI x1059), (5, dI x1031), (6, dI t)], []⟩)))) := .of fun K h => by
  simp only [spec_TreeOk_n6, wpW] at h
  exact .of (by kernel_rfl) h

def spec_TreeOk_n7_l (x950 : List Int) (x963 : Int) (x1059 : Int) (x1031 : Int) (x1060 : Int) := (link_loop (mk := fun (s : Int × Int) => ⟨mkE 65 0 [(0, dL x950), (3, dI x963), (4, dI x1059), (5, dI x1031), (6, dI s.1), (7, dI s.2)], []⟩) (fin := (Sum.elim (fun (t : Bool) => (Exit.ret, ⟨mkE 65 0 [(2, dB t)], []⟩)) (fun (t : Int) => ((Exit.exit 2), ⟨mkE 65 0 [(0, dL x950), (3, dI x963), (4, dI x1059), (5, dI x1031), (6, dI t)], []⟩)))) (by
  rintro (t | t) f K h
  · exact h
  · exact h) (fun s => link_map (spec_TreeOk_n6_l x950 x963 x1059 x1031 s.1 s.2) (Sum.elim (fun (t : Int × Int) => Sum.inl (t.1, t.2)) (Sum.elim (fun (t : Bool) => Sum.inr (Sum.inl t)) (fun (t : Int) => Sum.inr (Sum.inr t)))) (by
  rintro (t | t | t)
  · kernel_rfl
  · kernel_rfl
  · kernel_rfl)) (x1060, 0))

def spec_TreeOk_n8_l (x950 : List Int) (x963 : Int) (x1059 : Int) (x1031 : Int) (x1060 : Int) := (link_block (fin2 := (Sum.elim (fun (t : Int) => (Exit.normal, ⟨mkE 65 0 [(0, dL x950), (3, dI x963), (4, dI x1059), (5, dI x1031), (6, dI t)], []⟩)) (fun (t : Bool) => (Exit.ret, ⟨mkE 65 0 [(2, dB t)], []⟩)))) (id := 2) (spec_TreeOk_n7_l x950 x963 x1059 x1031 x1060) (Sum.elim (fun (t : Bool) => (Sum.inr t)) (fun (t : Int) => (Sum.inl t))) (by
  rintro (t | t) K h
  · exact Eq.mp (by kernel_rfl) h
  · exact Eq.mp (by kernel_rfl) h))

def spec_TreeOk_n9_l (x950 : List Int) (x963 : Int) (x1059 : Int) (x1031 : Int) (x1060 : Int) := (link_seq (spec_TreeOk_n5_l x950 x963 x1059 x1031 x1060) (fun (t : Unit) => (spec_TreeOk_n8_l x950 x963 x1059 x1031 x1060)))

theorem spec_TreeOk_n10_l (x950 : List Int) (x963 : Int) (x1059 : Int) (x1031 : Int) (x1076 : Int) : Link spec_TreeOk_ctx LL (cq [1,1,1,1,0,0,1,0,0,1,0,1,1,1,1] (bodyOf Try.f19)) (aq [1,1,1,1,0,0,1,0,0,1,0,1,1,1,1] spec_TreeOk_an) ⟨mkE 65 0 [(0, dL x950), (3, dI x963), (4, dI x1059), (5, dI x1031), (6, dI x1076)], []⟩ (spec_TreeOk_n10 x1076) (Sum.elim (fun (t : Unit) => (Exit.normal, ⟨mkE 65 0 [(0, dL x950), (3, dI x963), (4, dI x1059), (5, dI x1031)], []⟩)) (fun (t : Bool) => (Exit.ret, ⟨mkE 65 0 [(2, dB t)], []⟩))) := .of fun K h => by
  simp only [spec_TreeOk_n10, wpW] at h
  exact .of (by kernel_rfl) h

def spec_TreeOk_n11_l (x950 : List Int) (x963 : Int) (x1059 : Int) (x1031 : Int) (x1060 : Int) := (link_seq2 (spec_TreeOk_n9_l x950 x963 x1059 x1031 x1060) (fun (t : Int) => (spec_TreeOk_n10_l x950 x963 x1059 x1031 t)) (fun (t : Bool) => (Sum.inr t)) (by
  rintro t
  · kernel_rfl) (by
  rintro t f K h
  · exact h))

def spec_TreeOk_n12_l (x950 : List Int) (x963 : Int) (x1030 : Int) (x1031 : Int) := (link_group (c := (cq [0,1,1,0,0,1,0,0,1,0,1,1,1,1] (bodyOf Try.f19))) (a := (aq [0,1,1,0,0,1,0,0,1,0,1,1,1,1] spec_TreeOk_an)) [(cq [0,0,0,1,0,0,1,0,1,1,1,1] (bodyOf Try.f19)), (cq [0,1,0,0,1,0,0,1,0,1,1,1,1] (bodyOf Try.f19))] [(aq [0,0,0,1,0,0,1,0,1,1,1,1] spec_TreeOk_an), (aq [0,1,0,0,1,0,0,1,0,1,1,1,1] spec_TreeOk_an)] rfl (link_seq2 (spec_TreeOk_n4_l x950 x963 x1030 x1031) (fun (t : Int × Int) => (link_map (fin2 := (Sum.elim (fun (t : Int) => (Exit.normal, ⟨mkE 65 0 [(0, dL x950), (3, dI x963), (4, dI t), (5, dI x1031)], []⟩)) (fun (t : Bool) => (Exit.ret, ⟨mkE 65 0 [(2, dB t)], []⟩)))) (spec_TreeOk_n11_l x950 x963 t.1 x1031 t.2) (Sum.elim (fun (u : Unit) => (Sum.inl t.1)) (fun (u : Bool) => (Sum.inr u))) (by
  rintro (t | t)
  · kernel_rfl
  · kernel_rfl))) (fun (t : Bool) => (Sum.inr t)) (by
  rintro t
  · kernel_rfl) (by
  rintro t f K h
  · exact h)))

def spec_TreeOk_n13_l (x950 : List Int) (x963 : Int) (x1030 : Int) (x1031 : Int) := (link_block (fin2 := (Sum.elim (fun (t : Int) => (Exit.normal, ⟨mkE 65 0 [(0, dL x950), (3, dI x963), (4, dI t), (5, dI x1031)], []⟩)) (fun (t : Bool) => (Exit.ret, ⟨mkE 65 0 [(2, dB t)], []⟩)))) (id := 1) (spec_TreeOk_n12_l x950 x963 x1030 x1031) (Sum.elim (fun (t : Int) => (Sum.inl t)) (fun (t : Bool) => (Sum.inr t))) (by
  rintro (t | t) K h
  · exact Eq.mp (by kernel_rfl) h
  · exact Eq.mp (by kernel_rfl) h))

theorem spec_TreeOk_n14_l (x950 : List Int) (x963 : Int) (x1059 : Int) (x1031 : Int) : Link spec_TreeOk_ctx LL (cq [1,1,0,0,1,0,1,1,1,1] (bodyOf Try.f19)) (aq [1,1,0,0,1,0,1,1,1,1] spec_TreeOk_an) ⟨mkE 65 0 [(0, dL x950), (3, dI x963), (4, dI x1059), (5, dI x1031)], []⟩ (spec_TreeOk_n14 x1031) (fun (t : Int) => (Exit.normal, ⟨mkE 65 0 [(0, dL x950), (3, dI x963), (4, dI x1059), (5, dI t)], []⟩)) := .of fun K h => by
  simp only [spec_TreeOk_n14, wpW] at h
  exact .of (by kernel_rfl) h

def spec_TreeOk_n15_l (x950 : List Int) (x963 : Int) (x1030 : Int) (x1031 : Int) := (link_seq2 (spec_TreeOk_n13_l x950 x963 x1030 x1031) (fun (t : Int) => (link_map (fin2 := (Sum.elim (fun (t : Int × Int) => (Exit.normal, ⟨mkE 65 0 [(0, dL x950), (3, dI x963), (4, dI t.1), (5, dI t.2)], []⟩)) (fun (t : Bool) => (Exit.ret, ⟨mkE 65 0 [(2, dB t)], []⟩)))) (spec_TreeOk_n14_l x950 x963 t x1031) (fun (u : Int) => (Sum.inl (t, u))) (by
  rintro t
  · kernel_rfl))) (fun (t : Bool) => (Sum.inr t)) (by
  rintro t
  · kernel_rfl) (by
  rintro t f K h
  · exact h))

def spec_TreeOk_n16_l (x950 : List Int) (x963 : Int) (x1030 : Int) (x1031 : Int) := (link_seq2 (spec_TreeOk_n3_l x950 x963 x1030 x1031) (fun (t : Unit) => (link_map (fin2 := (Sum.elim (fun (t : Int × Int) => (Exit.normal, ⟨mkE 65 0 [(0, dL x950), (3, dI x963), (4, dI t.1), (5, dI t.2)], []⟩)) (Sum.elim (fun (t : Bool) => (Exit.ret, ⟨mkE 65 0 [(2, dB t)], []⟩)) (fun (t : Int) => ((Exit.exit 0), ⟨mkE 65 0 [(4, dI t)], []⟩))))) (spec_TreeOk_n15_l x950 x963 x1030 x1031) (Sum.elim (fun (t : Int × Int) => (Sum.inl (t.1, t.2))) (fun (t : Bool) => (Sum.inr (Sum.inl t)))) (by
  rintro (t | t)
  · kernel_rfl
  · kernel_rfl))) (fun (t : Int) => (Sum.inr (Sum.inr t))) (by
  rintro t
  · kernel_rfl) (by
  rintro t f K h
  · exact h))

def spec_TreeOk_n17_l (x950 : List Int) (x963 : Int) := (link_loop (mk := fun (s : Int × Int) => ⟨mkE 65 0 [(0, dL x950), (3, dI x963), (4, dI s.1), (5, dI s.2)], []⟩) (fin := (Sum.elim (fun (t : Bool) => (Exit.ret, ⟨mkE 65 0 [(2, dB t)], []⟩)) (fun (t : Int) => ((Exit.exit 0), ⟨mkE 65 0 [(4, dI t)], []⟩)))) (by
  rintro (t | t) f K h
  · exact h
  · exact h) (fun s => link_map (spec_TreeOk_n16_l x950 x963 s.1 s.2) (Sum.elim (fun (t : Int × Int) => Sum.inl (t.1, t.2)) (Sum.elim (fun (t : Bool) => Sum.inr (Sum.inl t)) (fun (t : Int) => Sum.inr (Sum.inr t)))) (by
  rintro (t | t | t)
  · kernel_rfl
  · kernel_rfl
  · kernel_rfl)) (0, 0))

def spec_TreeOk_n18_l (x950 : List Int) (x963 : Int) := (link_block (fin2 := (Sum.elim (fun (t : Int) => (Exit.normal, ⟨mkE 65 0 [(4, dI t)], []⟩)) (fun (t : Bool) => (Exit.ret, ⟨mkE 65 0 [(2, dB t)], []⟩)))) (id := 0) (spec_TreeOk_n17_l x950 x963) (Sum.elim (fun (t : Bool) => (Sum.inr t)) (fun (t : Int) => (Sum.inl t))) (by
  rintro (t | t) K h
  · exact Eq.mp (by kernel_rfl) h
  · exact Eq.mp (by kernel_rfl) h))

def spec_TreeOk_n19_l (x950 : List Int) (x963 : Int) := (link_seq (spec_TreeOk_n2_l x950 x963) (fun (t : Unit) => (spec_TreeOk_n18_l x950 x963)))

theorem spec_TreeOk_n20_l (x1030 : Int) : Link spec_TreeOk_ctx LL (cq [1,1,1,1,1] (bodyOf Try.f19)) (aq [1,1,1,1,1] spec_TreeOk_an) ⟨mkE 65 0 [(4, dI x1030)], []⟩ (spec_TreeOk_n20 x1030) (fun (t : Bool) => (Exit.ret, ⟨mkE 65 0 [(2, dB t)], []⟩)) := .of fun K h => by
  simp only [spec_TreeOk_n20, wpW] at h
  exact .of (by kernel_rfl) h

def spec_TreeOk_n21_l (x950 : List Int) (x963 : Int) := (link_seq2 (spec_TreeOk_n19_l x950 x963) (fun (t : Int) => (spec_TreeOk_n20_l t)) (fun (t : Bool) => t) (by
  rintro t
  · kernel_rfl) (by
  rintro t f K h
  · exact h))

def spec_TreeOk_n22_l (x950 : List Int) := (link_group (c := (cq [0,1,1,1] (bodyOf Try.f19))) (a := (aq [0,1,1,1] spec_TreeOk_an)) [(cq [0] (bodyOf Try.f19)), (cq [0,1] (bodyOf Try.f19)), (cq [0,1,1] (bodyOf Try.f19))] [(aq [0] spec_TreeOk_an), (aq [0,1] spec_TreeOk_an), (aq [0,1,1] spec_TreeOk_an)] rfl (link_seq2 (spec_TreeOk_n1_l x950) (fun (t : Int) => (spec_TreeOk_n21_l x950 t)) (fun (t : Bool) => t) (by
  rintro t
  · kernel_rfl) (by
  rintro t f K h
  · exact h)))

theorem spec_TreeOk_e (x950 : List Int) {r : AV} {H' : Heap} (h : (Ans.mk _ (spec_TreeOk x950) (fun (t : Bool) => (dB t, [])) [] none).run = some (r, H')) : Awp spec_TreeOk_ctx LL (bodyOf Try.f19) spec_TreeOk_an ⟨mkE 65 0 [(0, dL x950)], []⟩ (Ret (tlook tys) Try.f19.results.toList r H') :=
  ret_of' (Link.cast (by kernel_rfl) (by kernel_rfl) (spec_TreeOk_n22_l x950)) (by unfold spec_TreeOk; kernel_rfl) (by
  intro t
  exact ret_mk [dB t] (by kernel_rfl) (by kernel_rfl) (by kernel_rfl) (by kernel_rfl)) h

def F_spec_TreeOk : Fun := fun avs H =>
  match avs, H with
  | [.dat (.list (.int .i64)) x950], [] => ⟨_, spec_TreeOk x950, fun (t : Bool) => (dB t, []), [], none⟩
  | _, _ => Ans.no

theorem spec_TreeOk_sound : Sound Try.prog 19 F_spec_TreeOk := by
  refine fn_sound' (C := spec_TreeOk_ctx) (c := bodyOf Try.f19) (cok_of tys_ok (allc spec_l1In_sound alln) (allc Try.call27 alln) (by kernel_rfl)) Try.func19 (by kernel_rfl) LL spec_TreeOk_an ?_
  intro avs H r H' h
  unfold F_spec_TreeOk at h
  split at h
  · refine Awp.cast ?_ ?_ ?_ (spec_TreeOk_e _ h) <;> kernel_rfl
  · simp [Ans.no, Ans.run] at h


/-! loop.example/headtrees/spec.DeskOk -/

def spec_DeskOk_an : Ann := (.seq (.leaf [1]) (.seq (.seq (.leaf [1, 3]) (.block (.loop (.seq (.seq (.leaf [1, 3, 8]) (.cond (.leaf [1, 3]) (.leaf [1]))) (.seq (.block (.seq (.leaf [1, 3, 17]) (.cond (.seq (.leaf [2]) (.leaf [2])) (.leaf [1, 3])))) (.leaf [1, 3])))))) (.seq (.leaf [2]) (.leaf [2]))))

noncomputable def spec_DeskOk_ctx : Ctx := ⟨tlook tys, olook [(19, F_spec_TreeOk)], ioF, 0, false, []⟩

theorem spec_DeskOk_n1_l (x943 : List Int) (x944 : List (List Int)) : Link spec_DeskOk_ctx LL (cq [0] (bodyOf Try.f6)) (aq [0] spec_DeskOk_an) ⟨mkE 27 0 [(0, .agg [dL x943, .dat (.list (.list (.int .i64))) x944])], []⟩ (spec_DeskOk_n1) (fun (t : Unit) => (Exit.normal, ⟨mkE 27 0 [(1, .ptr 0 0)], [some (.box [dL x943, .dat (.list (.list (.int .i64))) x944])]⟩)) := .of fun K h => by
  simp only [spec_DeskOk_n1, wpW] at h
  exact .of (by kernel_rfl) h

theorem spec_DeskOk_n2_l (x943 : List Int) (x944 : List (List Int)) : Link spec_DeskOk_ctx LL (cq [0,0,1] (bodyOf Try.f6)) (aq [0,0,1] spec_DeskOk_an) ⟨mkE 27 0 [(1, .ptr 0 0)], [some (.box [dL x943, .dat (.list (.list (.int .i64))) x944])]⟩ (spec_DeskOk_n2) (fun (t : Unit) => (Exit.normal, ⟨mkE 27 0 [(1, .ptr 0 0), (3, dI 0)], [some (.box [dL x943, .dat (.list (.list (.int .i64))) x944])]⟩)) := .of fun K h => by
  simp only [spec_DeskOk_n2, wpW] at h
  exact .of (by kernel_rfl) h

theorem spec_DeskOk_n3_l (x1107 : Int) (x943 : List Int) (x944 : List (List Int)) : Link spec_DeskOk_ctx LL (cq [0,0,1,0,1] (bodyOf Try.f6)) (aq [0,0,1,0,1] spec_DeskOk_an) ⟨mkE 27 0 [(1, .ptr 0 0), (3, dI x1107)], [some (.box [dL x943, .dat (.list (.list (.int .i64))) x944])]⟩ (spec_DeskOk_n3 x1107 x944) (Sum.elim (fun (t : Int) => (Exit.normal, ⟨mkE 27 0 [(1, .ptr 0 0), (3, dI t)], [some (.box [dL x943, .dat (.list (.list (.int .i64))) x944])]⟩)) (Sum.elim (fun (t : Bool) => (Exit.ret, ⟨mkE 27 0 [(2, dB t)], []⟩)) (fun (t : Unit) => ((Exit.exit 0), ⟨mkE 27 0 [(1, .ptr 0 0)], [some (.box [dL x943, .dat (.list (.list (.int .i64))) x944])]⟩)))) := .of fun K h => by
  simp only [spec_DeskOk_n3, wpW] at h
  exact .of (by kernel_rfl) h

def spec_DeskOk_n4_l (x943 : List Int) (x944 : List (List Int)) := (link_loop (mk := fun (s : Int) => ⟨mkE 27 0 [(1, .ptr 0 0), (3, dI s)], [some (.box [dL x943, .dat (.list (.list (.int .i64))) x944])]⟩) (fin := (Sum.elim (fun (t : Bool) => (Exit.ret, ⟨mkE 27 0 [(2, dB t)], []⟩)) (fun (t : Unit) => ((Exit.exit 0), ⟨mkE 27 0 [(1, .ptr 0 0)], [some (.box [dL x943, .dat (.list (.list (.int .i64))) x944])]⟩)))) (by
  rintro (t | t) f K h
  · exact h
  · exact h) (fun s => link_map (spec_DeskOk_n3_l s x943 x944) (Sum.elim (fun (t : Int) => Sum.inl t) (Sum.elim (fun (t : Bool) => Sum.inr (Sum.inl t)) (fun (t : Unit) => Sum.inr (Sum.inr t)))) (by
  rintro (t | t | t)
  · kernel_rfl
  · kernel_rfl
  · kernel_rfl)) 0)

def spec_DeskOk_n5_l (x943 : List Int) (x944 : List (List Int)) := (link_block (fin2 := (Sum.elim (fun (t : Unit) => (Exit.normal, ⟨mkE 27 0 [(1, .ptr 0 0)], [some (.box [dL x943, .dat (.list (.list (.int .i64))) x944])]⟩)) (fun (t : Bool) => (Exit.ret, ⟨mkE 27 0 [(2, dB t)], []⟩)))) (id := 0) (spec_DeskOk_n4_l x943 x944) (Sum.elim (fun (t : Bool) => (Sum.inr t)) (fun (t : Unit) => (Sum.inl ()))) (by
  rintro (t | t) K h
  · exact Eq.mp (by kernel_rfl) h
  · exact Eq.mp (by kernel_rfl) h))

def spec_DeskOk_n6_l (x943 : List Int) (x944 : List (List Int)) := (link_seq (spec_DeskOk_n2_l x943 x944) (fun (t : Unit) => (spec_DeskOk_n5_l x943 x944)))

theorem spec_DeskOk_n7_l (x943 : List Int) (x944 : List (List Int)) : Link spec_DeskOk_ctx LL (cq [1,1] (bodyOf Try.f6)) (aq [1,1] spec_DeskOk_an) ⟨mkE 27 0 [(1, .ptr 0 0)], [some (.box [dL x943, .dat (.list (.list (.int .i64))) x944])]⟩ (spec_DeskOk_n7 x943 x944) (fun (t : Bool) => (Exit.ret, ⟨mkE 27 0 [(2, dB t)], []⟩)) := .of fun K h => by
  simp only [spec_DeskOk_n7, wpW] at h
  exact .of (by kernel_rfl) h

def spec_DeskOk_n8_l (x943 : List Int) (x944 : List (List Int)) := (link_seq2 (spec_DeskOk_n6_l x943 x944) (fun (t : Unit) => (spec_DeskOk_n7_l x943 x944)) (fun (t : Bool) => t) (by
  rintro t
  · kernel_rfl) (by
  rintro t f K h
  · exact h))

def spec_DeskOk_n9_l (x943 : List Int) (x944 : List (List Int)) := (link_seq (spec_DeskOk_n1_l x943 x944) (fun (t : Unit) => (spec_DeskOk_n8_l x943 x944)))

theorem spec_DeskOk_e (x943 : List Int) (x944 : List (List Int)) {r : AV} {H' : Heap} (h : (Ans.mk _ (spec_DeskOk x943 x944) (fun (t : Bool) => (dB t, [])) [] none).run = some (r, H')) : Awp spec_DeskOk_ctx LL (bodyOf Try.f6) spec_DeskOk_an ⟨mkE 27 0 [(0, .agg [dL x943, .dat (.list (.list (.int .i64))) x944])], []⟩ (Ret (tlook tys) Try.f6.results.toList r H') :=
  ret_of' (Link.cast (by kernel_rfl) (by kernel_rfl) (spec_DeskOk_n9_l x943 x944)) (by unfold spec_DeskOk; kernel_rfl) (by
  intro t
  exact ret_mk [dB t] (by kernel_rfl) (by kernel_rfl) (by kernel_rfl) (by kernel_rfl)) h

def F_spec_DeskOk : Fun := fun avs H =>
  match avs, H with
  | [.agg [.dat (.list (.int .i64)) x943, .dat (.list (.list (.int .i64))) x944]], [] => ⟨_, spec_DeskOk x943 x944, fun (t : Bool) => (dB t, []), [], none⟩
  | _, _ => Ans.no

theorem spec_DeskOk_sound : Sound Try.prog 6 F_spec_DeskOk := by
  refine fn_sound' (C := spec_DeskOk_ctx) (c := bodyOf Try.f6) (cok_of tys_ok (allc spec_TreeOk_sound alln) (allc Try.call19 alln) (by kernel_rfl)) Try.func6 (by kernel_rfl) LL spec_DeskOk_an ?_
  intro avs H r H' h
  unfold F_spec_DeskOk at h
  split at h
  · refine Awp.cast ?_ ?_ ?_ (spec_DeskOk_e _ _ h) <;> kernel_rfl
  · simp [Ans.no, Ans.run] at h


/-! loop.example/headtrees/impl.oneRoot -/

def impl_oneRoot_an : Ann := (.seq (.leaf [0]) (.seq (.leaf [0, 3]) (.seq (.seq (.leaf [0, 3, 6, 7, 8]) (.block (.loop (.seq (.leaf [0, 3, 6, 7, 8, 9]) (.seq (.cond (.leaf [0, 3, 6, 7, 8]) (.leaf [3])) (.seq (.block (.seq (.leaf [0, 3, 5, 6, 7, 8]) (.seq (.seq (.leaf [0, 3, 5, 6, 7, 8, 19]) (.cond (.seq (.leaf [2]) (.leaf [2])) (.leaf [0, 3, 5, 6, 7, 8]))) (.seq (.leaf [0, 3, 6, 7, 8, 21]) (.cond (.leaf [0, 3, 6, 7, 8]) (.leaf [0, 3, 6, 7, 8])))))) (.leaf [0, 3, 6, 7, 8]))))))) (.seq (.leaf [2]) (.leaf [2])))))

noncomputable def impl_oneRoot_ctx : Ctx := ⟨tlook tys, olook [], ioF, 0, false, []⟩

theorem impl_oneRoot_n1_l (x1154 : List Int) : Link impl_oneRoot_ctx LL (Code.seq (cq [0] (bodyOf Try.f28)) (cq [0,1] (bodyOf Try.f28))) (Ann.seq (aq [0] impl_oneRoot_an) (aq [0,1] impl_oneRoot_an)) ⟨mkE 27 0 [(0, dL x1154)], []⟩ (impl_oneRoot_n1) (fun (t : Unit) => (Exit.normal, ⟨mkE 27 0 [(0, dL x1154), (3, dI 0)], []⟩)) := .of fun K h => by
  simp only [impl_oneRoot_n1, wpW] at h
  exact .of (by kernel_rfl) h

theorem impl_oneRoot_n2_l (x1154 : List Int) : Link impl_oneRoot_ctx LL (cq [0,0,1,1] (bodyOf Try.f28)) (aq [0,0,1,1] impl_oneRoot_an) ⟨mkE 27 0 [(0, dL x1154), (3, dI 0)], []⟩ (impl_oneRoot_n2 x1154) (fun (t : Int) => (Exit.normal, ⟨mkE 27 0 [(0, dL x1154), (3, dI 0), (6, dL x1154), (7, dI t), (8, dI 0)], []⟩)) := .of fun K h => by
  simp only [impl_oneRoot_n2, wpW] at h
  exact .of (by kernel_rfl) h

theorem impl_oneRoot_n3_l (x1154 : List Int) (x1176 : Int) (x1155 : Int) (x1177 : Int) : Link impl_oneRoot_ctx LL (cq [0,0,1,0,1,1] (bodyOf Try.f28)) (aq [0,0,1,0,1,1] impl_oneRoot_an) ⟨mkE 27 0 [(0, dL x1154), (3, dI x1176), (6, dL x1154), (7, dI x1155), (8, dI x1177)], []⟩ (impl_oneRoot_n3 x1154 x1176 x1155 x1177) (Sum.elim (fun (t : Int × Int) => (Exit.normal, ⟨mkE 27 0 [(0, dL x1154), (3, dI t.1), (6, dL x1154), (7, dI x1155), (8, dI t.2)], []⟩)) (Sum.elim (fun (t : Bool) => (Exit.ret, ⟨mkE 27 0 [(2, dB t)], []⟩)) (fun (t : Int) => ((Exit.exit 0), ⟨mkE 27 0 [(3, dI t)], []⟩)))) := .of fun K h => by
  simp only [impl_oneRoot_n3, wpW] at h
  exact .of (by kernel_rfl) h

def impl_oneRoot_n4_l (x1154 : List Int) (x1155 : Int) := (link_loop (mk := fun (s : Int × Int) => ⟨mkE 27 0 [(0, dL x1154), (3, dI s.1), (6, dL x1154), (7, dI x1155), (8, dI s.2)], []⟩) (fin := (Sum.elim (fun (t : Bool) => (Exit.ret, ⟨mkE 27 0 [(2, dB t)], []⟩)) (fun (t : Int) => ((Exit.exit 0), ⟨mkE 27 0 [(3, dI t)], []⟩)))) (by
  rintro (t | t) f K h
  · exact h
  · exact h) (fun s => link_map (impl_oneRoot_n3_l x1154 s.1 x1155 s.2) (Sum.elim (fun (t : Int × Int) => Sum.inl (t.1, t.2)) (Sum.elim (fun (t : Bool) => Sum.inr (Sum.inl t)) (fun (t : Int) => Sum.inr (Sum.inr t)))) (by
  rintro (t | t | t)
  · kernel_rfl
  · kernel_rfl
  · kernel_rfl)) (0, 0))

def impl_oneRoot_n5_l (x1154 : List Int) (x1155 : Int) := (link_block (fin2 := (Sum.elim (fun (t : Int) => (Exit.normal, ⟨mkE 27 0 [(3, dI t)], []⟩)) (fun (t : Bool) => (Exit.ret, ⟨mkE 27 0 [(2, dB t)], []⟩)))) (id := 0) (impl_oneRoot_n4_l x1154 x1155) (Sum.elim (fun (t : Bool) => (Sum.inr t)) (fun (t : Int) => (Sum.inl t))) (by
  rintro (t | t) K h
  · exact Eq.mp (by kernel_rfl) h
  · exact Eq.mp (by kernel_rfl) h))

def impl_oneRoot_n6_l (x1154 : List Int) := (link_seq (impl_oneRoot_n2_l x1154) (fun (t : Int) => (impl_oneRoot_n5_l x1154 t)))

theorem impl_oneRoot_n7_l (x1176 : Int) : Link impl_oneRoot_ctx LL (cq [1,1,1] (bodyOf Try.f28)) (aq [1,1,1] impl_oneRoot_an) ⟨mkE 27 0 [(3, dI x1176)], []⟩ (impl_oneRoot_n7 x1176) (fun (t : Bool) => (Exit.ret, ⟨mkE 27 0 [(2, dB t)], []⟩)) := .of fun K h => by
  simp only [impl_oneRoot_n7, wpW] at h
  exact .of (by kernel_rfl) h

def impl_oneRoot_n8_l (x1154 : List Int) := (link_seq2 (impl_oneRoot_n6_l x1154) (fun (t : Int) => (impl_oneRoot_n7_l t)) (fun (t : Bool) => t) (by
  rintro t
  · kernel_rfl) (by
  rintro t f K h
  · exact h))

def impl_oneRoot_n9_l (x1154 : List Int) := (link_group (c := (cq [0,1] (bodyOf Try.f28))) (a := (aq [0,1] impl_oneRoot_an)) [(cq [0] (bodyOf Try.f28))] [(aq [0] impl_oneRoot_an)] rfl (link_seq (impl_oneRoot_n1_l x1154) (fun (t : Unit) => (impl_oneRoot_n8_l x1154))))

theorem impl_oneRoot_e (x1154 : List Int) {r : AV} {H' : Heap} (h : (Ans.mk _ (impl_oneRoot x1154) (fun (t : Bool) => (dB t, [])) [] none).run = some (r, H')) : Awp impl_oneRoot_ctx LL (bodyOf Try.f28) impl_oneRoot_an ⟨mkE 27 0 [(0, dL x1154)], []⟩ (Ret (tlook tys) Try.f28.results.toList r H') :=
  ret_of' (Link.cast (by kernel_rfl) (by kernel_rfl) (impl_oneRoot_n9_l x1154)) (by unfold impl_oneRoot; kernel_rfl) (by
  intro t
  exact ret_mk [dB t] (by kernel_rfl) (by kernel_rfl) (by kernel_rfl) (by kernel_rfl)) h

def F_impl_oneRoot : Fun := fun avs H =>
  match avs, H with
  | [.dat (.list (.int .i64)) x1154], [] => ⟨_, impl_oneRoot x1154, fun (t : Bool) => (dB t, []), [], none⟩
  | _, _ => Ans.no

theorem impl_oneRoot_sound : Sound Try.prog 28 F_impl_oneRoot := by
  refine fn_sound' (C := impl_oneRoot_ctx) (c := bodyOf Try.f28) (cok_of tys_ok (alln) (alln) (by kernel_rfl)) Try.func28 (by kernel_rfl) LL impl_oneRoot_an ?_
  intro avs H r H' h
  unfold F_impl_oneRoot at h
  split at h
  · refine Awp.cast ?_ ?_ ?_ (impl_oneRoot_e _ h) <;> kernel_rfl
  · simp [Ans.no, Ans.run] at h


/-! (*loop.example/headtrees/impl.walker).up -/

def impl_walker_up_an : Ann := (.seq (.leaf [0]) (.seq (.draw [] [0, 1, 2, 3, 4, 5, 6, 7, 8, 9, 10, 11] [] [0, 3]) (.seq (.seq (.leaf [0, 3, 16]) (.cond (.seq (.leaf [2]) (.leaf [2])) (.leaf [0, 3]))) (.seq (.leaf [0]) (.seq (.leaf []) (.seq (.leaf [2]) (.leaf [2])))))))

noncomputable def impl_walker_up_ctx : Ctx := ⟨tlook tys, olook [], ioF, 1, false, []⟩

theorem impl_walker_up_n1_l (x1210 : List Int) (x1211 : Int) (x1212 : Int) : Link impl_walker_up_ctx LL (bodyOf Try.f31) impl_walker_up_an ⟨mkE 28 0 [(0, .ptr 0 0)], [some (.box [dL x1210, dI x1211, dI x1212])]⟩ (impl_walker_up_n1 x1210 x1211 x1212) (fun (t : Bool × Int × Int) => (Exit.ret, ⟨mkE 28 0 [(2, dB t.1)], [some (.box [dL x1210, dI t.2.1, dI t.2.2])]⟩)) := .of fun K h => by
  simp only [impl_walker_up_n1, wpW] at h
  exact .of (by kernel_rfl) h

theorem impl_walker_up_e (x1210 : List Int) (x1211 : Int) (x1212 : Int) {r : AV} {H' : Heap} (h : (Ans.mk _ (impl_walker_up x1210 x1211 x1212) (fun (t : Bool × Int × Int) => (dB t.1, [some (.box [dL x1210, dI t.2.1, dI t.2.2])])) [] none).run = some (r, H')) : Awp impl_walker_up_ctx LL (bodyOf Try.f31) impl_walker_up_an ⟨mkE 28 0 [(0, .ptr 0 0)], [some (.box [dL x1210, dI x1211, dI x1212])]⟩ (Ret (tlook tys) Try.f31.results.toList r H') :=
  ret_of' (impl_walker_up_n1_l x1210 x1211 x1212) (by unfold impl_walker_up; kernel_rfl) (by
  intro t
  exact ret_mk [dB t.1] (by kernel_rfl) (by kernel_rfl) (by kernel_rfl) (by kernel_rfl)) h

def F_impl_walker_up : Fun := fun avs H =>
  match avs, H with
  | [.ptr 0 0], [some (.box [.dat (.list (.int .i64)) x1210, .dat (.int .i64) x1211, .dat (.int .i64) x1212])] => ⟨_, impl_walker_up x1210 x1211 x1212, fun (t : Bool × Int × Int) => (dB t.1, [some (.box [dL x1210, dI t.2.1, dI t.2.2])]), [], none⟩
  | _, _ => Ans.no

theorem impl_walker_up_sound : Sound Try.prog 31 F_impl_walker_up := by
  refine fn_sound' (C := impl_walker_up_ctx) (c := bodyOf Try.f31) (cok_of tys_ok (alln) (alln) (by kernel_rfl)) Try.func31 (by kernel_rfl) LL impl_walker_up_an ?_
  intro avs H r H' h
  unfold F_impl_walker_up at h
  split at h
  · refine Awp.cast ?_ ?_ ?_ (impl_walker_up_e _ _ _ h) <;> kernel_rfl
  · simp [Ans.no, Ans.run] at h


/-! loop.example/headtrees/impl.stepsToRoot -/

def impl_stepsToRoot_an : Ann := (.seq (.leaf [0, 1]) (.seq (.leaf [0, 6]) (.seq (.block (.loop (.seq (.seq (.leaf [0, 6, 10]) (.cond (.leaf [0, 6]) (.leaf [6]))) (.block (.seq (.leaf [0, 6, 15]) (.cond (.seq (.leaf [4, 5]) (.leaf [4, 5])) (.leaf [0, 6]))))))) (.seq (.leaf [4, 5]) (.leaf [4, 5])))))

noncomputable def impl_stepsToRoot_ctx : Ctx := ⟨tlook tys, olook [(31, F_impl_walker_up)], ioF, 0, false, []⟩

theorem impl_stepsToRoot_n1_l (x1208 : List Int) (x1209 : Int) : Link impl_stepsToRoot_ctx LL (Code.seq (cq [0] (bodyOf Try.f29)) (cq [0,1] (bodyOf Try.f29))) (Ann.seq (aq [0] impl_stepsToRoot_an) (aq [0,1] impl_stepsToRoot_an)) ⟨mkE 18 0 [(0, dL x1208), (1, dI x1209)], []⟩ (impl_stepsToRoot_n1) (fun (t : Unit) => (Exit.normal, ⟨mkE 18 0 [(0, dL x1208), (6, .ptr 0 0)], [some (.box [dL x1208, dI x1209, dI 0])]⟩)) := .of fun K h => by
  simp only [impl_stepsToRoot_n1, wpW] at h
  exact .of (by kernel_rfl) h

theorem impl_stepsToRoot_n2_l (x1208 : List Int) (x1246 : Int) (x1247 : Int) : Link impl_stepsToRoot_ctx LL (cq [0,0,0,1,1] (bodyOf Try.f29)) (aq [0,0,0,1,1] impl_stepsToRoot_an) ⟨mkE 18 0 [(0, dL x1208), (6, .ptr 0 0)], [some (.box [dL x1208, dI x1246, dI x1247])]⟩ (impl_stepsToRoot_n2 x1208 x1246 x1247) (Sum.elim (fun (t : Int × Int) => (Exit.normal, ⟨mkE 18 0 [(0, dL x1208), (6, .ptr 0 0)], [some (.box [dL x1208, dI t.1, dI t.2])]⟩)) (Sum.elim (fun (t : Int × Bool) => (Exit.ret, ⟨mkE 18 0 [(4, dI t.1), (5, dB t.2)], []⟩)) (fun (t : Int × Int) => ((Exit.exit 0), ⟨mkE 18 0 [(6, .ptr 0 0)], [some (.box [dL x1208, dI t.1, dI t.2])]⟩)))) := .of fun K h => by
  simp only [impl_stepsToRoot_n2, wpW] at h
  exact .of (by kernel_rfl) h

def impl_stepsToRoot_n3_l (x1208 : List Int) (x1209 : Int) := (link_loop (mk := fun (s : Int × Int) => ⟨mkE 18 0 [(0, dL x1208), (6, .ptr 0 0)], [some (.box [dL x1208, dI s.1, dI s.2])]⟩) (fin := (Sum.elim (fun (t : Int × Bool) => (Exit.ret, ⟨mkE 18 0 [(4, dI t.1), (5, dB t.2)], []⟩)) (fun (t : Int × Int) => ((Exit.exit 0), ⟨mkE 18 0 [(6, .ptr 0 0)], [some (.box [dL x1208, dI t.1, dI t.2])]⟩)))) (by
  rintro (t | t) f K h
  · exact h
  · exact h) (fun s => link_map (impl_stepsToRoot_n2_l x1208 s.1 s.2) (Sum.elim (fun (t : Int × Int) => Sum.inl (t.1, t.2)) (Sum.elim (fun (t : Int × Bool) => Sum.inr (Sum.inl t)) (fun (t : Int × Int) => Sum.inr (Sum.inr t)))) (by
  rintro (t | t | t)
  · kernel_rfl
  · kernel_rfl
  · kernel_rfl)) (x1209, 0))

def impl_stepsToRoot_n4_l (x1208 : List Int) (x1209 : Int) := (link_block (fin2 := (Sum.elim (fun (t : Int × Int) => (Exit.normal, ⟨mkE 18 0 [(6, .ptr 0 0)], [some (.box [dL x1208, dI t.1, dI t.2])]⟩)) (fun (t : Int × Bool) => (Exit.ret, ⟨mkE 18 0 [(4, dI t.1), (5, dB t.2)], []⟩)))) (id := 0) (impl_stepsToRoot_n3_l x1208 x1209) (Sum.elim (fun (t : Int × Bool) => (Sum.inr t)) (fun (t : Int × Int) => (Sum.inl (t.1, t.2)))) (by
  rintro (t | t) K h
  · exact Eq.mp (by kernel_rfl) h
  · exact Eq.mp (by kernel_rfl) h))

theorem impl_stepsToRoot_n5_l (x1208 : List Int) (x1254 : Int) (x1255 : Int) : Link impl_stepsToRoot_ctx LL (cq [1,1,1] (bodyOf Try.f29)) (aq [1,1,1] impl_stepsToRoot_an) ⟨mkE 18 0 [(6, .ptr 0 0)], [some (.box [dL x1208, dI x1254, dI x1255])]⟩ (impl_stepsToRoot_n5 x1255) (fun (t : Int × Bool) => (Exit.ret, ⟨mkE 18 0 [(4, dI t.1), (5, dB t.2)], []⟩)) := .of fun K h => by
  simp only [impl_stepsToRoot_n5, wpW] at h
  exact .of (by kernel_rfl) h

def impl_stepsToRoot_n6_l (x1208 : List Int) (x1209 : Int) := (link_seq2 (impl_stepsToRoot_n4_l x1208 x1209) (fun (t : Int × Int) => (impl_stepsToRoot_n5_l x1208 t.1 t.2)) (fun (t : Int × Bool) => t) (by
  rintro t
  · kernel_rfl) (by
  rintro t f K h
  · exact h))

def impl_stepsToRoot_n7_l (x1208 : List Int) (x1209 : Int) := (link_group (c := (cq [0,1] (bodyOf Try.f29))) (a := (aq [0,1] impl_stepsToRoot_an)) [(cq [0] (bodyOf Try.f29))] [(aq [0] impl_stepsToRoot_an)] rfl (link_seq (impl_stepsToRoot_n1_l x1208 x1209) (fun (t : Unit) => (impl_stepsToRoot_n6_l x1208 x1209))))

theorem impl_stepsToRoot_e (x1208 : List Int) (x1209 : Int) {r : AV} {H' : Heap} (h : (Ans.mk _ (impl_stepsToRoot x1208 x1209) (fun (t : Int × Bool) => (.tup [dI t.1, dB t.2], [])) [] none).run = some (r, H')) : Awp impl_stepsToRoot_ctx LL (bodyOf Try.f29) impl_stepsToRoot_an ⟨mkE 18 0 [(0, dL x1208), (1, dI x1209)], []⟩ (Ret (tlook tys) Try.f29.results.toList r H') :=
  ret_of' (Link.cast (by kernel_rfl) (by kernel_rfl) (impl_stepsToRoot_n7_l x1208 x1209)) (by unfold impl_stepsToRoot; kernel_rfl) (by
  intro t
  exact ret_mk [dI t.1, dB t.2] (by kernel_rfl) (by kernel_rfl) (by kernel_rfl) (by kernel_rfl)) h

def F_impl_stepsToRoot : Fun := fun avs H =>
  match avs, H with
  | [.dat (.list (.int .i64)) x1208, .dat (.int .i64) x1209], [] => ⟨_, impl_stepsToRoot x1208 x1209, fun (t : Int × Bool) => (.tup [dI t.1, dB t.2], []), [], none⟩
  | _, _ => Ans.no

theorem impl_stepsToRoot_sound : Sound Try.prog 29 F_impl_stepsToRoot := by
  refine fn_sound' (C := impl_stepsToRoot_ctx) (c := bodyOf Try.f29) (cok_of tys_ok (allc impl_walker_up_sound alln) (allc Try.call31 alln) (by kernel_rfl)) Try.func29 (by kernel_rfl) LL impl_stepsToRoot_an ?_
  intro avs H r H' h
  unfold F_impl_stepsToRoot at h
  split at h
  · refine Awp.cast ?_ ?_ ?_ (impl_stepsToRoot_e _ _ h) <;> kernel_rfl
  · simp [Ans.no, Ans.run] at h


/-! loop.example/headtrees/impl.TreeOk -/

def impl_TreeOk_an : Ann := (.seq (.leaf [0]) (.seq (.seq (.leaf [0, 18]) (.cond (.seq (.leaf [2]) (.leaf [2])) (.leaf [0]))) (.seq (.seq (.leaf [0, 20, 21]) (.block (.loop (.seq (.leaf [0, 20, 21, 22]) (.seq (.cond (.leaf [0, 20, 21]) (.leaf [])) (.seq (.block (.seq (.leaf [0, 3, 20, 21]) (.seq (.leaf [0, 5, 20, 21]) (.seq (.leaf [0, 20, 21, 32]) (.cond (.seq (.leaf [2]) (.leaf [2])) (.leaf [0, 20, 21])))))) (.leaf [0, 20, 21]))))))) (.seq (.leaf [2]) (.leaf [2])))))

noncomputable def impl_TreeOk_ctx : Ctx := ⟨tlook tys, olook [(28, F_impl_oneRoot), (29, F_impl_stepsToRoot)], ioF, 0, false, []⟩

theorem impl_TreeOk_n1_l (x1149 : List Int) : Link impl_TreeOk_ctx LL (Code.seq (cq [0] (bodyOf Try.f21)) (cq [0,1] (bodyOf Try.f21))) (Ann.seq (aq [0] impl_TreeOk_an) (aq [0,1] impl_TreeOk_an)) ⟨mkE 34 0 [(0, dL x1149)], []⟩ (impl_TreeOk_n1 x1149) (Sum.elim (fun (t : Unit) => (Exit.normal, ⟨mkE 34 0 [(0, dL x1149)], []⟩)) (fun (t : Bool) => (Exit.ret, ⟨mkE 34 0 [(2, dB t)], []⟩))) := .of fun K h => by
  simp only [impl_TreeOk_n1, wpW] at h
  exact .of (by kernel_rfl) h

theorem impl_TreeOk_n2_l (x1149 : List Int) : Link impl_TreeOk_ctx LL (cq [0,0,1,1] (bodyOf Try.f21)) (aq [0,0,1,1] impl_TreeOk_an) ⟨mkE 34 0 [(0, dL x1149)], []⟩ (impl_TreeOk_n2 x1149) (fun (t : Int) => (Exit.normal, ⟨mkE 34 0 [(0, dL x1149), (20, dI t), (21, dI 0)], []⟩)) := .of fun K h => by
  simp only [impl_TreeOk_n2, wpW] at h
  exact .of (by kernel_rfl) h

theorem impl_TreeOk_n3_l (x1149 : List Int) (x1203 : Int) (x1271 : Int) : Link impl_TreeOk_ctx LL (cq [0,0,1,0,1,1] (bodyOf Try.f21)) (aq [0,0,1,0,1,1] impl_TreeOk_an) ⟨mkE 34 0 [(0, dL x1149), (20, dI x1203), (21, dI x1271)], []⟩ (impl_TreeOk_n3 x1149 x1203 x1271) (Sum.elim (fun (t : Int) => (Exit.normal, ⟨mkE 34 0 [(0, dL x1149), (20, dI x1203), (21, dI t)], []⟩)) (Sum.elim (fun (t : Bool) => (Exit.ret, ⟨mkE 34 0 [(2, dB t)], []⟩)) (fun (t : Unit) => ((Exit.exit 0), ⟨mkE 34 0 [], []⟩)))) := .of fun K h => by
  simp only [impl_TreeOk_n3, wpW] at h
  exact .of (by kernel_rfl) h

def impl_TreeOk_n4_l (x1149 : List Int) (x1203 : Int) := (link_loop (mk := fun (s : Int) => ⟨mkE 34 0 [(0, dL x1149), (20, dI x1203), (21, dI s)], []⟩) (fin := (Sum.elim (fun (t : Bool) => (Exit.ret, ⟨mkE 34 0 [(2, dB t)], []⟩)) (fun (t : Unit) => ((Exit.exit 0), ⟨mkE 34 0 [], []⟩)))) (by
  rintro (t | t) f K h
  · exact h
  · exact h) (fun s => link_map (impl_TreeOk_n3_l x1149 x1203 s) (Sum.elim (fun (t : Int) => Sum.inl t) (Sum.elim (fun (t : Bool) => Sum.inr (Sum.inl t)) (fun (t : Unit) => Sum.inr (Sum.inr t)))) (by
  rintro (t | t | t)
  · kernel_rfl
  · kernel_rfl
  · kernel_rfl)) 0)

def impl_TreeOk_n5_l (x1149 : List Int) (x1203 : Int) := (link_block (fin2 := (Sum.elim (fun (t : Unit) => (Exit.normal, ⟨mkE 34 0 [], []⟩)) (fun (t : Bool) => (Exit.ret, ⟨mkE 34 0 [(2, dB t)], []⟩)))) (id := 0) (impl_TreeOk_n4_l x1149 x1203) (Sum.elim (fun (t : Bool) => (Sum.inr t)) (fun (t : Unit) => (Sum.inl ()))) (by
  rintro (t | t) K h
  · exact Eq.mp (by kernel_rfl) h
  · exact Eq.mp (by kernel_rfl) h))

def impl_TreeOk_n6_l (x1149 : List Int) := (link_seq (impl_TreeOk_n2_l x1149) (fun (t : Int) => (impl_TreeOk_n5_l x1149 t)))

theorem impl_TreeOk_n7_l : Link impl_TreeOk_ctx LL (cq [1,1,1] (bodyOf Try.f21)) (aq [1,1,1] impl_TreeOk_an) ⟨mkE 34 0 [], []⟩ (impl_TreeOk_n7) (fun (t : Bool) => (Exit.ret, ⟨mkE 34 0 [(2, dB t)], []⟩)) := .of fun K h => by
  simp only [impl_TreeOk_n7, wpW] at h
  exact .of (by kernel_rfl) h

def impl_TreeOk_n8_l (x1149 : List Int) := (link_seq2 (impl_TreeOk_n6_l x1149) (fun (t : Unit) => (impl_TreeOk_n7_l)) (fun (t : Bool) => t) (by
  rintro t
  · kernel_rfl) (by
  rintro t f K h
  · exact h))

def impl_TreeOk_n9_l (x1149 : List Int) := (link_group (c := (cq [0,1] (bodyOf Try.f21))) (a := (aq [0,1] impl_TreeOk_an)) [(cq [0] (bodyOf Try.f21))] [(aq [0] impl_TreeOk_an)] rfl (link_seq2 (impl_TreeOk_n1_l x1149) (fun (t : Unit) => (impl_TreeOk_n8_l x1149)) (fun (t : Bool) => t) (by
  rintro t
  · kernel_rfl) (by
  rintro t f K h
  · exact h)))

theorem impl_TreeOk_e (x1149 : List Int) {r : AV} {H' : Heap} (h : (Ans.mk _ (impl_TreeOk x1149) (fun (t : Bool) => (dB t, [])) [] none).run = some (r, H')) : Awp impl_TreeOk_ctx LL (bodyOf Try.f21) impl_TreeOk_an ⟨mkE 34 0 [(0, dL x1149)], []⟩ (Ret (tlook tys) Try.f21.results.toList r H') :=
  ret_of' (Link.cast (by kernel_rfl) (by kernel_rfl) (impl_TreeOk_n9_l x1149)) (by unfold impl_TreeOk; kernel_rfl) (by
  intro t
  exact ret_mk [dB t] (by kernel_rfl) (by kernel_rfl) (by kernel_rfl) (by kernel_rfl)) h

def F_impl_TreeOk : Fun := fun avs H =>
  match avs, H with
  | [.dat (.list (.int .i64)) x1149], [] => ⟨_, impl_TreeOk x1149, fun (t : Bool) => (dB t, []), [], none⟩
  | _, _ => Ans.no

theorem impl_TreeOk_sound : Sound Try.prog 21 F_impl_TreeOk := by
  refine fn_sound' (C := impl_TreeOk_ctx) (c := bodyOf Try.f21) (cok_of tys_ok (allc impl_oneRoot_sound (allc impl_stepsToRoot_sound alln)) (allc Try.call28 (allc Try.call29 alln)) (by kernel_rfl)) Try.func21 (by kernel_rfl) LL impl_TreeOk_an ?_
  intro avs H r H' h
  unfold F_impl_TreeOk at h
  split at h
  · refine Awp.cast ?_ ?_ ?_ (impl_TreeOk_e _ h) <;> kernel_rfl
  · simp [Ans.no, Ans.run] at h


/-! loop.example/headtrees/impl.DeskOk -/

def impl_DeskOk_an : Ann := (.seq (.leaf [1]) (.seq (.seq (.leaf [1, 14]) (.cond (.seq (.leaf [2]) (.leaf [2])) (.leaf [1]))) (.seq (.seq (.leaf [16, 17, 18]) (.block (.loop (.seq (.leaf [16, 17, 18, 19]) (.seq (.cond (.leaf [16, 17, 18]) (.leaf [])) (.seq (.block (.seq (.leaf [4, 16, 17, 18]) (.seq (.leaf [16, 17, 18, 24]) (.cond (.seq (.leaf [2]) (.leaf [2])) (.leaf [16, 17, 18]))))) (.leaf [16, 17, 18]))))))) (.seq (.leaf [2]) (.leaf [2])))))

noncomputable def impl_DeskOk_ctx : Ctx := ⟨tlook tys, olook [(21, F_impl_TreeOk)], ioF, 0, false, []⟩

theorem impl_DeskOk_n1_l (x1147 : List Int) (x1148 : List (List Int)) : Link impl_DeskOk_ctx LL (Code.seq (cq [0] (bodyOf Try.f8)) (cq [0,1] (bodyOf Try.f8))) (Ann.seq (aq [0] impl_DeskOk_an) (aq [0,1] impl_DeskOk_an)) ⟨mkE 26 0 [(0, .agg [dL x1147, .dat (.list (.list (.int .i64))) x1148])], []⟩ (impl_DeskOk_n1 x1147 x1148) (Sum.elim (fun (t : Unit) => (Exit.normal, ⟨mkE 26 0 [(1, .ptr 0 0)], [some (.box [dL x1147, .dat (.list (.list (.int .i64))) x1148])]⟩)) (fun (t : Bool) => (Exit.ret, ⟨mkE 26 0 [(2, dB t)], []⟩))) := .of fun K h => by
  simp only [impl_DeskOk_n1, wpW] at h
  exact .of (by kernel_rfl) h

theorem impl_DeskOk_n2_l (x1147 : List Int) (x1148 : List (List Int)) : Link impl_DeskOk_ctx LL (cq [0,0,1,1] (bodyOf Try.f8)) (aq [0,0,1,1] impl_DeskOk_an) ⟨mkE 26 0 [(1, .ptr 0 0)], [some (.box [dL x1147, .dat (.list (.list (.int .i64))) x1148])]⟩ (impl_DeskOk_n2 x1148) (fun (t : Int) => (Exit.normal, ⟨mkE 26 0 [(16, .dat (.list (.list (.int .i64))) x1148), (17, dI t), (18, dI 0)], []⟩)) := .of fun K h => by
  simp only [impl_DeskOk_n2, wpW] at h
  exact .of (by kernel_rfl) h

theorem impl_DeskOk_n3_l (x1148 : List (List Int)) (x1292 : Int) (x1304 : Int) : Link impl_DeskOk_ctx LL (cq [0,0,1,0,1,1] (bodyOf Try.f8)) (aq [0,0,1,0,1,1] impl_DeskOk_an) ⟨mkE 26 0 [(16, .dat (.list (.list (.int .i64))) x1148), (17, dI x1292), (18, dI x1304)], []⟩ (impl_DeskOk_n3 x1148 x1292 x1304) (Sum.elim (fun (t : Int) => (Exit.normal, ⟨mkE 26 0 [(16, .dat (.list (.list (.int .i64))) x1148), (17, dI x1292), (18, dI t)], []⟩)) (Sum.elim (fun (t : Bool) => (Exit.ret, ⟨mkE 26 0 [(2, dB t)], []⟩)) (fun (t : Unit) => ((Exit.exit 0), ⟨mkE 26 0 [], []⟩)))) := .of fun K h => by
  simp only [impl_DeskOk_n3, wpW] at h
  exact .of (by kernel_rfl) h

def impl_DeskOk_n4_l (x1148 : List (List Int)) (x1292 : Int) := (link_loop (mk := fun (s : Int) => ⟨mkE 26 0 [(16, .dat (.list (.list (.int .i64))) x1148), (17, dI x1292), (18, dI s)], []⟩) (fin := (Sum.elim (fun (t : Bool) => (Exit.ret, ⟨mkE 26 0 [(2, dB t)], []⟩)) (fun (t : Unit) => ((Exit.exit 0), ⟨mkE 26 0 [], []⟩)))) (by
  rintro (t | t) f K h
  · exact h
  · exact h) (fun s => link_map (impl_DeskOk_n3_l x1148 x1292 s) (Sum.elim (fun (t : Int) => Sum.inl t) (Sum.elim (fun (t : Bool) => Sum.inr (Sum.inl t)) (fun (t : Unit) => Sum.inr (Sum.inr t)))) (by
  rintro (t | t | t)
  · kernel_rfl
  · kernel_rfl
  · kernel_rfl)) 0)

def impl_DeskOk_n5_l (x1148 : List (List Int)) (x1292 : Int) := (link_block (fin2 := (Sum.elim (fun (t : Unit) => (Exit.normal, ⟨mkE 26 0 [], []⟩)) (fun (t : Bool) => (Exit.ret, ⟨mkE 26 0 [(2, dB t)], []⟩)))) (id := 0) (impl_DeskOk_n4_l x1148 x1292) (Sum.elim (fun (t : Bool) => (Sum.inr t)) (fun (t : Unit) => (Sum.inl ()))) (by
  rintro (t | t) K h
  · exact Eq.mp (by kernel_rfl) h
  · exact Eq.mp (by kernel_rfl) h))

def impl_DeskOk_n6_l (x1147 : List Int) (x1148 : List (List Int)) := (link_seq (impl_DeskOk_n2_l x1147 x1148) (fun (t : Int) => (impl_DeskOk_n5_l x1148 t)))

theorem impl_DeskOk_n7_l : Link impl_DeskOk_ctx LL (cq [1,1,1] (bodyOf Try.f8)) (aq [1,1,1] impl_DeskOk_an) ⟨mkE 26 0 [], []⟩ (impl_DeskOk_n7) (fun (t : Bool) => (Exit.ret, ⟨mkE 26 0 [(2, dB t)], []⟩)) := .of fun K h => by
  simp only [impl_DeskOk_n7, wpW] at h
  exact .of (by kernel_rfl) h

def impl_DeskOk_n8_l (x1147 : List Int) (x1148 : List (List Int)) := (link_seq2 (impl_DeskOk_n6_l x1147 x1148) (fun (t : Unit) => (impl_DeskOk_n7_l)) (fun (t : Bool) => t) (by
  rintro t
  · kernel_rfl) (by
  rintro t f K h
  · exact h))

def impl_DeskOk_n9_l (x1147 : List Int) (x1148 : List (List Int)) := (link_group (c := (cq [0,1] (bodyOf Try.f8))) (a := (aq [0,1] impl_DeskOk_an)) [(cq [0] (bodyOf Try.f8))] [(aq [0] impl_DeskOk_an)] rfl (link_seq2 (impl_DeskOk_n1_l x1147 x1148) (fun (t : Unit) => (impl_DeskOk_n8_l x1147 x1148)) (fun (t : Bool) => t) (by
  rintro t
  · kernel_rfl) (by
  rintro t f K h
  · exact h)))

theorem impl_DeskOk_e (x1147 : List Int) (x1148 : List (List Int)) {r : AV} {H' : Heap} (h : (Ans.mk _ (impl_DeskOk x1147 x1148) (fun (t : Bool) => (dB t, [])) [] none).run = some (r, H')) : Awp impl_DeskOk_ctx LL (bodyOf Try.f8) impl_DeskOk_an ⟨mkE 26 0 [(0, .agg [dL x1147, .dat (.list (.list (.int .i64))) x1148])], []⟩ (Ret (tlook tys) Try.f8.results.toList r H') :=
  ret_of' (Link.cast (by kernel_rfl) (by kernel_rfl) (impl_DeskOk_n9_l x1147 x1148)) (by unfold impl_DeskOk; kernel_rfl) (by
  intro t
  exact ret_mk [dB t] (by kernel_rfl) (by kernel_rfl) (by kernel_rfl) (by kernel_rfl)) h

def F_impl_DeskOk : Fun := fun avs H =>
  match avs, H with
  | [.agg [.dat (.list (.int .i64)) x1147, .dat (.list (.list (.int .i64))) x1148]], [] => ⟨_, impl_DeskOk x1147 x1148, fun (t : Bool) => (dB t, []), [], none⟩
  | _, _ => Ans.no

theorem impl_DeskOk_sound : Sound Try.prog 8 F_impl_DeskOk := by
  refine fn_sound' (C := impl_DeskOk_ctx) (c := bodyOf Try.f8) (cok_of tys_ok (allc impl_TreeOk_sound alln) (allc Try.call21 alln) (by kernel_rfl)) Try.func8 (by kernel_rfl) LL impl_DeskOk_an ?_
  intro avs H r H' h
  unfold F_impl_DeskOk at h
  split at h
  · refine Awp.cast ?_ ?_ ?_ (impl_DeskOk_e _ _ h) <;> kernel_rfl
  · simp [Ans.no, Ans.run] at h


/-! loop.example/headtrees/laws.eqIntS -/

def laws_eqIntS_an : Ann := (.seq (.leaf [0, 1]) (.seq (.seq (.leaf [0, 1, 10]) (.cond (.seq (.leaf [4]) (.leaf [4])) (.leaf [0, 1]))) (.seq (.seq (.leaf [0, 1, 5]) (.block (.loop (.seq (.seq (.leaf [0, 1, 5, 14]) (.cond (.leaf [0, 1, 5]) (.leaf []))) (.seq (.block (.seq (.draw [] [0, 1, 2, 3, 4, 5, 6, 7, 8] [] [0, 1, 5, 25]) (.cond (.seq (.leaf [4]) (.leaf [4])) (.leaf [0, 1, 5])))) (.leaf [0, 1, 5])))))) (.seq (.leaf [4]) (.leaf [4])))))

noncomputable def laws_eqIntS_ctx : Ctx := ⟨tlook tys, olook [], ioF, 0, false, []⟩

theorem laws_eqIntS_n1_l (x1347 : List Int) (x1348 : List Int) : Link laws_eqIntS_ctx LL (Code.seq (cq [0] (bodyOf Try.f13)) (cq [0,1] (bodyOf Try.f13))) (Ann.seq (aq [0] laws_eqIntS_an) (aq [0,1] laws_eqIntS_an)) ⟨mkE 26 0 [(0, dL x1347), (1, dL x1348)], []⟩ (laws_eqIntS_n1 x1347 x1348) (Sum.elim (fun (t : Unit) => (Exit.normal, ⟨mkE 26 0 [(0, dL x1347), (1, dL x1348)], []⟩)) (fun (t : Bool) => (Exit.ret, ⟨mkE 26 0 [(4, dB t)], []⟩))) := .of fun K h => by
  simp only [laws_eqIntS_n1, wpW] at h
  exact .of (by kernel_rfl) h

theorem laws_eqIntS_n2_l (x1347 : List Int) (x1348 : List Int) : Link laws_eqIntS_ctx LL (cq [0,0,1,1] (bodyOf Try.f13)) (aq [0,0,1,1] laws_eqIntS_an) ⟨mkE 26 0 [(0, dL x1347), (1, dL x1348)], []⟩ (laws_eqIntS_n2) (fun (t : Unit) => (Exit.normal, ⟨mkE 26 0 [(0, dL x1347), (1, dL x1348), (5, dI 0)], []⟩)) := .of fun K h => by
  simp only [laws_eqIntS_n2, wpW] at h
  exact .of (by kernel_rfl) h

theorem laws_eqIntS_n3_l (x1347 : List Int) (x1348 : List Int) (x1365 : Int) : Link laws_eqIntS_ctx LL (cq [0,0,1,0,1,1] (bodyOf Try.f13)) (aq [0,0,1,0,1,1] laws_eqIntS_an) ⟨mkE 26 0 [(0, dL x1347), (1, dL x1348), (5, dI x1365)], []⟩ (laws_eqIntS_n3 x1347 x1348 x1365) (Sum.elim (fun (t : Int) => (Exit.normal, ⟨mkE 26 0 [(0, dL x1347), (1, dL x1348), (5, dI t)], []⟩)) (Sum.elim (fun (t : Bool) => (Exit.ret, ⟨mkE 26 0 [(4, dB t)], []⟩)) (fun (t : Unit) => ((Exit.exit 0), ⟨mkE 26 0 [], []⟩)))) := .of fun K h => by
  simp only [laws_eqIntS_n3, wpW] at h
  exact .of (by kernel_rfl) h

def laws_eqIntS_n4_l (x1347 : List Int) (x1348 : List Int) := (link_loop (mk := fun (s : Int) => ⟨mkE 26 0 [(0, dL x1347), (1, dL x1348), (5, dI s)], []⟩) (fin := (Sum.elim (fun (t : Bool) => (Exit.ret, ⟨mkE 26 0 [(4, dB t)], []⟩)) (fun (t : Unit) => ((Exit.exit 0), ⟨mkE 26 0 [], []⟩)))) (by
  rintro (t | t) f K h
  · exact h
  · exact h) (fun s => link_map (laws_eqIntS_n3_l x1347 x1348 s) (Sum.elim (fun (t : Int) => Sum.inl t) (Sum.elim (fun (t : Bool) => Sum.inr (Sum.inl t)) (fun (t : Unit) => Sum.inr (Sum.inr t)))) (by
  rintro (t | t | t)
  · kernel_rfl
  · kernel_rfl
  · kernel_rfl)) 0)

def laws_eqIntS_n5_l (x1347 : List Int) (x1348 : List Int) := (link_block (fin2 := (Sum.elim (fun (t : Unit) => (Exit.normal, ⟨mkE 26 0 [], []⟩)) (fun (t : Bool) => (Exit.ret, ⟨mkE 26 0 [(4, dB t)], []⟩)))) (id := 0) (laws_eqIntS_n4_l x1347 x1348) (Sum.elim (fun (t : Bool) => (Sum.inr t)) (fun (t : Unit) => (Sum.inl ()))) (by
  rintro (t | t) K h
  · exact Eq.mp (by kernel_rfl) h
  · exact Eq.mp (by kernel_rfl) h))

def laws_eqIntS_n6_l (x1347 : List Int) (x1348 : List Int) := (link_seq (laws_eqIntS_n2_l x1347 x1348) (fun (t : Unit) => (laws_eqIntS_n5_l x1347 x1348)))

theorem laws_eqIntS_n7_l : Link laws_eqIntS_ctx LL (cq [1,1,1] (bodyOf Try.f13)) (aq [1,1,1] laws_eqIntS_an) ⟨mkE 26 0 [], []⟩ (laws_eqIntS_n7) (fun (t : Bool) => (Exit.ret, ⟨mkE 26 0 [(4, dB t)], []⟩)) := .of fun K h => by
  simp only [laws_eqIntS_n7, wpW] at h
  exact .of (by kernel_rfl) h

def laws_eqIntS_n8_l (x1347 : List Int) (x1348 : List Int) := (link_seq2 (laws_eqIntS_n6_l x1347 x1348) (fun (t : Unit) => (laws_eqIntS_n7_l)) (fun (t : Bool) => t) (by
  rintro t
  · kernel_rfl) (by
  rintro t f K h
  · exact h))

def laws_eqIntS_n9_l (x1347 : List Int) (x1348 : List Int) := (link_group (c := (cq [0,1] (bodyOf Try.f13))) (a := (aq [0,1] laws_eqIntS_an)) [(cq [0] (bodyOf Try.f13))] [(aq [0] laws_eqIntS_an)] rfl (link_seq2 (laws_eqIntS_n1_l x1347 x1348) (fun (t : Unit) => (laws_eqIntS_n8_l x1347 x1348)) (fun (t : Bool) => t) (by
  rintro t
  · kernel_rfl) (by
  rintro t f K h
  · exact h)))

theorem laws_eqIntS_e (x1347 : List Int) (x1348 : List Int) {r : AV} {H' : Heap} (h : (Ans.mk _ (laws_eqIntS x1347 x1348) (fun (t : Bool) => (dB t, [])) [] none).run = some (r, H')) : Awp laws_eqIntS_ctx LL (bodyOf Try.f13) laws_eqIntS_an ⟨mkE 26 0 [(0, dL x1347), (1, dL x1348)], []⟩ (Ret (tlook tys) Try.f13.results.toList r H') :=
  ret_of' (Link.cast (by kernel_rfl) (by kernel_rfl) (laws_eqIntS_n9_l x1347 x1348)) (by unfold laws_eqIntS; kernel_rfl) (by
  intro t
  exact ret_mk [dB t] (by kernel_rfl) (by kernel_rfl) (by kernel_rfl) (by kernel_rfl)) h

def F_laws_eqIntS : Fun := fun avs H =>
  match avs, H with
  | [.dat (.list (.int .i64)) x1347, .dat (.list (.int .i64)) x1348], [] => ⟨_, laws_eqIntS x1347 x1348, fun (t : Bool) => (dB t, []), [], none⟩
  | _, _ => Ans.no

theorem laws_eqIntS_sound : Sound Try.prog 13 F_laws_eqIntS := by
  refine fn_sound' (C := laws_eqIntS_ctx) (c := bodyOf Try.f13) (cok_of tys_ok (alln) (alln) (by kernel_rfl)) Try.func13 (by kernel_rfl) LL laws_eqIntS_an ?_
  intro avs H r H' h
  unfold F_laws_eqIntS at h
  split at h
  · refine Awp.cast ?_ ?_ ?_ (laws_eqIntS_e _ _ h) <;> kernel_rfl
  · simp [Ans.no, Ans.run] at h


/-! loop.example/headtrees/laws.eqIntSS -/

def laws_eqIntSS_an : Ann := (.seq (.leaf [0, 1]) (.seq (.seq (.leaf [0, 1, 10]) (.cond (.seq (.leaf [4]) (.leaf [4])) (.leaf [0, 1]))) (.seq (.seq (.leaf [0, 1, 5]) (.block (.loop (.seq (.seq (.leaf [0, 1, 5, 14]) (.cond (.leaf [0, 1, 5]) (.leaf []))) (.seq (.block (.seq (.draw [8] [0, 1, 2, 3, 4, 5, 6, 7, 8, 9] [] [0, 1, 5, 26]) (.cond (.seq (.leaf [4]) (.leaf [4])) (.leaf [0, 1, 5])))) (.leaf [0, 1, 5])))))) (.seq (.leaf [4]) (.leaf [4])))))

noncomputable def laws_eqIntSS_ctx : Ctx := ⟨tlook tys, olook [(13, F_laws_eqIntS)], ioF, 0, false, []⟩

theorem laws_eqIntSS_n1_l (x1384 : List (List Int)) (x1385 : List (List Int)) : Link laws_eqIntSS_ctx LL (Code.seq (cq [0] (bodyOf Try.f22)) (cq [0,1] (bodyOf Try.f22))) (Ann.seq (aq [0] laws_eqIntSS_an) (aq [0,1] laws_eqIntSS_an)) ⟨mkE 27 0 [(0, .dat (.list (.list (.int .i64))) x1384), (1, .dat (.list (.list (.int .i64))) x1385)], []⟩ (laws_eqIntSS_n1 x1384 x1385) (Sum.elim (fun (t : Unit) => (Exit.normal, ⟨mkE 27 0 [(0, .dat (.list (.list (.int .i64))) x1384), (1, .dat (.list (.list (.int .i64))) x1385)], []⟩)) (fun (t : Bool) => (Exit.ret, ⟨mkE 27 0 [(4, dB t)], []⟩))) := .of fun K h => by
  simp only [laws_eqIntSS_n1, wpW] at h
  exact .of (by kernel_rfl) h

theorem laws_eqIntSS_n2_l (x1384 : List (List Int)) (x1385 : List (List Int)) : Link laws_eqIntSS_ctx LL (cq [0,0,1,1] (bodyOf Try.f22)) (aq [0,0,1,1] laws_eqIntSS_an) ⟨mkE 27 0 [(0, .dat (.list (.list (.int .i64))) x1384), (1, .dat (.list (.list (.int .i64))) x1385)], []⟩ (laws_eqIntSS_n2) (fun (t : Unit) => (Exit.normal, ⟨mkE 27 0 [(0, .dat (.list (.list (.int .i64))) x1384), (1, .dat (.list (.list (.int .i64))) x1385), (5, dI 0)], []⟩)) := .of fun K h => by
  simp only [laws_eqIntSS_n2, wpW] at h
  exact .of (by kernel_rfl) h

theorem laws_eqIntSS_n3_l (x1384 : List (List Int)) (x1385 : List (List Int)) (x1404 : Int) : Link laws_eqIntSS_ctx LL (cq [0,0,1,0,1,1] (bodyOf Try.f22)) (aq [0,0,1,0,1,1] laws_eqIntSS_an) ⟨mkE 27 0 [(0, .dat (.list (.list (.int .i64))) x1384), (1, .dat (.list (.list (.int .i64))) x1385), (5, dI x1404)], []⟩ (laws_eqIntSS_n3 x1384 x1385 x1404) (Sum.elim (fun (t : Int) => (Exit.normal, ⟨mkE 27 0 [(0, .dat (.list (.list (.int .i64))) x1384), (1, .dat (.list (.list (.int .i64))) x1385), (5, dI t)], []⟩)) (Sum.elim (fun (t : Bool) => (Exit.ret, ⟨mkE 27 0 [(4, dB t)], []⟩)) (fun (t : Unit) => ((Exit.exit 0), ⟨mkE 27 0 [], []⟩)))) := .of fun K h => by
  simp only [laws_eqIntSS_n3, wpW] at h
  exact .of (by kernel_rfl) h

def laws_eqIntSS_n4_l (x1384 : List (List Int)) (x1385 : List (List Int)) := (link_loop (mk := fun (s : Int) => ⟨mkE 27 0 [(0, .dat (.list (.list (.int .i64))) x1384), (1, .dat (.list (.list (.int .i64))) x1385), (5, dI s)], []⟩) (fin := (Sum.elim (fun (t : Bool) => (Exit.ret, ⟨mkE 27 0 [(4, dB t)], []⟩)) (fun (t : Unit) => ((Exit.exit 0), ⟨mkE 27 0 [], []⟩)))) (by
  rintro (t | t) f K h
  · exact h
  · exact h) (fun s => link_map (laws_eqIntSS_n3_l x1384 x1385 s) (Sum.elim (fun (t : Int) => Sum.inl t) (Sum.elim (fun (t : Bool) => Sum.inr (Sum.inl t)) (fun (t : Unit) => Sum.inr (Sum.inr t)))) (by
  rintro (t | t | t)
  · kernel_rfl
  · kernel_rfl
  · kernel_rfl)) 0)

def laws_eqIntSS_n5_l (x1384 : List (List Int)) (x1385 : List (List Int)) := (link_block (fin2 := (Sum.elim (fun (t : Unit) => (Exit.normal, ⟨mkE 27 0 [], []⟩)) (fun (t : Bool) => (Exit.ret, ⟨mkE 27 0 [(4, dB t)], []⟩)))) (id := 0) (laws_eqIntSS_n4_l x1384 x1385) (Sum.elim (fun (t : Bool) => (Sum.inr t)) (fun (t : Unit) => (Sum.inl ()))) (by
  rintro (t | t) K h
  · exact Eq.mp (by kernel_rfl) h
  · exact Eq.mp (by kernel_rfl) h))

def laws_eqIntSS_n6_l (x1384 : List (List Int)) (x1385 : List (List Int)) := (link_seq (laws_eqIntSS_n2_l x1384 x1385) (fun (t : Unit) => (laws_eqIntSS_n5_l x1384 x1385)))

theorem laws_eqIntSS_n7_l : Link laws_eqIntSS_ctx LL (cq [1,1,1] (bodyOf Try.f22)) (aq [1,1,1] laws_eqIntSS_an) ⟨mkE 27 0 [], []⟩ (laws_eqIntSS_n7) (fun (t : Bool) => (Exit.ret, ⟨mkE 27 0 [(4, dB t)], []⟩)) := .of fun K h => by
  simp only [laws_eqIntSS_n7, wpW] at h
  exact .of (by kernel_rfl) h

def laws_eqIntSS_n8_l (x1384 : List (List Int)) (x1385 : List (List Int)) := (link_seq2 (laws_eqIntSS_n6_l x1384 x1385) (fun (t : Unit) => (laws_eqIntSS_n7_l)) (fun (t : Bool) => t) (by
  rintro t
  · kernel_rfl) (by
  rintro t f K h
  · exact h))

def laws_eqIntSS_n9_l (x1384 : List (List Int)) (x1385 : List (List Int)) := (link_group (c := (cq [0,1] (bodyOf Try.f22))) (a := (aq [0,1] laws_eqIntSS_an)) [(cq [0] (bodyOf Try.f22))] [(aq [0] laws_eqIntSS_an)] rfl (link_seq2 (laws_eqIntSS_n1_l x1384 x1385) (fun (t : Unit) => (laws_eqIntSS_n8_l x1384 x1385)) (fun (t : Bool) => t) (by
  rintro t
  · kernel_rfl) (by
  rintro t f K h
  · exact h)))

theorem laws_eqIntSS_e (x1384 : List (List Int)) (x1385 : List (List Int)) {r : AV} {H' : Heap} (h : (Ans.mk _ (laws_eqIntSS x1384 x1385) (fun (t : Bool) => (dB t, [])) [] none).run = some (r, H')) : Awp laws_eqIntSS_ctx LL (bodyOf Try.f22) laws_eqIntSS_an ⟨mkE 27 0 [(0, .dat (.list (.list (.int .i64))) x1384), (1, .dat (.list (.list (.int .i64))) x1385)], []⟩ (Ret (tlook tys) Try.f22.results.toList r H') :=
  ret_of' (Link.cast (by kernel_rfl) (by kernel_rfl) (laws_eqIntSS_n9_l x1384 x1385)) (by unfold laws_eqIntSS; kernel_rfl) (by
  intro t
  exact ret_mk [dB t] (by kernel_rfl) (by kernel_rfl) (by kernel_rfl) (by kernel_rfl)) h

def F_laws_eqIntSS : Fun := fun avs H =>
  match avs, H with
  | [.dat (.list (.list (.int .i64))) x1384, .dat (.list (.list (.int .i64))) x1385], [] => ⟨_, laws_eqIntSS x1384 x1385, fun (t : Bool) => (dB t, []), [], none⟩
  | _, _ => Ans.no

theorem laws_eqIntSS_sound : Sound Try.prog 22 F_laws_eqIntSS := by
  refine fn_sound' (C := laws_eqIntSS_ctx) (c := bodyOf Try.f22) (cok_of tys_ok (allc laws_eqIntS_sound alln) (allc Try.call13 alln) (by kernel_rfl)) Try.func22 (by kernel_rfl) LL laws_eqIntSS_an ?_
  intro avs H r H' h
  unfold F_laws_eqIntSS at h
  split at h
  · refine Awp.cast ?_ ?_ ?_ (laws_eqIntSS_e _ _ h) <;> kernel_rfl
  · simp [Ans.no, Ans.run] at h


/-! loop.example/headtrees/laws.eqDesk -/

def laws_eqDesk_an : Ann := (.seq (.leaf [2, 3]) (.seq (.seq (.leaf [2, 3, 10]) (.cond (.seq (.leaf [4]) (.leaf [4])) (.leaf [2, 3]))) (.seq (.seq (.leaf [16]) (.cond (.seq (.leaf [4]) (.leaf [4])) (.leaf []))) (.seq (.leaf [4]) (.leaf [4])))))

noncomputable def laws_eqDesk_ctx : Ctx := ⟨tlook tys, olook [(13, F_laws_eqIntS), (22, F_laws_eqIntSS)], ioF, 0, false, []⟩

theorem laws_eqDesk_n1_l (x1343 : List Int) (x1344 : List (List Int)) (x1345 : List Int) (x1346 : List (List Int)) : Link laws_eqDesk_ctx LL (bodyOf Try.f9) laws_eqDesk_an ⟨mkE 17 0 [(0, .agg [dL x1343, .dat (.list (.list (.int .i64))) x1344]), (1, .agg [dL x1345, .dat (.list (.list (.int .i64))) x1346])], []⟩ (laws_eqDesk_n1 x1343 x1344 x1345 x1346) (fun (t : Bool) => (Exit.ret, ⟨mkE 17 0 [(4, dB t)], []⟩)) := .of fun K h => by
  simp only [laws_eqDesk_n1, wpW] at h
  exact .of (by kernel_rfl) h

theorem laws_eqDesk_e (x1343 : List Int) (x1344 : List (List Int)) (x1345 : List Int) (x1346 : List (List Int)) {r : AV} {H' : Heap} (h : (Ans.mk _ (laws_eqDesk x1343 x1344 x1345 x1346) (fun (t : Bool) => (dB t, [])) [] none).run = some (r, H')) : Awp laws_eqDesk_ctx LL (bodyOf Try.f9) laws_eqDesk_an ⟨mkE 17 0 [(0, .agg [dL x1343, .dat (.list (.list (.int .i64))) x1344]), (1, .agg [dL x1345, .dat (.list (.list (.int .i64))) x1346])], []⟩ (Ret (tlook tys) Try.f9.results.toList r H') :=
  ret_of' (laws_eqDesk_n1_l x1343 x1344 x1345 x1346) (by unfold laws_eqDesk; kernel_rfl) (by
  intro t
  exact ret_mk [dB t] (by kernel_rfl) (by kernel_rfl) (by kernel_rfl) (by kernel_rfl)) h

def laws_eqDesk_v2_an : Ann := (.seq (.leaf [2, 3]) (.seq (.seq (.leaf [2, 3, 10]) (.cond (.seq (.leaf [4]) (.leaf [4])) (.leaf [2, 3]))) (.seq (.seq (.leaf [16]) (.cond (.seq (.leaf [4]) (.leaf [4])) (.leaf []))) (.seq (.leaf [4]) (.leaf [4])))))

noncomputable def laws_eqDesk_v2_ctx : Ctx := ⟨tlook tys, olook [(13, F_laws_eqIntS), (22, F_laws_eqIntSS)], ioF, 0, false, []⟩

theorem laws_eqDesk_v2_n1_l (x1629 : List Int) (x1630 : List (List Int)) (x1631 : List Int) : Link laws_eqDesk_v2_ctx LL (bodyOf Try.f9) laws_eqDesk_v2_an ⟨mkE 17 0 [(0, .agg [dL x1629, .dat (.list (.list (.int .i64))) x1630]), (1, .agg [dL x1631, .nils])], []⟩ (laws_eqDesk_v2_n1 x1629 x1630 x1631) (fun (t : Bool) => (Exit.ret, ⟨mkE 17 0 [(4, dB t)], []⟩)) := .of fun K h => by
  simp only [laws_eqDesk_v2_n1, wpW] at h
  exact .of (by kernel_rfl) h

theorem laws_eqDesk_v2_e (x1629 : List Int) (x1630 : List (List Int)) (x1631 : List Int) {r : AV} {H' : Heap} (h : (Ans.mk _ (laws_eqDesk_v2 x1629 x1630 x1631) (fun (t : Bool) => (dB t, [])) [] none).run = some (r, H')) : Awp laws_eqDesk_v2_ctx LL (bodyOf Try.f9) laws_eqDesk_v2_an ⟨mkE 17 0 [(0, .agg [dL x1629, .dat (.list (.list (.int .i64))) x1630]), (1, .agg [dL x1631, .nils])], []⟩ (Ret (tlook tys) Try.f9.results.toList r H') :=
  ret_of' (laws_eqDesk_v2_n1_l x1629 x1630 x1631) (by unfold laws_eqDesk_v2; kernel_rfl) (by
  intro t
  exact ret_mk [dB t] (by kernel_rfl) (by kernel_rfl) (by kernel_rfl) (by kernel_rfl)) h

def F_laws_eqDesk : Fun := fun avs H =>
  match avs, H with
  | [.agg [.dat (.list (.int .i64)) x1343, .dat (.list (.list (.int .i64))) x1344], .agg [.dat (.list (.int .i64)) x1345, .dat (.list (.list (.int .i64))) x1346]], [] => ⟨_, laws_eqDesk x1343 x1344 x1345 x1346, fun (t : Bool) => (dB t, []), [], none⟩
  | [.agg [.dat (.list (.int .i64)) x1629, .dat (.list (.list (.int .i64))) x1630], .agg [.dat (.list (.int .i64)) x1631, .nils]], [] => ⟨_, laws_eqDesk_v2 x1629 x1630 x1631, fun (t : Bool) => (dB t, []), [], none⟩
  | _, _ => Ans.no

theorem laws_eqDesk_sound : Sound Try.prog 9 F_laws_eqDesk := by
  refine fn_sound' (C := laws_eqDesk_ctx) (c := bodyOf Try.f9) (cok_of tys_ok (allc laws_eqIntS_sound (allc laws_eqIntSS_sound alln)) (allc Try.call13 (allc Try.call22 alln)) (by kernel_rfl)) Try.func9 (by kernel_rfl) LL laws_eqDesk_an ?_
  intro avs H r H' h
  unfold F_laws_eqDesk at h
  split at h
  · refine Awp.cast ?_ ?_ ?_ (laws_eqDesk_e _ _ _ _ h) <;> kernel_rfl
  · refine Awp.cast ?_ ?_ ?_ (laws_eqDesk_v2_e _ _ _ h) <;> kernel_rfl
  · simp [Ans.no, Ans.run] at h


/-! loop.example/headtrees/laws.FnExactDeskOk -/

def laws_FnExactDeskOk_an : Ann := (.seq (.leaf [1]) (.seq (.leaf [1, 3]) (.seq (.leaf [1, 3]) (.seq (.seq (.leaf [1, 11]) (.cond (.seq (.leaf [2]) (.leaf [2])) (.leaf [1]))) (.seq (.leaf [1, 4]) (.seq (.leaf [1, 4, 5]) (.seq (.leaf [1, 4, 5, 6]) (.seq (.seq (.leaf [1, 5, 21]) (.cond (.seq (.leaf [2]) (.leaf [2])) (.leaf [1, 5]))) (.seq (.seq (.draw [2, 3] [0, 1, 2, 3, 4] [] [26]) (.cond (.seq (.leaf [2]) (.leaf [2])) (.leaf []))) (.seq (.leaf [2]) (.leaf [2])))))))))))

noncomputable def laws_FnExactDeskOk_ctx : Ctx := ⟨tlook tys, olook [(5, F_laws_szDesk), (7, F_laws_toDesk), (6, F_spec_DeskOk), (8, F_impl_DeskOk), (9, F_laws_eqDesk)], ioF, 0, false, []⟩

theorem laws_FnExactDeskOk_n1_l (x774 : List Int) (x775 : List (List Int)) : Link laws_FnExactDeskOk_ctx LL (bodyOf Try.f3) laws_FnExactDeskOk_an ⟨mkE 27 0 [(0, .agg [dL x774, .dat (.list (.list (.int .i64))) x775])], []⟩ (laws_FnExactDeskOk_n1 x774 x775) (fun (t : Bool) => (Exit.ret, ⟨mkE 27 0 [(2, dB t)], []⟩)) := .of fun K h => by
  simp only [laws_FnExactDeskOk_n1, wpW] at h
  exact .of (by kernel_rfl) h

theorem laws_FnExactDeskOk_e (x774 : List Int) (x775 : List (List Int)) {r : AV} {H' : Heap} (h : (Ans.mk _ (laws_FnExactDeskOk x774 x775) (fun (t : Bool) => (dB t, [])) [] none).run = some (r, H')) : Awp laws_FnExactDeskOk_ctx LL (bodyOf Try.f3) laws_FnExactDeskOk_an ⟨mkE 27 0 [(0, .agg [dL x774, .dat (.list (.list (.int .i64))) x775])], []⟩ (Ret (tlook tys) Try.f3.results.toList r H') :=
  ret_of' (laws_FnExactDeskOk_n1_l x774 x775) (by unfold laws_FnExactDeskOk; kernel_rfl) (by
  intro t
  exact ret_mk [dB t] (by kernel_rfl) (by kernel_rfl) (by kernel_rfl) (by kernel_rfl)) h

def F_laws_FnExactDeskOk : Fun := fun avs H =>
  match avs, H with
  | [.agg [.dat (.list (.int .i64)) x774, .dat (.list (.list (.int .i64))) x775]], [] => ⟨_, laws_FnExactDeskOk x774 x775, fun (t : Bool) => (dB t, []), [], none⟩
  | _, _ => Ans.no

theorem laws_FnExactDeskOk_sound : Sound Try.prog 3 F_laws_FnExactDeskOk := by
  refine fn_sound' (C := laws_FnExactDeskOk_ctx) (c := bodyOf Try.f3) (cok_of tys_ok (allc laws_szDesk_sound (allc laws_toDesk_sound (allc spec_DeskOk_sound (allc impl_DeskOk_sound (allc laws_eqDesk_sound alln))))) (allc Try.call5 (allc Try.call7 (allc Try.call6 (allc Try.call8 (allc Try.call9 alln))))) (by kernel_rfl)) Try.func3 (by kernel_rfl) LL laws_FnExactDeskOk_an ?_
  intro avs H r H' h
  unfold F_laws_FnExactDeskOk at h
  split at h
  · refine Awp.cast ?_ ?_ ?_ (laws_FnExactDeskOk_e _ _ h) <;> kernel_rfl
  · simp [Ans.no, Ans.run] at h


end Go.Rv
