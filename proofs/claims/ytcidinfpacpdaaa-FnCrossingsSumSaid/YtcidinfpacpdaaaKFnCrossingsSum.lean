/-
  The checked code answers as the plain functions do; written by program. Conditions: none.
-/
import Derived.Test.YtcidinfpacpdaaaGFnCrossingsSum
import Derived.Test.YtcidinfpacpdaaaProg
set_option linter.unusedVariables false
set_option linter.unusedSimpArgs false
set_option linter.defProp false
set_option maxRecDepth 100000
namespace Go.Rv
open Go.Proofs
theorem ty3 : TIOk Try.prog 3 ⟨.int .i64, 1, 8, some (.int .i64), [.int .i64 0], false⟩ := ⟨⟨infoOf (Try.prog.info? 3), by kernel_rfl, by kernel_rfl, by kernel_rfl, .int .i64 0, by kernel_rfl, by kernel_rfl⟩, (by kernel_rfl : Try.prog.underlying 3 = some (.int .i64)), no_eq⟩
theorem ty4 : TIOk Try.prog 4 ⟨.bool, 1, 1, some .bool, [.bool false], false⟩ := ⟨⟨infoOf (Try.prog.info? 4), by kernel_rfl, by kernel_rfl, by kernel_rfl, .bool false, by kernel_rfl, by kernel_rfl⟩, (by kernel_rfl : Try.prog.underlying 4 = some .bool), no_eq⟩
theorem ty5 : TIOk Try.prog 5 ⟨.int .u8, 1, 1, some (.int .u8), [.int .u8 0], false⟩ := ⟨⟨infoOf (Try.prog.info? 5), by kernel_rfl, by kernel_rfl, by kernel_rfl, .int .u8 0, by kernel_rfl, by kernel_rfl⟩, (by kernel_rfl : Try.prog.underlying 5 = some (.int .u8)), no_eq⟩
theorem ty22 : TIOk Try.prog 22 ⟨.slice 5, 1, 24, some (.list (.int .u8)), [.slice none 0 0], false⟩ := ⟨⟨infoOf (Try.prog.info? 22), by kernel_rfl, by kernel_rfl, by kernel_rfl, .slice none 0 0, by kernel_rfl, by kernel_rfl⟩, (by kernel_rfl : Try.prog.underlying 22 = some (.slice 5)), no_eq⟩
theorem ty23 : TIOk Try.prog 23 ⟨.slice 3, 1, 24, some (.list (.int .i64)), [.slice none 0 0], false⟩ := ⟨⟨infoOf (Try.prog.info? 23), by kernel_rfl, by kernel_rfl, by kernel_rfl, .slice none 0 0, by kernel_rfl, by kernel_rfl⟩, (by kernel_rfl : Try.prog.underlying 23 = some (.slice 3)), no_eq⟩
theorem ty40 : TIOk Try.prog 40 ⟨.arr 9 3, 9, 72, none, [.int .i64 0, .int .i64 0, .int .i64 0, .int .i64 0, .int .i64 0, .int .i64 0, .int .i64 0, .int .i64 0, .int .i64 0], false⟩ := ⟨⟨infoOf (Try.prog.info? 40), by kernel_rfl, by kernel_rfl, by kernel_rfl, .agg #[.int .i64 0, .int .i64 0, .int .i64 0, .int .i64 0, .int .i64 0, .int .i64 0, .int .i64 0, .int .i64 0, .int .i64 0], by kernel_rfl, by kernel_rfl⟩, (by kernel_rfl : Try.prog.underlying 40 = some (.array 9 3)), no_eq⟩
theorem ty42 : TIOk Try.prog 42 ⟨.slice 50, 1, 24, some (.list (.pair (.int .i64) (.pair (.int .i64) .unit))), [.slice none 0 0], false⟩ := ⟨⟨infoOf (Try.prog.info? 42), by kernel_rfl, by kernel_rfl, by kernel_rfl, .slice none 0 0, by kernel_rfl, by kernel_rfl⟩, (by kernel_rfl : Try.prog.underlying 42 = some (.slice 50)), no_eq⟩
theorem ty50 : TIOk Try.prog 50 ⟨.strct [(0, 3), (1, 3)], 2, 16, some (.pair (.int .i64) (.pair (.int .i64) .unit)), [.int .i64 0, .int .i64 0], false⟩ := ⟨⟨infoOf (Try.prog.info? 50), by kernel_rfl, by kernel_rfl, by kernel_rfl, .agg #[.int .i64 0, .int .i64 0], by kernel_rfl, by kernel_rfl⟩, ⟨fieldsOf (Try.prog.underlying 50), by kernel_rfl, by kernel_rfl⟩, no_eq⟩
theorem ty58 : TIOk Try.prog 58 ⟨.strct [(0, 42), (1, 23)], 2, 48, some (.pair (.list (.pair (.int .i64) (.pair (.int .i64) .unit))) (.pair (.list (.int .i64)) .unit)), [.slice none 0 0, .slice none 0 0], false⟩ := ⟨⟨infoOf (Try.prog.info? 58), by kernel_rfl, by kernel_rfl, by kernel_rfl, .agg #[.slice none 0 0, .slice none 0 0], by kernel_rfl, by kernel_rfl⟩, ⟨fieldsOf (Try.prog.underlying 58), by kernel_rfl, by kernel_rfl⟩, no_eq⟩
theorem ty60 : TIOk Try.prog 60 ⟨.slice 23, 1, 24, some (.list (.list (.int .i64))), [.slice none 0 0], false⟩ := ⟨⟨infoOf (Try.prog.info? 60), by kernel_rfl, by kernel_rfl, by kernel_rfl, .slice none 0 0, by kernel_rfl, by kernel_rfl⟩, (by kernel_rfl : Try.prog.underlying 60 = some (.slice 23)), no_eq⟩
theorem ty65 : TIOk Try.prog 65 ⟨.strct [(0, 22), (1, 3)], 2, 32, some (.pair (.list (.int .u8)) (.pair (.int .i64) .unit)), [.slice none 0 0, .int .i64 0], false⟩ := ⟨⟨infoOf (Try.prog.info? 65), by kernel_rfl, by kernel_rfl, by kernel_rfl, .agg #[.slice none 0 0, .int .i64 0], by kernel_rfl, by kernel_rfl⟩, ⟨fieldsOf (Try.prog.underlying 65), by kernel_rfl, by kernel_rfl⟩, no_eq⟩
theorem ty68 : TIOk Try.prog 68 ⟨.strct [(0, 23), (1, 3), (2, 3)], 3, 40, some (.pair (.list (.int .i64)) (.pair (.int .i64) (.pair (.int .i64) .unit))), [.slice none 0 0, .int .i64 0, .int .i64 0], false⟩ := ⟨⟨infoOf (Try.prog.info? 68), by kernel_rfl, by kernel_rfl, by kernel_rfl, .agg #[.slice none 0 0, .int .i64 0, .int .i64 0], by kernel_rfl, by kernel_rfl⟩, ⟨fieldsOf (Try.prog.underlying 68), by kernel_rfl, by kernel_rfl⟩, no_eq⟩
theorem ty70 : TIOk Try.prog 70 ⟨.arr 9 4, 9, 9, none, [.bool false, .bool false, .bool false, .bool false, .bool false, .bool false, .bool false, .bool false, .bool false], false⟩ := ⟨⟨infoOf (Try.prog.info? 70), by kernel_rfl, by kernel_rfl, by kernel_rfl, .agg #[.bool false, .bool false, .bool false, .bool false, .bool false, .bool false, .bool false, .bool false, .bool false], by kernel_rfl, by kernel_rfl⟩, (by kernel_rfl : Try.prog.underlying 70 = some (.array 9 4)), no_eq⟩
theorem ty75 : TIOk Try.prog 75 ⟨.int .u64, 1, 8, some (.int .u64), [.int .u64 0], false⟩ := ⟨⟨infoOf (Try.prog.info? 75), by kernel_rfl, by kernel_rfl, by kernel_rfl, .int .u64 0, by kernel_rfl, by kernel_rfl⟩, (by kernel_rfl : Try.prog.underlying 75 = some (.int .u64)), no_eq⟩
def tys : List (TypeId × TI) := [(3, ⟨.int .i64, 1, 8, some (.int .i64), [.int .i64 0], false⟩), (4, ⟨.bool, 1, 1, some .bool, [.bool false], false⟩), (5, ⟨.int .u8, 1, 1, some (.int .u8), [.int .u8 0], false⟩), (22, ⟨.slice 5, 1, 24, some (.list (.int .u8)), [.slice none 0 0], false⟩), (23, ⟨.slice 3, 1, 24, some (.list (.int .i64)), [.slice none 0 0], false⟩), (40, ⟨.arr 9 3, 9, 72, none, [.int .i64 0, .int .i64 0, .int .i64 0, .int .i64 0, .int .i64 0, .int .i64 0, .int .i64 0, .int .i64 0, .int .i64 0], false⟩), (42, ⟨.slice 50, 1, 24, some (.list (.pair (.int .i64) (.pair (.int .i64) .unit))), [.slice none 0 0], false⟩), (50, ⟨.strct [(0, 3), (1, 3)], 2, 16, some (.pair (.int .i64) (.pair (.int .i64) .unit)), [.int .i64 0, .int .i64 0], false⟩), (58, ⟨.strct [(0, 42), (1, 23)], 2, 48, some (.pair (.list (.pair (.int .i64) (.pair (.int .i64) .unit))) (.pair (.list (.int .i64)) .unit)), [.slice none 0 0, .slice none 0 0], false⟩), (60, ⟨.slice 23, 1, 24, some (.list (.list (.int .i64))), [.slice none 0 0], false⟩), (65, ⟨.strct [(0, 22), (1, 3)], 2, 32, some (.pair (.list (.int .u8)) (.pair (.int .i64) .unit)), [.slice none 0 0, .int .i64 0], false⟩), (68, ⟨.strct [(0, 23), (1, 3), (2, 3)], 3, 40, some (.pair (.list (.int .i64)) (.pair (.int .i64) (.pair (.int .i64) .unit))), [.slice none 0 0, .int .i64 0, .int .i64 0], false⟩), (70, ⟨.arr 9 4, 9, 9, none, [.bool false, .bool false, .bool false, .bool false, .bool false, .bool false, .bool false, .bool false, .bool false], false⟩), (75, ⟨.int .u64, 1, 8, some (.int .u64), [.int .u64 0], false⟩)]
theorem tys_ok : TOk Try.prog (tlook tys) := tok_of (allc ty3 (allc ty4 (allc ty5 (allc ty22 (allc ty23 (allc ty40 (allc ty42 (allc ty50 (allc ty58 (allc ty60 (allc ty65 (allc ty68 (allc ty70 (allc ty75 alln))))))))))))))
def ioF (f : FuncId) (i : Nat) : Bool := [(34, 0), (75, 1)].any fun (p : Nat × Nat) => Nat.beq p.1 f && Nat.beq p.2 i


/-! loop.example/headtrees/spec.l20Open -/

def spec_l20Open_an : Ann := (.seq (.leaf [0]) (.seq (.seq (.leaf [0, 5]) (.cond (.leaf [0]) (.leaf [0]))) (.seq (.leaf [2]) (.leaf [2]))))

noncomputable def spec_l20Open_ctx : Ctx := ⟨tlook tys, olook [], ioF, 0, false, []⟩

theorem spec_l20Open_n1_l (x12 : List Int) : Link spec_l20Open_ctx LL (bodyOf Try.f38) spec_l20Open_an ⟨mkE 11 0 [(0, dV x12)], []⟩ (spec_l20Open_n1 x12) (fun (t : (List Int)) => (Exit.ret, ⟨mkE 11 0 [(2, .ptr 0 0)], [some (.box [dV t, dI 0])]⟩)) := .of fun K h => by
  simp only [spec_l20Open_n1, wpW] at h
  exact .of (by kernel_rfl) h

theorem spec_l20Open_e (x12 : List Int) {r : AV} {H' : Heap} (h : (Ans.mk _ (spec_l20Open x12) (fun (t : (List Int)) => (.ptr 0 0, [some (.box [dV t, dI 0])])) [] none).run = some (r, H')) : Awp spec_l20Open_ctx LL (bodyOf Try.f38) spec_l20Open_an ⟨mkE 11 0 [(0, dV x12)], []⟩ (Ret (tlook tys) Try.f38.results.toList r H') :=
  ret_of' (spec_l20Open_n1_l x12) (by unfold spec_l20Open; kernel_rfl) (by
  intro t
  exact ret_mk [.ptr 0 0] (by kernel_rfl) (by kernel_rfl) (by kernel_rfl) (by kernel_rfl)) h

def F_spec_l20Open : Fun := fun avs H =>
  match avs, H with
  | [.dat (.list (.int .u8)) x12], [] => ⟨_, spec_l20Open x12, fun (t : (List Int)) => (.ptr 0 0, [some (.box [dV t, dI 0])]), [], none⟩
  | _, _ => Ans.no

theorem spec_l20Open_sound : Sound Try.prog 38 F_spec_l20Open := by
  refine fn_sound' (C := spec_l20Open_ctx) (c := bodyOf Try.f38) (cok_of tys_ok (alln) (alln) (by kernel_rfl)) Try.func38 (by kernel_rfl) LL spec_l20Open_an ?_
  intro avs H r H' h
  unfold F_spec_l20Open at h
  split at h
  · refine Awp.cast ?_ ?_ ?_ (spec_l20Open_e _ h) <;> kernel_rfl
  · simp [Ans.no, Ans.run] at h


/-! (*loop.example/headtrees/spec.l20Rd).pick -/

def spec_l20Rd_pick_an : Ann := (.seq (.leaf [0, 1]) (.seq (.leaf [0, 1]) (.seq (.seq (.leaf [0, 1, 24]) (.cond (.seq (.leaf [4]) (.leaf [4])) (.leaf [0, 1]))) (.seq (.leaf [0, 1, 5]) (.seq (.seq (.leaf [0, 1, 5, 36]) (.cond (.seq (.leaf [4]) (.leaf [4])) (.leaf [0, 1, 5]))) (.seq (.draw [] [0, 1, 2, 3, 4, 5, 6, 7, 8, 9, 10, 11, 12, 13, 14, 15, 16, 17, 18, 19, 20, 21, 22, 23, 24, 25, 26, 27, 28, 29, 30, 31, 32, 33, 34, 35, 36, 37, 38, 39, 40, 41, 42, 43, 44, 45] [] [1, 6]) (.seq (.leaf [1, 6]) (.seq (.leaf [4]) (.leaf [4])))))))))

noncomputable def spec_l20Rd_pick_ctx : Ctx := ⟨tlook tys, olook [], ioF, 1, false, []⟩

theorem spec_l20Rd_pick_n1_l (x41 : Int) (x42 : List Int) (x43 : Int) : Link spec_l20Rd_pick_ctx LL (bodyOf Try.f61) spec_l20Rd_pick_an ⟨mkE 99 0 [(0, .ptr 0 0), (1, dI x41)], [some (.box [dV x42, dI x43])]⟩ (spec_l20Rd_pick_n1 x41 x42 x43) (fun (t : Int × Int) => (Exit.ret, ⟨mkE 99 0 [(4, dI t.1)], [some (.box [dV x42, dI t.2])]⟩)) := .of fun K h => by
  simp only [spec_l20Rd_pick_n1, wpW] at h
  exact .of (by kernel_rfl) h

theorem spec_l20Rd_pick_e (x41 : Int) (x42 : List Int) (x43 : Int) {r : AV} {H' : Heap} (h : (Ans.mk _ (spec_l20Rd_pick x41 x42 x43) (fun (t : Int × Int) => (dI t.1, [some (.box [dV x42, dI t.2])])) [] none).run = some (r, H')) : Awp spec_l20Rd_pick_ctx LL (bodyOf Try.f61) spec_l20Rd_pick_an ⟨mkE 99 0 [(0, .ptr 0 0), (1, dI x41)], [some (.box [dV x42, dI x43])]⟩ (Ret (tlook tys) Try.f61.results.toList r H') :=
  ret_of' (spec_l20Rd_pick_n1_l x41 x42 x43) (by unfold spec_l20Rd_pick; kernel_rfl) (by
  intro t
  exact ret_mk [dI t.1] (by kernel_rfl) (by kernel_rfl) (by kernel_rfl) (by kernel_rfl)) h

def F_spec_l20Rd_pick : Fun := fun avs H =>
  match avs, H with
  | [.ptr 0 0, .dat (.int .i64) x41], [some (.box [.dat (.list (.int .u8)) x42, .dat (.int .i64) x43])] => ⟨_, spec_l20Rd_pick x41 x42 x43, fun (t : Int × Int) => (dI t.1, [some (.box [dV x42, dI t.2])]), [], none⟩
  | _, _ => Ans.no

theorem spec_l20Rd_pick_sound : Sound Try.prog 61 F_spec_l20Rd_pick := by
  refine fn_sound' (C := spec_l20Rd_pick_ctx) (c := bodyOf Try.f61) (cok_of tys_ok (alln) (alln) (by kernel_rfl)) Try.func61 (by kernel_rfl) LL spec_l20Rd_pick_an ?_
  intro avs H r H' h
  unfold F_spec_l20Rd_pick at h
  split at h
  · refine Awp.cast ?_ ?_ ?_ (spec_l20Rd_pick_e _ _ _ h) <;> kernel_rfl
  · simp [Ans.no, Ans.run] at h


/-! loop.example/headtrees/spec.l20Order -/

def spec_l20Order_an : Ann := (.seq (.leaf [0, 1]) (.seq (.leaf [0, 1, 5]) (.seq (.leaf [0, 1, 5, 6]) (.seq (.seq (.leaf [0, 1, 5, 6, 7]) (.block (.loop (.seq (.seq (.leaf [0, 1, 5, 6, 7, 15]) (.cond (.leaf [0, 1, 5, 6, 7]) (.leaf [5]))) (.seq (.block (.seq (.leaf [0, 1, 5, 6, 7, 8]) (.seq (.seq (.leaf [0, 1, 5, 6, 7, 8, 26]) (.cond (.leaf [0, 1, 5, 6, 7, 8]) (.leaf [0, 1, 5, 6, 7, 8]))) (.seq (.leaf [0, 1, 5, 6, 7, 8, 9]) (.seq (.leaf [0, 1, 5, 6, 7, 8, 9]) (.leaf [0, 1, 5, 6, 7])))))) (.leaf [0, 1, 5, 6, 7])))))) (.seq (.leaf [4]) (.leaf [4]))))))

noncomputable def spec_l20Order_ctx : Ctx := ⟨tlook tys, olook [(61, F_spec_l20Rd_pick)], ioF, 1, false, []⟩

theorem spec_l20Order_n1_l (x204 : Int) (x205 : List Int) (x206 : Int) : Link spec_l20Order_ctx LL (Code.seq (cq [0] (bodyOf Try.f63)) (Code.seq (cq [0,1] (bodyOf Try.f63)) (cq [0,1,1] (bodyOf Try.f63)))) (Ann.seq (aq [0] spec_l20Order_an) (Ann.seq (aq [0,1] spec_l20Order_an) (aq [0,1,1] spec_l20Order_an))) ⟨mkE 45 0 [(0, .ptr 0 0), (1, dI x204)], [some (.box [dV x205, dI x206])]⟩ (spec_l20Order_n1 x205 x206) (fun (t : Int × Int) => (Exit.normal, ⟨mkE 45 0 [(0, .ptr 0 0), (1, dI x204), (5, .slc 1), (6, dI t.1)], [some (.box [dV x205, dI t.2]), some (sI ([] : List Int))]⟩)) := .of fun K h => by
  simp only [spec_l20Order_n1, wpW] at h
  exact .of (by kernel_rfl) h

theorem spec_l20Order_n2_l (x204 : Int) (x209 : Int) (x205 : List Int) (x210 : Int) : Link spec_l20Order_ctx LL (cq [0,0,1,1,1] (bodyOf Try.f63)) (aq [0,0,1,1,1] spec_l20Order_an) ⟨mkE 45 0 [(0, .ptr 0 0), (1, dI x204), (5, .slc 1), (6, dI x209)], [some (.box [dV x205, dI x210]), some (sI ([] : List Int))]⟩ (spec_l20Order_n2) (fun (t : Unit) => (Exit.normal, ⟨mkE 45 0 [(0, .ptr 0 0), (1, dI x204), (5, .slc 1), (6, dI x209), (7, dI 1)], [some (.box [dV x205, dI x210]), some (sI ([] : List Int))]⟩)) := .of fun K h => by
  simp only [spec_l20Order_n2, wpW] at h
  exact .of (by kernel_rfl) h

theorem spec_l20Order_n3_l (x204 : Int) (x209 : Int) (x352 : Int) (x205 : List Int) (x353 : Int) (x354 : List Int) : Link spec_l20Order_ctx LL (cq [0,0,1,0,1,1,1] (bodyOf Try.f63)) (aq [0,0,1,0,1,1,1] spec_l20Order_an) ⟨mkE 45 0 [(0, .ptr 0 0), (1, dI x204), (5, .slc 1), (6, dI x209), (7, dI x352)], [some (.box [dV x205, dI x353]), some (sI x354)]⟩ (spec_l20Order_n3 x204 x209 x352 x205 x353 x354) (Sum.elim (fun (t : Int × Int × (List Int)) => (Exit.normal, ⟨mkE 45 0 [(0, .ptr 0 0), (1, dI x204), (5, .slc 1), (6, dI x209), (7, dI t.1)], [some (.box [dV x205, dI t.2.1]), some (sI t.2.2)]⟩)) (fun (t : Int × (List Int)) => ((Exit.exit 0), ⟨mkE 45 0 [(5, .slc 1)], [some (.box [dV x205, dI t.1]), some (sI t.2)]⟩))) := .of fun K h => by
  simp only [spec_l20Order_n3, wpW] at h
  exact .of (by kernel_rfl) h

def spec_l20Order_n4_l (x204 : Int) (x209 : Int) (x205 : List Int) (x210 : Int) := (link_loop (mk := fun (s : Int × Int × (List Int)) => ⟨mkE 45 0 [(0, .ptr 0 0), (1, dI x204), (5, .slc 1), (6, dI x209), (7, dI s.1)], [some (.box [dV x205, dI s.2.1]), some (sI s.2.2)]⟩) (fin := (fun (t : Int × (List Int)) => ((Exit.exit 0), ⟨mkE 45 0 [(5, .slc 1)], [some (.box [dV x205, dI t.1]), some (sI t.2)]⟩))) (by
  rintro t f K h
  · exact h) (fun s => link_map (spec_l20Order_n3_l x204 x209 s.1 x205 s.2.1 s.2.2) (Sum.elim (fun (t : Int × Int × (List Int)) => Sum.inl (t.1, t.2.1, t.2.2)) (fun (t : Int × (List Int)) => Sum.inr t)) (by
  rintro (t | t)
  · kernel_rfl
  · kernel_rfl)) (1, x210, ([] : List Int)))

def spec_l20Order_n5_l (x204 : Int) (x209 : Int) (x205 : List Int) (x210 : Int) := (link_block (fin2 := (fun (t : Int × (List Int)) => (Exit.normal, ⟨mkE 45 0 [(5, .slc 1)], [some (.box [dV x205, dI t.1]), some (sI t.2)]⟩))) (id := 0) (spec_l20Order_n4_l x204 x209 x205 x210) (fun (t : Int × (List Int)) => (t.1, t.2)) (by
  rintro t K h
  · exact Eq.mp (by kernel_rfl) h))

def spec_l20Order_n6_l (x204 : Int) (x209 : Int) (x205 : List Int) (x210 : Int) := (link_seq (spec_l20Order_n2_l x204 x209 x205 x210) (fun (t : Unit) => (spec_l20Order_n5_l x204 x209 x205 x210)))

theorem spec_l20Order_n7_l (x205 : List Int) (x353 : Int) (x354 : List Int) : Link spec_l20Order_ctx LL (cq [1,1,1,1] (bodyOf Try.f63)) (aq [1,1,1,1] spec_l20Order_an) ⟨mkE 45 0 [(5, .slc 1)], [some (.box [dV x205, dI x353]), some (sI x354)]⟩ (spec_l20Order_n7 x353 x354) (fun (t : Int × (List Int)) => (Exit.ret, ⟨mkE 45 0 [(4, .slc 1)], [some (.box [dV x205, dI t.1]), some (sI t.2)]⟩)) := .of fun K h => by
  simp only [spec_l20Order_n7, wpW] at h
  exact .of (by kernel_rfl) h

def spec_l20Order_n8_l (x204 : Int) (x209 : Int) (x205 : List Int) (x210 : Int) := (link_seq (spec_l20Order_n6_l x204 x209 x205 x210) (fun (t : Int × (List Int)) => (spec_l20Order_n7_l x205 t.1 t.2)))

def spec_l20Order_n9_l (x204 : Int) (x205 : List Int) (x206 : Int) := (link_group (c := (cq [0,1,1] (bodyOf Try.f63))) (a := (aq [0,1,1] spec_l20Order_an)) [(cq [0] (bodyOf Try.f63)), (cq [0,1] (bodyOf Try.f63))] [(aq [0] spec_l20Order_an), (aq [0,1] spec_l20Order_an)] rfl (link_seq (spec_l20Order_n1_l x204 x205 x206) (fun (t : Int × Int) => (spec_l20Order_n8_l x204 t.1 x205 t.2))))

theorem spec_l20Order_e (x204 : Int) (x205 : List Int) (x206 : Int) {r : AV} {H' : Heap} (h : (Ans.mk _ (spec_l20Order x204 x205 x206) (fun (t : Int × (List Int)) => (.slc 1, [some (.box [dV x205, dI t.1]), some (sI t.2)])) [] none).run = some (r, H')) : Awp spec_l20Order_ctx LL (bodyOf Try.f63) spec_l20Order_an ⟨mkE 45 0 [(0, .ptr 0 0), (1, dI x204)], [some (.box [dV x205, dI x206])]⟩ (Ret (tlook tys) Try.f63.results.toList r H') :=
  ret_of' (Link.cast (by kernel_rfl) (by kernel_rfl) (spec_l20Order_n9_l x204 x205 x206)) (by unfold spec_l20Order; kernel_rfl) (by
  intro t
  exact ret_mk [.slc 1] (by kernel_rfl) (by kernel_rfl) (by kernel_rfl) (by kernel_rfl)) h

def F_spec_l20Order : Fun := fun avs H =>
  match avs, H with
  | [.ptr 0 0, .dat (.int .i64) x204], [some (.box [.dat (.list (.int .u8)) x205, .dat (.int .i64) x206])] => ⟨_, spec_l20Order x204 x205 x206, fun (t : Int × (List Int)) => (.slc 1, [some (.box [dV x205, dI t.1]), some (sI t.2)]), [], none⟩
  | _, _ => Ans.no

theorem spec_l20Order_sound : Sound Try.prog 63 F_spec_l20Order := by
  refine fn_sound' (C := spec_l20Order_ctx) (c := bodyOf Try.f63) (cok_of tys_ok (allc spec_l20Rd_pick_sound alln) (allc Try.call61 alln) (by kernel_rfl)) Try.func63 (by kernel_rfl) LL spec_l20Order_an ?_
  intro avs H r H' h
  unfold F_spec_l20Order at h
  split at h
  · refine Awp.cast ?_ ?_ ?_ (spec_l20Order_e _ _ _ h) <;> kernel_rfl
  · simp [Ans.no, Ans.run] at h


/-! (*loop.example/headtrees/spec.l20Rd).odd -/

def spec_l20Rd_odd_an : Ann := (.seq (.leaf [0, 1]) (.seq (.leaf [4]) (.leaf [4])))

noncomputable def spec_l20Rd_odd_ctx : Ctx := ⟨tlook tys, olook [(61, F_spec_l20Rd_pick)], ioF, 1, false, []⟩

theorem spec_l20Rd_odd_n1_l (x661 : Int) (x662 : List Int) (x663 : Int) : Link spec_l20Rd_odd_ctx LL (bodyOf Try.f73) spec_l20Rd_odd_an ⟨mkE 15 0 [(0, .ptr 0 0), (1, dI x661)], [some (.box [dV x662, dI x663])]⟩ (spec_l20Rd_odd_n1 x661 x662 x663) (fun (t : Bool × Int) => (Exit.ret, ⟨mkE 15 0 [(4, dB t.1)], [some (.box [dV x662, dI t.2])]⟩)) := .of fun K h => by
  simp only [spec_l20Rd_odd_n1, wpW] at h
  exact .of (by kernel_rfl) h

theorem spec_l20Rd_odd_e (x661 : Int) (x662 : List Int) (x663 : Int) {r : AV} {H' : Heap} (h : (Ans.mk _ (spec_l20Rd_odd x661 x662 x663) (fun (t : Bool × Int) => (dB t.1, [some (.box [dV x662, dI t.2])])) [] none).run = some (r, H')) : Awp spec_l20Rd_odd_ctx LL (bodyOf Try.f73) spec_l20Rd_odd_an ⟨mkE 15 0 [(0, .ptr 0 0), (1, dI x661)], [some (.box [dV x662, dI x663])]⟩ (Ret (tlook tys) Try.f73.results.toList r H') :=
  ret_of' (spec_l20Rd_odd_n1_l x661 x662 x663) (by unfold spec_l20Rd_odd; kernel_rfl) (by
  intro t
  exact ret_mk [dB t.1] (by kernel_rfl) (by kernel_rfl) (by kernel_rfl) (by kernel_rfl)) h

def F_spec_l20Rd_odd : Fun := fun avs H =>
  match avs, H with
  | [.ptr 0 0, .dat (.int .i64) x661], [some (.box [.dat (.list (.int .u8)) x662, .dat (.int .i64) x663])] => ⟨_, spec_l20Rd_odd x661 x662 x663, fun (t : Bool × Int) => (dB t.1, [some (.box [dV x662, dI t.2])]), [], none⟩
  | _, _ => Ans.no

theorem spec_l20Rd_odd_sound : Sound Try.prog 73 F_spec_l20Rd_odd := by
  refine fn_sound' (C := spec_l20Rd_odd_ctx) (c := bodyOf Try.f73) (cok_of tys_ok (allc spec_l20Rd_pick_sound alln) (allc Try.call61 alln) (by kernel_rfl)) Try.func73 (by kernel_rfl) LL spec_l20Rd_odd_an ?_
  intro avs H r H' h
  unfold F_spec_l20Rd_odd at h
  split at h
  · refine Awp.cast ?_ ?_ ?_ (spec_l20Rd_odd_e _ _ _ h) <;> kernel_rfl
  · simp [Ans.no, Ans.run] at h


/-! loop.example/headtrees/spec.l20Tree -/

def spec_l20Tree_an : Ann := (.seq (.leaf [0, 1]) (.seq (.leaf [0, 1, 5]) (.seq (.leaf [0, 1, 5, 6]) (.seq (.leaf [0, 1, 5, 6, 7]) (.seq (.leaf [0, 1, 5, 6, 7, 8]) (.seq (.seq (.leaf [0, 1, 5, 6, 7, 8, 9]) (.block (.loop (.seq (.seq (.leaf [0, 1, 5, 6, 7, 8, 9, 23]) (.cond (.leaf [0, 1, 5, 6, 7, 8, 9]) (.leaf [0, 1, 5, 7]))) (.seq (.block (.seq (.leaf [0, 1, 5, 6, 7, 8, 9, 10]) (.seq (.seq (.leaf [0, 1, 5, 6, 7, 8, 9, 10, 35]) (.cond (.leaf [0, 1, 5, 6, 7, 8, 9, 10]) (.leaf [0, 1, 5, 6, 7, 8, 9, 10]))) (.draw [] [0, 1, 2, 3, 4, 5, 6, 7, 8, 9, 10, 11] [] [0, 1, 5, 6, 7, 8, 9])))) (.leaf [0, 1, 5, 6, 7, 8, 9])))))) (.seq (.seq (.leaf [0, 5, 7, 51]) (.cond (.seq (.leaf [0, 5, 7, 53]) (.block (.seq (.leaf [0, 5, 7, 53, 63]) (.cond (.seq (.leaf [4]) (.leaf [4])) (.seq (.leaf [0, 5, 7, 53, 66]) (.cond (.seq (.leaf [4]) (.leaf [4])) (.seq (.leaf [0, 5, 7, 69]) (.cond (.seq (.leaf [7]) (.seq (.leaf [4]) (.leaf [4]))) (.leaf [7]))))))))) (.leaf [7]))) (.seq (.leaf [4]) (.leaf [4])))))))))

noncomputable def spec_l20Tree_ctx : Ctx := ⟨tlook tys, olook [(61, F_spec_l20Rd_pick), (63, F_spec_l20Order), (73, F_spec_l20Rd_odd)], ioF, 1, false, []⟩

theorem spec_l20Tree_n1_l (x37 : Int) (x38 : List Int) (x39 : Int) : Link spec_l20Tree_ctx LL (Code.seq (cq [0] (bodyOf Try.f60)) (Code.seq (cq [0,1] (bodyOf Try.f60)) (Code.seq (cq [0,1,1] (bodyOf Try.f60)) (Code.seq (cq [0,1,1,1] (bodyOf Try.f60)) (cq [0,1,1,1,1] (bodyOf Try.f60)))))) (Ann.seq (aq [0] spec_l20Tree_an) (Ann.seq (aq [0,1] spec_l20Tree_an) (Ann.seq (aq [0,1,1] spec_l20Tree_an) (Ann.seq (aq [0,1,1,1] spec_l20Tree_an) (aq [0,1,1,1,1] spec_l20Tree_an))))) ⟨mkE 80 0 [(0, .ptr 0 0), (1, dI x37)], [some (.box [dV x38, dI x39])]⟩ (spec_l20Tree_n1 x38 x39) (fun (t : Int × Int × Int × (List Int) × (List Int)) => (Exit.normal, ⟨mkE 80 0 [(0, .ptr 0 0), (1, dI x37), (5, dI t.1), (6, .slc 1), (7, .slc 2), (8, dI t.2.1)], [some (.box [dV x38, dI t.2.2.1]), some (sI t.2.2.2.1), some (sI t.2.2.2.2)]⟩)) := .of fun K h => by
  simp only [spec_l20Tree_n1, wpW] at h
  exact .of (by kernel_rfl) h

theorem spec_l20Tree_n2_l (x37 : Int) (x511 : Int) (x518 : Int) (x38 : List Int) (x519 : Int) (x514 : List Int) (x516 : List Int) : Link spec_l20Tree_ctx LL (cq [0,0,1,1,1,1,1] (bodyOf Try.f60)) (aq [0,0,1,1,1,1,1] spec_l20Tree_an) ⟨mkE 80 0 [(0, .ptr 0 0), (1, dI x37), (5, dI x511), (6, .slc 1), (7, .slc 2), (8, dI x518)], [some (.box [dV x38, dI x519]), some (sI x514), some (sI x516)]⟩ (spec_l20Tree_n2) (fun (t : Unit) => (Exit.normal, ⟨mkE 80 0 [(0, .ptr 0 0), (1, dI x37), (5, dI x511), (6, .slc 1), (7, .slc 2), (8, dI x518), (9, dI 1)], [some (.box [dV x38, dI x519]), some (sI x514), some (sI x516)]⟩)) := .of fun K h => by
  simp only [spec_l20Tree_n2, wpW] at h
  exact .of (by kernel_rfl) h

theorem spec_l20Tree_n3_l (x37 : Int) (x511 : Int) (x518 : Int) (x589 : Int) (x38 : List Int) (x590 : Int) (x514 : List Int) (x591 : List Int) : Link spec_l20Tree_ctx LL (cq [0,0,1,0,1,1,1,1,1] (bodyOf Try.f60)) (aq [0,0,1,0,1,1,1,1,1] spec_l20Tree_an) ⟨mkE 80 0 [(0, .ptr 0 0), (1, dI x37), (5, dI x511), (6, .slc 1), (7, .slc 2), (8, dI x518), (9, dI x589)], [some (.box [dV x38, dI x590]), some (sI x514), some (sI x591)]⟩ (spec_l20Tree_n3 x511 x518 x589 x38 x590 x514 x591) (Sum.elim (fun (t : Int × Int × (List Int)) => (Exit.normal, ⟨mkE 80 0 [(0, .ptr 0 0), (1, dI x37), (5, dI x511), (6, .slc 1), (7, .slc 2), (8, dI x518), (9, dI t.1)], [some (.box [dV x38, dI t.2.1]), some (sI x514), some (sI t.2.2)]⟩)) (fun (t : Int × (List Int)) => ((Exit.exit 0), ⟨mkE 80 0 [(0, .ptr 0 0), (1, dI x37), (5, dI x511), (7, .slc 1)], [some (.box [dV x38, dI t.1]), some (sI t.2)]⟩))) := .of fun K h => by
  simp only [spec_l20Tree_n3, wpW] at h
  exact .of (by kernel_rfl) h

def spec_l20Tree_n4_l (x37 : Int) (x511 : Int) (x518 : Int) (x38 : List Int) (x519 : Int) (x514 : List Int) (x516 : List Int) := (link_loop (mk := fun (s : Int × Int × (List Int)) => ⟨mkE 80 0 [(0, .ptr 0 0), (1, dI x37), (5, dI x511), (6, .slc 1), (7, .slc 2), (8, dI x518), (9, dI s.1)], [some (.box [dV x38, dI s.2.1]), some (sI x514), some (sI s.2.2)]⟩) (fin := (fun (t : Int × (List Int)) => ((Exit.exit 0), ⟨mkE 80 0 [(0, .ptr 0 0), (1, dI x37), (5, dI x511), (7, .slc 1)], [some (.box [dV x38, dI t.1]), some (sI t.2)]⟩))) (by
  rintro t f K h
  · exact h) (fun s => link_map (spec_l20Tree_n3_l x37 x511 x518 s.1 x38 s.2.1 x514 s.2.2) (Sum.elim (fun (t : Int × Int × (List Int)) => Sum.inl (t.1, t.2.1, t.2.2)) (fun (t : Int × (List Int)) => Sum.inr t)) (by
  rintro (t | t)
  · kernel_rfl
  · kernel_rfl)) (1, x519, x516))

def spec_l20Tree_n5_l (x37 : Int) (x511 : Int) (x518 : Int) (x38 : List Int) (x519 : Int) (x514 : List Int) (x516 : List Int) := (link_block (fin2 := (fun (t : Int × (List Int)) => (Exit.normal, ⟨mkE 80 0 [(0, .ptr 0 0), (1, dI x37), (5, dI x511), (7, .slc 1)], [some (.box [dV x38, dI t.1]), some (sI t.2)]⟩))) (id := 0) (spec_l20Tree_n4_l x37 x511 x518 x38 x519 x514 x516) (fun (t : Int × (List Int)) => (t.1, t.2)) (by
  rintro t K h
  · exact Eq.mp (by kernel_rfl) h))

def spec_l20Tree_n6_l (x37 : Int) (x511 : Int) (x518 : Int) (x38 : List Int) (x519 : Int) (x514 : List Int) (x516 : List Int) := (link_seq (spec_l20Tree_n2_l x37 x511 x518 x38 x519 x514 x516) (fun (t : Unit) => (spec_l20Tree_n5_l x37 x511 x518 x38 x519 x514 x516)))

theorem spec_l20Tree_n7_l (x37 : Int) (x511 : Int) (x38 : List Int) (x590 : Int) (x591 : List Int) : Link spec_l20Tree_ctx LL (cq [1,1,1,1,1,1] (bodyOf Try.f60)) (aq [1,1,1,1,1,1] spec_l20Tree_an) ⟨mkE 80 0 [(0, .ptr 0 0), (1, dI x37), (5, dI x511), (7, .slc 1)], [some (.box [dV x38, dI x590]), some (sI x591)]⟩ (spec_l20Tree_n7 x37 x511 x38 x590 x591) (fun (t : Int × (List Int)) => (Exit.ret, ⟨mkE 80 0 [(4, .slc 1)], [some (.box [dV x38, dI t.1]), some (sI t.2)]⟩)) := .of fun K h => by
  simp only [spec_l20Tree_n7, wpW] at h
  exact .of (by kernel_rfl) h

def spec_l20Tree_n8_l (x37 : Int) (x511 : Int) (x518 : Int) (x38 : List Int) (x519 : Int) (x514 : List Int) (x516 : List Int) := (link_seq (spec_l20Tree_n6_l x37 x511 x518 x38 x519 x514 x516) (fun (t : Int × (List Int)) => (spec_l20Tree_n7_l x37 x511 x38 t.1 t.2)))

def spec_l20Tree_n9_l (x37 : Int) (x38 : List Int) (x39 : Int) := (link_group (c := (cq [0,1,1,1,1] (bodyOf Try.f60))) (a := (aq [0,1,1,1,1] spec_l20Tree_an)) [(cq [0] (bodyOf Try.f60)), (cq [0,1] (bodyOf Try.f60)), (cq [0,1,1] (bodyOf Try.f60)), (cq [0,1,1,1] (bodyOf Try.f60))] [(aq [0] spec_l20Tree_an), (aq [0,1] spec_l20Tree_an), (aq [0,1,1] spec_l20Tree_an), (aq [0,1,1,1] spec_l20Tree_an)] rfl (link_seq (spec_l20Tree_n1_l x37 x38 x39) (fun (t : Int × Int × Int × (List Int) × (List Int)) => (spec_l20Tree_n8_l x37 t.1 t.2.1 x38 t.2.2.1 t.2.2.2.1 t.2.2.2.2))))

theorem spec_l20Tree_e (x37 : Int) (x38 : List Int) (x39 : Int) {r : AV} {H' : Heap} (h : (Ans.mk _ (spec_l20Tree x37 x38 x39) (fun (t : Int × (List Int)) => (.slc 1, [some (.box [dV x38, dI t.1]), some (sI t.2)])) [] none).run = some (r, H')) : Awp spec_l20Tree_ctx LL (bodyOf Try.f60) spec_l20Tree_an ⟨mkE 80 0 [(0, .ptr 0 0), (1, dI x37)], [some (.box [dV x38, dI x39])]⟩ (Ret (tlook tys) Try.f60.results.toList r H') :=
  ret_of' (Link.cast (by kernel_rfl) (by kernel_rfl) (spec_l20Tree_n9_l x37 x38 x39)) (by unfold spec_l20Tree; kernel_rfl) (by
  intro t
  exact ret_mk [.slc 1] (by kernel_rfl) (by kernel_rfl) (by kernel_rfl) (by kernel_rfl)) h

def F_spec_l20Tree : Fun := fun avs H =>
  match avs, H with
  | [.ptr 0 0, .dat (.int .i64) x37], [some (.box [.dat (.list (.int .u8)) x38, .dat (.int .i64) x39])] => ⟨_, spec_l20Tree x37 x38 x39, fun (t : Int × (List Int)) => (.slc 1, [some (.box [dV x38, dI t.1]), some (sI t.2)]), [], none⟩
  | _, _ => Ans.no

theorem spec_l20Tree_sound : Sound Try.prog 60 F_spec_l20Tree := by
  refine fn_sound' (C := spec_l20Tree_ctx) (c := bodyOf Try.f60) (cok_of tys_ok (allc spec_l20Rd_pick_sound (allc spec_l20Order_sound (allc spec_l20Rd_odd_sound alln))) (allc Try.call61 (allc Try.call63 (allc Try.call73 alln))) (by kernel_rfl)) Try.func60 (by kernel_rfl) LL spec_l20Tree_an ?_
  intro avs H r H' h
  unfold F_spec_l20Tree at h
  split at h
  · refine Awp.cast ?_ ?_ ?_ (spec_l20Tree_e _ _ _ h) <;> kernel_rfl
  · simp [Ans.no, Ans.run] at h


/-! loop.example/headtrees/spec.l1In -/

def spec_l1In_an : Ann := (.seq (.leaf [0, 1, 2]) (.seq (.leaf [6]) (.leaf [6])))

noncomputable def spec_l1In_ctx : Ctx := ⟨tlook tys, olook [], ioF, 0, false, []⟩

theorem spec_l1In_n1_l (x780 : Int) (x781 : Int) (x782 : Int) : Link spec_l1In_ctx LL (bodyOf Try.f65) spec_l1In_an ⟨mkE 15 0 [(0, dI x780), (1, dI x781), (2, dI x782)], []⟩ (spec_l1In_n1 x780 x781 x782) (fun (t : Bool) => (Exit.ret, ⟨mkE 15 0 [(6, dB t)], []⟩)) := .of fun K h => by
  simp only [spec_l1In_n1, wpW] at h
  exact .of (by kernel_rfl) h

theorem spec_l1In_e (x780 : Int) (x781 : Int) (x782 : Int) {r : AV} {H' : Heap} (h : (Ans.mk _ (spec_l1In x780 x781 x782) (fun (t : Bool) => (dB t, [])) [] none).run = some (r, H')) : Awp spec_l1In_ctx LL (bodyOf Try.f65) spec_l1In_an ⟨mkE 15 0 [(0, dI x780), (1, dI x781), (2, dI x782)], []⟩ (Ret (tlook tys) Try.f65.results.toList r H') :=
  ret_of' (spec_l1In_n1_l x780 x781 x782) (by unfold spec_l1In; kernel_rfl) (by
  intro t
  exact ret_mk [dB t] (by kernel_rfl) (by kernel_rfl) (by kernel_rfl) (by kernel_rfl)) h

def F_spec_l1In : Fun := fun avs H =>
  match avs, H with
  | [.dat (.int .i64) x780, .dat (.int .i64) x781, .dat (.int .i64) x782], [] => ⟨_, spec_l1In x780 x781 x782, fun (t : Bool) => (dB t, []), [], none⟩
  | _, _ => Ans.no

theorem spec_l1In_sound : Sound Try.prog 65 F_spec_l1In := by
  refine fn_sound' (C := spec_l1In_ctx) (c := bodyOf Try.f65) (cok_of tys_ok (alln) (alln) (by kernel_rfl)) Try.func65 (by kernel_rfl) LL spec_l1In_an ?_
  intro avs H r H' h
  unfold F_spec_l1In at h
  split at h
  · refine Awp.cast ?_ ?_ ?_ (spec_l1In_e _ _ _ h) <;> kernel_rfl
  · simp [Ans.no, Ans.run] at h


/-! loop.example/headtrees/spec.TreeOk -/

def spec_TreeOk_an : Ann := (.seq (.leaf [0]) (.seq (.leaf [0, 3]) (.seq (.seq (.leaf [0, 3, 12]) (.cond (.seq (.leaf [2]) (.leaf [2])) (.leaf [0, 3]))) (.seq (.leaf [0, 3, 4]) (.seq (.seq (.leaf [0, 3, 4, 5]) (.block (.loop (.seq (.seq (.leaf [0, 3, 4, 5, 15]) (.cond (.leaf [0, 3, 4, 5]) (.leaf [4]))) (.seq (.block (.seq (.seq (.leaf [0, 3, 4, 5, 33]) (.cond (.seq (.leaf [2]) (.leaf [2])) (.leaf [0, 3, 4, 5]))) (.seq (.seq (.leaf [0, 3, 4, 5, 38]) (.cond (.leaf [0, 3, 4, 5]) (.leaf [0, 3, 4, 5]))) (.seq (.leaf [0, 3, 4, 5, 6]) (.seq (.seq (.leaf [0, 3, 4, 5, 6, 7]) (.block (.loop (.seq (.seq (.leaf [0, 3, 4, 5, 6, 7, 49]) (.cond (.leaf [0, 3, 4, 5, 6, 7]) (.leaf [0, 3, 4, 5, 6]))) (.seq (.block (.seq (.leaf [0, 3, 4, 5, 6, 7]) (.seq (.leaf [0, 3, 4, 5, 6, 7, 60]) (.cond (.seq (.leaf [2]) (.leaf [2])) (.leaf [0, 3, 4, 5, 6, 7]))))) (.leaf [0, 3, 4, 5, 6, 7])))))) (.seq (.leaf [0, 3, 4, 5, 62]) (.cond (.seq (.leaf [2]) (.leaf [2])) (.leaf [0, 3, 4, 5])))))))) (.leaf [0, 3, 4, 5])))))) (.seq (.leaf [2]) (.leaf [2])))))))

noncomputable def spec_TreeOk_ctx : Ctx := ⟨tlook tys, olook [(65, F_spec_l1In)], ioF, 0, false, []⟩

theorem spec_TreeOk_n1_l (x776 : List Int) : Link spec_TreeOk_ctx LL (Code.seq (cq [0] (bodyOf Try.f42)) (Code.seq (cq [0,1] (bodyOf Try.f42)) (Code.seq (cq [0,1,1] (bodyOf Try.f42)) (cq [0,1,1,1] (bodyOf Try.f42))))) (Ann.seq (aq [0] spec_TreeOk_an) (Ann.seq (aq [0,1] spec_TreeOk_an) (Ann.seq (aq [0,1,1] spec_TreeOk_an) (aq [0,1,1,1] spec_TreeOk_an)))) ⟨mkE 65 0 [(0, dL x776)], []⟩ (spec_TreeOk_n1 x776) (Sum.elim (fun (t : Int) => (Exit.normal, ⟨mkE 65 0 [(0, dL x776), (3, dI t), (4, dI 0)], []⟩)) (fun (t : Bool) => (Exit.ret, ⟨mkE 65 0 [(2, dB t)], []⟩))) := .of fun K h => by
  simp only [spec_TreeOk_n1, wpW] at h
  exact .of (by kernel_rfl) h

theorem spec_TreeOk_n2_l (x776 : List Int) (x790 : Int) : Link spec_TreeOk_ctx LL (cq [0,0,1,1,1,1] (bodyOf Try.f42)) (aq [0,0,1,1,1,1] spec_TreeOk_an) ⟨mkE 65 0 [(0, dL x776), (3, dI x790), (4, dI 0)], []⟩ (spec_TreeOk_n2) (fun (t : Unit) => (Exit.normal, ⟨mkE 65 0 [(0, dL x776), (3, dI x790), (4, dI 0), (5, dI 0)], []⟩)) := .of fun K h => by
  simp only [spec_TreeOk_n2, wpW] at h
  exact .of (by kernel_rfl) h

theorem spec_TreeOk_n3_l (x776 : List Int) (x790 : Int) (x857 : Int) (x858 : Int) : Link spec_TreeOk_ctx LL (cq [0,0,0,1,0,1,1,1,1] (bodyOf Try.f42)) (aq [0,0,0,1,0,1,1,1,1] spec_TreeOk_an) ⟨mkE 65 0 [(0, dL x776), (3, dI x790), (4, dI x857), (5, dI x858)], []⟩ (spec_TreeOk_n3 x790 x857 x858) (Sum.elim (fun (t : Unit) => (Exit.normal, ⟨mkE 65 0 [(0, dL x776), (3, dI x790), (4, dI x857), (5, dI x858)], []⟩)) (fun (t : Int) => ((Exit.exit 0), ⟨mkE 65 0 [(4, dI t)], []⟩))) := .of fun K h => by
  simp only [spec_TreeOk_n3, wpW] at h
  exact .of (by kernel_rfl) h

theorem spec_TreeOk_n4_l (x776 : List Int) (x790 : Int) (x857 : Int) (x858 : Int) : Link spec_TreeOk_ctx LL (Code.seq (cq [0,0,0,1,0,0,1,0,1,1,1,1] (bodyOf Try.f42)) (Code.seq (cq [0,1,0,0,1,0,0,1,0,1,1,1,1] (bodyOf Try.f42)) (cq [0,1,1,0,0,1,0,0,1,0,1,1,1,1] (bodyOf Try.f42)))) (Ann.seq (aq [0,0,0,1,0,0,1,0,1,1,1,1] spec_TreeOk_an) (Ann.seq (aq [0,1,0,0,1,0,0,1,0,1,1,1,1] spec_TreeOk_an) (aq [0,1,1,0,0,1,0,0,1,0,1,1,1,1] spec_TreeOk_an))) ⟨mkE 65 0 [(0, dL x776), (3, dI x790), (4, dI x857), (5, dI x858)], []⟩ (spec_TreeOk_n4 x776 x790 x857 x858) (Sum.elim (fun (t : Int × Int) => (Exit.normal, ⟨mkE 65 0 [(0, dL x776), (3, dI x790), (4, dI t.1), (5, dI x858), (6, dI t.2)], []⟩)) (fun (t : Bool) => (Exit.ret, ⟨mkE 65 0 [(2, dB t)], []⟩))) := .of fun K h => by
  simp only [spec_TreeOk_n4, wpW] at h
  exact .of (by kernel_rfl) h

theorem spec_TreeOk_n5_l (x776 : List Int) (x790 : Int) (x886 : Int) (x858 : Int) (x887 : Int) : Link spec_TreeOk_ctx LL (cq [0,0,1,1,1,0,0,1,0,0,1,0,1,1,1,1] (bodyOf Try.f42)) (aq [0,0,1,1,1,0,0,1,0,0,1,0,1,1,1,1] spec_TreeOk_an) ⟨mkE 65 0 [(0, dL x776), (3, dI x790), (4, dI x886), (5, dI x858), (6, dI x887)], []⟩ (spec_TreeOk_n5) (fun (t : Unit) => (Exit.normal, ⟨mkE 65 0 [(0, dL x776), (3, dI x790), (4, dI x886), (5, dI x858), (6, dI x887), (7, dI 0)], []⟩)) := .of fun K h => by
  simp only [spec_TreeOk_n5, wpW] at h
  exact .of (by kernel_rfl) h

theorem spec_TreeOk_n6_l (x776 : List Int) (x790 : Int) (x886 : Int) (x858 : Int) (x903 : Int) (x904 : Int) : Link spec_TreeOk_ctx LL (cq [0,0,1,0,1,1,1,0,0,1,0,0,1,0,1,1,1,1] (bodyOf Try.f42)) (aq [0,0,1,0,1,1,1,0,0,1,0,0,1,0,1,1,1,1] spec_TreeOk_an) ⟨mkE 65 0 [(0, dL x776), (3, dI x790), (4, dI x886), (5, dI x858), (6, dI x903), (7, dI x904)], []⟩ (spec_TreeOk_n6 x776 x790 x903 x904) (Sum.elim (fun (t : Int × Int) => (Exit.normal, ⟨mkE 65 0 [(0, dL x776), (3, dI x790), (4, dI x886), (5, dI x858), (6, dI t.1), (7, dI t.2)], []⟩)) (Sum.elim (fun (t : Bool) => (Exit.ret, ⟨mkE 65 0 [(2, dB t)], []⟩)) (fun (t : Int) => ((Exit.exit 2), ⟨mkE 65 0 [(0, dL x776), (3, dI x790), (4, dI x886), (5, dI x858), (6, dI t)], []⟩)))) := .of fun K h => by
  simp only [spec_TreeOk_n6, wpW] at h
  exact .of (by kernel_rfl) h

def spec_TreeOk_n7_l (x776 : List Int) (x790 : Int) (x886 : Int) (x858 : Int) (x887 : Int) := (link_loop (mk := fun (s : Int × Int) => ⟨mkE 65 0 [(0, dL x776), (3, dI x790), (4, dI x886), (5, dI x858), (6, dI s.1), (7, dI s.2)], []⟩) (fin := (Sum.elim (fun (t : Bool) => (Exit.ret, ⟨mkE 65 0 [(2, dB t)], []⟩)) (fun (t : Int) => ((Exit.exit 2), ⟨mkE 65 0 [(0, dL x776), (3, dI x790), (4, dI x886), (5, dI x858), (6, dI t)], []⟩)))) (by
  rintro (t | t) f K h
  · exact h
  · exact h) (fun s => link_map (spec_TreeOk_n6_l x776 x790 x886 x858 s.1 s.2) (Sum.elim (fun (t : Int × Int) => Sum.inl (t.1, t.2)) (Sum.elim (fun (t : Bool) => Sum.inr (Sum.inl t)) (fun (t : Int) => Sum.inr (Sum.inr t)))) (by
  rintro (t | t | t)
  · kernel_rfl
  · kernel_rfl
  · kernel_rfl)) (x887, 0))

def spec_TreeOk_n8_l (x776 : List Int) (x790 : Int) (x886 : Int) (x858 : Int) (x887 : Int) := (link_block (fin2 := (Sum.elim (fun (t : Int) => (Exit.normal, ⟨mkE 65 0 [(0, dL x776), (3, dI x790), (4, dI x886), (5, dI x858), (6, dI t)], []⟩)) (fun (t : Bool) => (Exit.ret, ⟨mkE 65 0 [(2, dB t)], []⟩)))) (id := 2) (spec_TreeOk_n7_l x776 x790 x886 x858 x887) (Sum.elim (fun (t : Bool) => (Sum.inr t)) (fun (t : Int) => (Sum.inl t))) (by
  rintro (t | t) K h
  · exact Eq.mp (by kernel_rfl) h
  · exact Eq.mp (by kernel_rfl) h))

def spec_TreeOk_n9_l (x776 : List Int) (x790 : Int) (x886 : Int) (x858 : Int) (x887 : Int) := (link_seq (spec_TreeOk_n5_l x776 x790 x886 x858 x887) (fun (t : Unit) => (spec_TreeOk_n8_l x776 x790 x886 x858 x887)))

theorem spec_TreeOk_n10_l (x776 : List Int) (x790 : Int) (x886 : Int) (x858 : Int) (x903 : Int) : Link spec_TreeOk_ctx LL (cq [1,1,1,1,0,0,1,0,0,1,0,1,1,1,1] (bodyOf Try.f42)) (aq [1,1,1,1,0,0,1,0,0,1,0,1,1,1,1] spec_TreeOk_an) ⟨mkE 65 0 [(0, dL x776), (3, dI x790), (4, dI x886), (5, dI x858), (6, dI x903)], []⟩ (spec_TreeOk_n10 x903) (Sum.elim (fun (t : Unit) => (Exit.normal, ⟨mkE 65 0 [(0, dL x776), (3, dI x790), (4, dI x886), (5, dI x858)], []⟩)) (fun (t : Bool) => (Exit.ret, ⟨mkE 65 0 [(2, dB t)], []⟩))) := .of fun K h => by
  simp only [spec_TreeOk_n10, wpW] at h
  exact .of (by kernel_rfl) h

def spec_TreeOk_n11_l (x776 : List Int) (x790 : Int) (x886 : Int) (x858 : Int) (x887 : Int) := (link_seq2 (spec_TreeOk_n9_l x776 x790 x886 x858 x887) (fun (t : Int) => (spec_TreeOk_n10_l x776 x790 x886 x858 t)) (fun (t : Bool) => (Sum.inr t)) (by
  rintro t
  · kernel_rfl) (by
  rintro t f K h
  · exact h))

def spec_TreeOk_n12_l (x776 : List Int) (x790 : Int) (x857 : Int) (x858 : Int) := (link_group (c := (cq [0,1,1,0,0,1,0,0,1,0,1,1,1,1] (bodyOf Try.f42))) (a := (aq [0,1,1,0,0,1,0,0,1,0,1,1,1,1] spec_TreeOk_an)) [(cq [0,0,0,1,0,0,1,0,1,1,1,1] (bodyOf Try.f42)), (cq [0,1,0,0,1,0,0,1,0,1,1,1,1] (bodyOf Try.f42))] [(aq [0,0,0,1,0,0,1,0,1,1,1,1] spec_TreeOk_an), (aq [0,1,0,0,1,0,0,1,0,1,1,1,1] spec_TreeOk_an)] rfl (link_seq2 (spec_TreeOk_n4_l x776 x790 x857 x858) (fun (t : Int × Int) => (link_map (fin2 := (Sum.elim (fun (t : Int) => (Exit.normal, ⟨mkE 65 0 [(0, dL x776), (3, dI x790), (4, dI t), (5, dI x858)], []⟩)) (fun (t : Bool) => (Exit.ret, ⟨mkE 65 0 [(2, dB t)], []⟩)))) (spec_TreeOk_n11_l x776 x790 t.1 x858 t.2) (Sum.elim (fun (u : Unit) => (Sum.inl t.1)) (fun (u : Bool) => (Sum.inr u))) (by
  rintro (t | t)
  · kernel_rfl
  · kernel_rfl))) (fun (t : Bool) => (Sum.inr t)) (by
  rintro t
  · kernel_rfl) (by
  rintro t f K h
  · exact h)))

def spec_TreeOk_n13_l (x776 : List Int) (x790 : Int) (x857 : Int) (x858 : Int) := (link_block (fin2 := (Sum.elim (fun (t : Int) => (Exit.normal, ⟨mkE 65 0 [(0, dL x776), (3, dI x790), (4, dI t), (5, dI x858)], []⟩)) (fun (t : Bool) => (Exit.ret, ⟨mkE 65 0 [(2, dB t)], []⟩)))) (id := 1) (spec_TreeOk_n12_l x776 x790 x857 x858) (Sum.elim (fun (t : Int) => (Sum.inl t)) (fun (t : Bool) => (Sum.inr t))) (by
  rintro (t | t) K h
  · exact Eq.mp (by kernel_rfl) h
  · exact Eq.mp (by kernel_rfl) h))

theorem spec_TreeOk_n14_l (x776 : List Int) (x790 : Int) (x886 : Int) (x858 : Int) : Link spec_TreeOk_ctx LL (cq [1,1,0,0,1,0,1,1,1,1] (bodyOf Try.f42)) (aq [1,1,0,0,1,0,1,1,1,1] spec_TreeOk_an) ⟨mkE 65 0 [(0, dL x776), (3, dI x790), (4, dI x886), (5, dI x858)], []⟩ (spec_TreeOk_n14 x858) (fun (t : Int) => (Exit.normal, ⟨mkE 65 0 [(0, dL x776), (3, dI x790), (4, dI x886), (5, dI t)], []⟩)) := .of fun K h => by
  simp only [spec_TreeOk_n14, wpW] at h
  exact .of (by kernel_rfl) h

def spec_TreeOk_n15_l (x776 : List Int) (x790 : Int) (x857 : Int) (x858 : Int) := (link_seq2 (spec_TreeOk_n13_l x776 x790 x857 x858) (fun (t : Int) => (link_map (fin2 := (Sum.elim (fun (t : Int × Int) => (Exit.normal, ⟨mkE 65 0 [(0, dL x776), (3, dI x790), (4, dI t.1), (5, dI t.2)], []⟩)) (fun (t : Bool) => (Exit.ret, ⟨mkE 65 0 [(2, dB t)], []⟩)))) (spec_TreeOk_n14_l x776 x790 t x858) (fun (u : Int) => (Sum.inl (t, u))) (by
  rintro t
  · kernel_rfl))) (fun (t : Bool) => (Sum.inr t)) (by
  rintro t
  · kernel_rfl) (by
  rintro t f K h
  · exact h))

def spec_TreeOk_n16_l (x776 : List Int) (x790 : Int) (x857 : Int) (x858 : Int) := (link_seq2 (spec_TreeOk_n3_l x776 x790 x857 x858) (fun (t : Unit) => (link_map (fin2 := (Sum.elim (fun (t : Int × Int) => (Exit.normal, ⟨mkE 65 0 [(0, dL x776), (3, dI x790), (4, dI t.1), (5, dI t.2)], []⟩)) (Sum.elim (fun (t : Bool) => (Exit.ret, ⟨mkE 65 0 [(2, dB t)], []⟩)) (fun (t : Int) => ((Exit.exit 0), ⟨mkE 65 0 [(4, dI t)], []⟩))))) (spec_TreeOk_n15_l x776 x790 x857 x858) (Sum.elim (fun (t : Int × Int) => (Sum.inl (t.1, t.2))) (fun (t : Bool) => (Sum.inr (Sum.inl t)))) (by
  rintro (t | t)
  · kernel_rfl
  · kernel_rfl))) (fun (t : Int) => (Sum.inr (Sum.inr t))) (by
  rintro t
  · kernel_rfl) (by
  rintro t f K h
  · exact h))

def spec_TreeOk_n17_l (x776 : List Int) (x790 : Int) := (link_loop (mk := fun (s : Int × Int) => ⟨mkE 65 0 [(0, dL x776), (3, dI x790), (4, dI s.1), (5, dI s.2)], []⟩) (fin := (Sum.elim (fun (t : Bool) => (Exit.ret, ⟨mkE 65 0 [(2, dB t)], []⟩)) (fun (t : Int) => ((Exit.exit 0), ⟨mkE 65 0 [(4, dI t)], []⟩)))) (by
  rintro (t | t) f K h
  · exact h
  · exact h) (fun s => link_map (spec_TreeOk_n16_l x776 x790 s.1 s.2) (Sum.elim (fun (t : Int × Int) => Sum.inl (t.1, t.2)) (Sum.elim (fun (t : Bool) => Sum.inr (Sum.inl t)) (fun (t : Int) => Sum.inr (Sum.inr t)))) (by
  rintro (t | t | t)
  · kernel_rfl
  · kernel_rfl
  · kernel_rfl)) (0, 0))

def spec_TreeOk_n18_l (x776 : List Int) (x790 : Int) := (link_block (fin2 := (Sum.elim (fun (t : Int) => (Exit.normal, ⟨mkE 65 0 [(4, dI t)], []⟩)) (fun (t : Bool) => (Exit.ret, ⟨mkE 65 0 [(2, dB t)], []⟩)))) (id := 0) (spec_TreeOk_n17_l x776 x790) (Sum.elim (fun (t : Bool) => (Sum.inr t)) (fun (t : Int) => (Sum.inl t))) (by
  rintro (t | t) K h
  · exact Eq.mp (by kernel_rfl) h
  · exact Eq.mp (by kernel_rfl) h))

def spec_TreeOk_n19_l (x776 : List Int) (x790 : Int) := (link_seq (spec_TreeOk_n2_l x776 x790) (fun (t : Unit) => (spec_TreeOk_n18_l x776 x790)))

theorem spec_TreeOk_n20_l (x857 : Int) : Link spec_TreeOk_ctx LL (cq [1,1,1,1,1] (bodyOf Try.f42)) (aq [1,1,1,1,1] spec_TreeOk_an) ⟨mkE 65 0 [(4, dI x857)], []⟩ (spec_TreeOk_n20 x857) (fun (t : Bool) => (Exit.ret, ⟨mkE 65 0 [(2, dB t)], []⟩)) := .of fun K h => by
  simp only [spec_TreeOk_n20, wpW] at h
  exact .of (by kernel_rfl) h

def spec_TreeOk_n21_l (x776 : List Int) (x790 : Int) := (link_seq2 (spec_TreeOk_n19_l x776 x790) (fun (t : Int) => (spec_TreeOk_n20_l t)) (fun (t : Bool) => t) (by
  rintro t
  · kernel_rfl) (by
  rintro t f K h
  · exact h))

def spec_TreeOk_n22_l (x776 : List Int) := (link_group (c := (cq [0,1,1,1] (bodyOf Try.f42))) (a := (aq [0,1,1,1] spec_TreeOk_an)) [(cq [0] (bodyOf Try.f42)), (cq [0,1] (bodyOf Try.f42)), (cq [0,1,1] (bodyOf Try.f42))] [(aq [0] spec_TreeOk_an), (aq [0,1] spec_TreeOk_an), (aq [0,1,1] spec_TreeOk_an)] rfl (link_seq2 (spec_TreeOk_n1_l x776) (fun (t : Int) => (spec_TreeOk_n21_l x776 t)) (fun (t : Bool) => t) (by
  rintro t
  · kernel_rfl) (by
  rintro t f K h
  · exact h)))

theorem spec_TreeOk_e (x776 : List Int) {r : AV} {H' : Heap} (h : (Ans.mk _ (spec_TreeOk x776) (fun (t : Bool) => (dB t, [])) [] none).run = some (r, H')) : Awp spec_TreeOk_ctx LL (bodyOf Try.f42) spec_TreeOk_an ⟨mkE 65 0 [(0, dL x776)], []⟩ (Ret (tlook tys) Try.f42.results.toList r H') :=
  ret_of' (Link.cast (by kernel_rfl) (by kernel_rfl) (spec_TreeOk_n22_l x776)) (by unfold spec_TreeOk; kernel_rfl) (by
  intro t
  exact ret_mk [dB t] (by kernel_rfl) (by kernel_rfl) (by kernel_rfl) (by kernel_rfl)) h

def F_spec_TreeOk : Fun := fun avs H =>
  match avs, H with
  | [.dat (.list (.int .i64)) x776], [] => ⟨_, spec_TreeOk x776, fun (t : Bool) => (dB t, []), [], none⟩
  | _, _ => Ans.no

theorem spec_TreeOk_sound : Sound Try.prog 42 F_spec_TreeOk := by
  refine fn_sound' (C := spec_TreeOk_ctx) (c := bodyOf Try.f42) (cok_of tys_ok (allc spec_l1In_sound alln) (allc Try.call65 alln) (by kernel_rfl)) Try.func42 (by kernel_rfl) LL spec_TreeOk_an ?_
  intro avs H r H' h
  unfold F_spec_TreeOk at h
  split at h
  · refine Awp.cast ?_ ?_ ?_ (spec_TreeOk_e _ h) <;> kernel_rfl
  · simp [Ans.no, Ans.run] at h


/-! loop.example/headtrees/spec.OrderOk -/

def spec_OrderOk_an : Ann := (.seq (.leaf [0, 1]) (.seq (.seq (.leaf [0, 1, 5]) (.block (.loop (.seq (.seq (.leaf [0, 1, 5, 10]) (.cond (.leaf [0, 1, 5]) (.leaf [0, 1]))) (.seq (.block (.seq (.seq (.leaf [0, 1, 5, 19]) (.cond (.seq (.leaf [4]) (.leaf [4])) (.leaf [0, 1, 5]))) (.seq (.leaf [0, 1, 5, 6]) (.block (.loop (.seq (.seq (.leaf [0, 1, 5, 6, 22]) (.cond (.leaf [0, 1, 5, 6]) (.leaf [0, 1, 5]))) (.seq (.block (.seq (.draw [] [0, 1, 2, 3, 4, 5, 6, 7, 8] [] [0, 1, 5, 6, 33]) (.cond (.seq (.leaf [4]) (.leaf [4])) (.leaf [0, 1, 5, 6])))) (.leaf [0, 1, 5, 6])))))))) (.leaf [0, 1, 5])))))) (.seq (.leaf [4]) (.leaf [4]))))

noncomputable def spec_OrderOk_ctx : Ctx := ⟨tlook tys, olook [(65, F_spec_l1In)], ioF, 0, false, []⟩

theorem spec_OrderOk_n1_l (x936 : List Int) (x937 : Int) : Link spec_OrderOk_ctx LL (cq [0] (bodyOf Try.f74)) (aq [0] spec_OrderOk_an) ⟨mkE 42 0 [(0, dL x936), (1, dI x937)], []⟩ (spec_OrderOk_n1) (fun (t : Unit) => (Exit.normal, ⟨mkE 42 0 [(0, dL x936), (1, dI x937)], []⟩)) := .of fun K h => by
  simp only [spec_OrderOk_n1, wpW] at h
  exact .of (by kernel_rfl) h

theorem spec_OrderOk_n2_l (x936 : List Int) (x937 : Int) : Link spec_OrderOk_ctx LL (cq [0,0,1] (bodyOf Try.f74)) (aq [0,0,1] spec_OrderOk_an) ⟨mkE 42 0 [(0, dL x936), (1, dI x937)], []⟩ (spec_OrderOk_n2) (fun (t : Unit) => (Exit.normal, ⟨mkE 42 0 [(0, dL x936), (1, dI x937), (5, dI 0)], []⟩)) := .of fun K h => by
  simp only [spec_OrderOk_n2, wpW] at h
  exact .of (by kernel_rfl) h

theorem spec_OrderOk_n3_l (x936 : List Int) (x937 : Int) (x968 : Int) : Link spec_OrderOk_ctx LL (cq [0,0,0,1,0,1] (bodyOf Try.f74)) (aq [0,0,0,1,0,1] spec_OrderOk_an) ⟨mkE 42 0 [(0, dL x936), (1, dI x937), (5, dI x968)], []⟩ (spec_OrderOk_n3 x936 x968) (Sum.elim (fun (t : Unit) => (Exit.normal, ⟨mkE 42 0 [(0, dL x936), (1, dI x937), (5, dI x968)], []⟩)) (fun (t : Unit) => ((Exit.exit 0), ⟨mkE 42 0 [(0, dL x936), (1, dI x937)], []⟩))) := .of fun K h => by
  simp only [spec_OrderOk_n3, wpW] at h
  exact .of (by kernel_rfl) h

theorem spec_OrderOk_n4_l (x936 : List Int) (x937 : Int) (x968 : Int) : Link spec_OrderOk_ctx LL (Code.seq (cq [0,0,0,1,0,0,1,0,1] (bodyOf Try.f74)) (cq [0,1,0,0,1,0,0,1,0,1] (bodyOf Try.f74))) (Ann.seq (aq [0,0,0,1,0,0,1,0,1] spec_OrderOk_an) (aq [0,1,0,0,1,0,0,1,0,1] spec_OrderOk_an)) ⟨mkE 42 0 [(0, dL x936), (1, dI x937), (5, dI x968)], []⟩ (spec_OrderOk_n4 x936 x937 x968) (Sum.elim (fun (t : Unit) => (Exit.normal, ⟨mkE 42 0 [(0, dL x936), (1, dI x937), (5, dI x968), (6, dI 0)], []⟩)) (fun (t : Bool) => (Exit.ret, ⟨mkE 42 0 [(4, dB t)], []⟩))) := .of fun K h => by
  simp only [spec_OrderOk_n4, wpW] at h
  exact .of (by kernel_rfl) h

theorem spec_OrderOk_n5_l (x936 : List Int) (x937 : Int) (x968 : Int) (x987 : Int) : Link spec_OrderOk_ctx LL (cq [0,0,1,1,0,0,1,0,0,1,0,1] (bodyOf Try.f74)) (aq [0,0,1,1,0,0,1,0,0,1,0,1] spec_OrderOk_an) ⟨mkE 42 0 [(0, dL x936), (1, dI x937), (5, dI x968), (6, dI x987)], []⟩ (spec_OrderOk_n5 x936 x968 x987) (Sum.elim (fun (t : Int) => (Exit.normal, ⟨mkE 42 0 [(0, dL x936), (1, dI x937), (5, dI x968), (6, dI t)], []⟩)) (Sum.elim (fun (t : Bool) => (Exit.ret, ⟨mkE 42 0 [(4, dB t)], []⟩)) (fun (t : Unit) => ((Exit.exit 2), ⟨mkE 42 0 [(0, dL x936), (1, dI x937), (5, dI x968)], []⟩)))) := .of fun K h => by
  simp only [spec_OrderOk_n5, wpW] at h
  exact .of (by kernel_rfl) h

def spec_OrderOk_n6_l (x936 : List Int) (x937 : Int) (x968 : Int) := (link_loop (mk := fun (s : Int) => ⟨mkE 42 0 [(0, dL x936), (1, dI x937), (5, dI x968), (6, dI s)], []⟩) (fin := (Sum.elim (fun (t : Bool) => (Exit.ret, ⟨mkE 42 0 [(4, dB t)], []⟩)) (fun (t : Unit) => ((Exit.exit 2), ⟨mkE 42 0 [(0, dL x936), (1, dI x937), (5, dI x968)], []⟩)))) (by
  rintro (t | t) f K h
  · exact h
  · exact h) (fun s => link_map (spec_OrderOk_n5_l x936 x937 x968 s) (Sum.elim (fun (t : Int) => Sum.inl t) (Sum.elim (fun (t : Bool) => Sum.inr (Sum.inl t)) (fun (t : Unit) => Sum.inr (Sum.inr t)))) (by
  rintro (t | t | t)
  · kernel_rfl
  · kernel_rfl
  · kernel_rfl)) 0)

def spec_OrderOk_n7_l (x936 : List Int) (x937 : Int) (x968 : Int) := (link_block (fin2 := (Sum.elim (fun (t : Unit) => (Exit.normal, ⟨mkE 42 0 [(0, dL x936), (1, dI x937), (5, dI x968)], []⟩)) (fun (t : Bool) => (Exit.ret, ⟨mkE 42 0 [(4, dB t)], []⟩)))) (id := 2) (spec_OrderOk_n6_l x936 x937 x968) (Sum.elim (fun (t : Bool) => (Sum.inr t)) (fun (t : Unit) => (Sum.inl ()))) (by
  rintro (t | t) K h
  · exact Eq.mp (by kernel_rfl) h
  · exact Eq.mp (by kernel_rfl) h))

def spec_OrderOk_n8_l (x936 : List Int) (x937 : Int) (x968 : Int) := (link_group (c := (cq [0,1,0,0,1,0,0,1,0,1] (bodyOf Try.f74))) (a := (aq [0,1,0,0,1,0,0,1,0,1] spec_OrderOk_an)) [(cq [0,0,0,1,0,0,1,0,1] (bodyOf Try.f74))] [(aq [0,0,0,1,0,0,1,0,1] spec_OrderOk_an)] rfl (link_seq2 (spec_OrderOk_n4_l x936 x937 x968) (fun (t : Unit) => (spec_OrderOk_n7_l x936 x937 x968)) (fun (t : Bool) => (Sum.inr t)) (by
  rintro t
  · kernel_rfl) (by
  rintro t f K h
  · exact h)))

def spec_OrderOk_n9_l (x936 : List Int) (x937 : Int) (x968 : Int) := (link_block (fin2 := (Sum.elim (fun (t : Unit) => (Exit.normal, ⟨mkE 42 0 [(0, dL x936), (1, dI x937), (5, dI x968)], []⟩)) (fun (t : Bool) => (Exit.ret, ⟨mkE 42 0 [(4, dB t)], []⟩)))) (id := 1) (spec_OrderOk_n8_l x936 x937 x968) (Sum.elim (fun (t : Unit) => (Sum.inl ())) (fun (t : Bool) => (Sum.inr t))) (by
  rintro (t | t) K h
  · exact Eq.mp (by kernel_rfl) h
  · exact Eq.mp (by kernel_rfl) h))

theorem spec_OrderOk_n10_l (x936 : List Int) (x937 : Int) (x968 : Int) : Link spec_OrderOk_ctx LL (cq [1,1,0,0,1,0,1] (bodyOf Try.f74)) (aq [1,1,0,0,1,0,1] spec_OrderOk_an) ⟨mkE 42 0 [(0, dL x936), (1, dI x937), (5, dI x968)], []⟩ (spec_OrderOk_n10 x968) (fun (t : Int) => (Exit.normal, ⟨mkE 42 0 [(0, dL x936), (1, dI x937), (5, dI t)], []⟩)) := .of fun K h => by
  simp only [spec_OrderOk_n10, wpW] at h
  exact .of (by kernel_rfl) h

def spec_OrderOk_n11_l (x936 : List Int) (x937 : Int) (x968 : Int) := (link_seq2 (spec_OrderOk_n9_l x936 x937 x968) (fun (t : Unit) => (link_map (fin2 := (Sum.elim (fun (t : Int) => (Exit.normal, ⟨mkE 42 0 [(0, dL x936), (1, dI x937), (5, dI t)], []⟩)) (fun (t : Bool) => (Exit.ret, ⟨mkE 42 0 [(4, dB t)], []⟩)))) (spec_OrderOk_n10_l x936 x937 x968) (fun (t : Int) => (Sum.inl t)) (by
  rintro t
  · kernel_rfl))) (fun (t : Bool) => (Sum.inr t)) (by
  rintro t
  · kernel_rfl) (by
  rintro t f K h
  · exact h))

def spec_OrderOk_n12_l (x936 : List Int) (x937 : Int) (x968 : Int) := (link_seq2 (spec_OrderOk_n3_l x936 x937 x968) (fun (t : Unit) => (link_map (fin2 := (Sum.elim (fun (t : Int) => (Exit.normal, ⟨mkE 42 0 [(0, dL x936), (1, dI x937), (5, dI t)], []⟩)) (Sum.elim (fun (t : Bool) => (Exit.ret, ⟨mkE 42 0 [(4, dB t)], []⟩)) (fun (t : Unit) => ((Exit.exit 0), ⟨mkE 42 0 [(0, dL x936), (1, dI x937)], []⟩))))) (spec_OrderOk_n11_l x936 x937 x968) (Sum.elim (fun (t : Int) => (Sum.inl t)) (fun (t : Bool) => (Sum.inr (Sum.inl t)))) (by
  rintro (t | t)
  · kernel_rfl
  · kernel_rfl))) (fun (t : Unit) => (Sum.inr (Sum.inr t))) (by
  rintro t
  · kernel_rfl) (by
  rintro t f K h
  · exact h))

def spec_OrderOk_n13_l (x936 : List Int) (x937 : Int) := (link_loop (mk := fun (s : Int) => ⟨mkE 42 0 [(0, dL x936), (1, dI x937), (5, dI s)], []⟩) (fin := (Sum.elim (fun (t : Bool) => (Exit.ret, ⟨mkE 42 0 [(4, dB t)], []⟩)) (fun (t : Unit) => ((Exit.exit 0), ⟨mkE 42 0 [(0, dL x936), (1, dI x937)], []⟩)))) (by
  rintro (t | t) f K h
  · exact h
  · exact h) (fun s => link_map (spec_OrderOk_n12_l x936 x937 s) (Sum.elim (fun (t : Int) => Sum.inl t) (Sum.elim (fun (t : Bool) => Sum.inr (Sum.inl t)) (fun (t : Unit) => Sum.inr (Sum.inr t)))) (by
  rintro (t | t | t)
  · kernel_rfl
  · kernel_rfl
  · kernel_rfl)) 0)

def spec_OrderOk_n14_l (x936 : List Int) (x937 : Int) := (link_block (fin2 := (Sum.elim (fun (t : Unit) => (Exit.normal, ⟨mkE 42 0 [(0, dL x936), (1, dI x937)], []⟩)) (fun (t : Bool) => (Exit.ret, ⟨mkE 42 0 [(4, dB t)], []⟩)))) (id := 0) (spec_OrderOk_n13_l x936 x937) (Sum.elim (fun (t : Bool) => (Sum.inr t)) (fun (t : Unit) => (Sum.inl ()))) (by
  rintro (t | t) K h
  · exact Eq.mp (by kernel_rfl) h
  · exact Eq.mp (by kernel_rfl) h))

def spec_OrderOk_n15_l (x936 : List Int) (x937 : Int) := (link_seq (spec_OrderOk_n2_l x936 x937) (fun (t : Unit) => (spec_OrderOk_n14_l x936 x937)))

theorem spec_OrderOk_n16_l (x936 : List Int) (x937 : Int) : Link spec_OrderOk_ctx LL (cq [1,1] (bodyOf Try.f74)) (aq [1,1] spec_OrderOk_an) ⟨mkE 42 0 [(0, dL x936), (1, dI x937)], []⟩ (spec_OrderOk_n16 x936 x937) (fun (t : Bool) => (Exit.ret, ⟨mkE 42 0 [(4, dB t)], []⟩)) := .of fun K h => by
  simp only [spec_OrderOk_n16, wpW] at h
  exact .of (by kernel_rfl) h

def spec_OrderOk_n17_l (x936 : List Int) (x937 : Int) := (link_seq2 (spec_OrderOk_n15_l x936 x937) (fun (t : Unit) => (spec_OrderOk_n16_l x936 x937)) (fun (t : Bool) => t) (by
  rintro t
  · kernel_rfl) (by
  rintro t f K h
  · exact h))

def spec_OrderOk_n18_l (x936 : List Int) (x937 : Int) := (link_seq (spec_OrderOk_n1_l x936 x937) (fun (t : Unit) => (spec_OrderOk_n17_l x936 x937)))

theorem spec_OrderOk_e (x936 : List Int) (x937 : Int) {r : AV} {H' : Heap} (h : (Ans.mk _ (spec_OrderOk x936 x937) (fun (t : Bool) => (dB t, [])) [] none).run = some (r, H')) : Awp spec_OrderOk_ctx LL (bodyOf Try.f74) spec_OrderOk_an ⟨mkE 42 0 [(0, dL x936), (1, dI x937)], []⟩ (Ret (tlook tys) Try.f74.results.toList r H') :=
  ret_of' (Link.cast (by kernel_rfl) (by kernel_rfl) (spec_OrderOk_n18_l x936 x937)) (by unfold spec_OrderOk; kernel_rfl) (by
  intro t
  exact ret_mk [dB t] (by kernel_rfl) (by kernel_rfl) (by kernel_rfl) (by kernel_rfl)) h

def F_spec_OrderOk : Fun := fun avs H =>
  match avs, H with
  | [.dat (.list (.int .i64)) x936, .dat (.int .i64) x937], [] => ⟨_, spec_OrderOk x936 x937, fun (t : Bool) => (dB t, []), [], none⟩
  | _, _ => Ans.no

theorem spec_OrderOk_sound : Sound Try.prog 74 F_spec_OrderOk := by
  refine fn_sound' (C := spec_OrderOk_ctx) (c := bodyOf Try.f74) (cok_of tys_ok (allc spec_l1In_sound alln) (allc Try.call65 alln) (by kernel_rfl)) Try.func74 (by kernel_rfl) LL spec_OrderOk_an ?_
  intro avs H r H' h
  unfold F_spec_OrderOk at h
  split at h
  · refine Awp.cast ?_ ?_ ?_ (spec_OrderOk_e _ _ h) <;> kernel_rfl
  · simp [Ans.no, Ans.run] at h


/-! loop.example/headtrees/spec.PutInOrder -/

def spec_PutInOrder_an : Ann := (.seq (.leaf [0, 1]) (.seq (.seq (.leaf [0, 1, 19]) (.cond (.seq (.leaf [4, 5]) (.leaf [4, 5])) (.leaf [0, 1]))) (.seq (.leaf [0, 1, 6]) (.seq (.seq (.leaf [0, 1, 6, 7]) (.block (.loop (.seq (.seq (.leaf [0, 1, 6, 7, 28]) (.cond (.leaf [0, 1, 6, 7]) (.leaf [0, 1, 6]))) (.seq (.block (.leaf [0, 1, 6, 7])) (.leaf [0, 1, 6, 7])))))) (.seq (.leaf [0, 1, 6, 8]) (.seq (.seq (.leaf [0, 1, 6, 8, 9]) (.block (.loop (.seq (.seq (.leaf [0, 1, 6, 8, 9, 43]) (.cond (.leaf [0, 1, 6, 8, 9]) (.leaf [8]))) (.seq (.block (.leaf [0, 1, 6, 8, 9])) (.leaf [0, 1, 6, 8, 9])))))) (.seq (.leaf [4, 5]) (.leaf [4, 5]))))))))

noncomputable def spec_PutInOrder_ctx : Ctx := ⟨tlook tys, olook [(42, F_spec_TreeOk), (74, F_spec_OrderOk)], ioF, 0, false, []⟩

theorem spec_PutInOrder_n1_l (x931 : List Int) (x932 : List Int) : Link spec_PutInOrder_ctx LL (Code.seq (cq [0] (bodyOf Try.f62)) (Code.seq (cq [0,1] (bodyOf Try.f62)) (cq [0,1,1] (bodyOf Try.f62)))) (Ann.seq (aq [0] spec_PutInOrder_an) (Ann.seq (aq [0,1] spec_PutInOrder_an) (aq [0,1,1] spec_PutInOrder_an))) ⟨mkE 61 0 [(0, dL x931), (1, dL x932)], []⟩ (spec_PutInOrder_n1 x931 x932) (Sum.elim (fun (t : (List Int)) => (Exit.normal, ⟨mkE 61 0 [(0, dL x931), (1, dL x932), (6, .slc 0)], [some (sI t)]⟩)) (fun (t : Bool × (List Int)) => (Exit.ret, ⟨mkE 61 0 [(4, .slc 0), (5, dB t.1)], [some (sI t.2)]⟩))) := .of fun K h => by
  simp only [spec_PutInOrder_n1, wpW] at h
  exact .of (by kernel_rfl) h

theorem spec_PutInOrder_n2_l (x931 : List Int) (x932 : List Int) (x1016 : List Int) : Link spec_PutInOrder_ctx LL (cq [0,0,1,1,1] (bodyOf Try.f62)) (aq [0,0,1,1,1] spec_PutInOrder_an) ⟨mkE 61 0 [(0, dL x931), (1, dL x932), (6, .slc 0)], [some (sI x1016)]⟩ (spec_PutInOrder_n2) (fun (t : Unit) => (Exit.normal, ⟨mkE 61 0 [(0, dL x931), (1, dL x932), (6, .slc 0), (7, dI 0)], [some (sI x1016)]⟩)) := .of fun K h => by
  simp only [spec_PutInOrder_n2, wpW] at h
  exact .of (by kernel_rfl) h

theorem spec_PutInOrder_n3_l (x931 : List Int) (x932 : List Int) (x1032 : Int) (x1033 : List Int) : Link spec_PutInOrder_ctx LL (cq [0,0,1,0,1,1,1] (bodyOf Try.f62)) (aq [0,0,1,0,1,1,1] spec_PutInOrder_an) ⟨mkE 61 0 [(0, dL x931), (1, dL x932), (6, .slc 0), (7, dI x1032)], [some (sI x1033)]⟩ (spec_PutInOrder_n3 x932 x1032 x1033) (Sum.elim (fun (t : Int × (List Int)) => (Exit.normal, ⟨mkE 61 0 [(0, dL x931), (1, dL x932), (6, .slc 0), (7, dI t.1)], [some (sI t.2)]⟩)) (fun (t : (List Int)) => ((Exit.exit 0), ⟨mkE 61 0 [(0, dL x931), (1, dL x932), (6, .slc 0)], [some (sI t)]⟩))) := .of fun K h => by
  simp only [spec_PutInOrder_n3, wpW] at h
  exact .of (by kernel_rfl) h

def spec_PutInOrder_n4_l (x931 : List Int) (x932 : List Int) (x1016 : List Int) := (link_loop (mk := fun (s : Int × (List Int)) => ⟨mkE 61 0 [(0, dL x931), (1, dL x932), (6, .slc 0), (7, dI s.1)], [some (sI s.2)]⟩) (fin := (fun (t : (List Int)) => ((Exit.exit 0), ⟨mkE 61 0 [(0, dL x931), (1, dL x932), (6, .slc 0)], [some (sI t)]⟩))) (by
  rintro t f K h
  · exact h) (fun s => link_map (spec_PutInOrder_n3_l x931 x932 s.1 s.2) (Sum.elim (fun (t : Int × (List Int)) => Sum.inl (t.1, t.2)) (fun (t : (List Int)) => Sum.inr t)) (by
  rintro (t | t)
  · kernel_rfl
  · kernel_rfl)) (0, x1016))

def spec_PutInOrder_n5_l (x931 : List Int) (x932 : List Int) (x1016 : List Int) := (link_block (fin2 := (fun (t : (List Int)) => (Exit.normal, ⟨mkE 61 0 [(0, dL x931), (1, dL x932), (6, .slc 0)], [some (sI t)]⟩))) (id := 0) (spec_PutInOrder_n4_l x931 x932 x1016) (fun (t : (List Int)) => t) (by
  rintro t K h
  · exact Eq.mp (by kernel_rfl) h))

def spec_PutInOrder_n6_l (x931 : List Int) (x932 : List Int) (x1016 : List Int) := (link_seq (spec_PutInOrder_n2_l x931 x932 x1016) (fun (t : Unit) => (spec_PutInOrder_n5_l x931 x932 x1016)))

theorem spec_PutInOrder_n7_l (x931 : List Int) (x932 : List Int) (x1033 : List Int) : Link spec_PutInOrder_ctx LL (cq [0,1,1,1,1] (bodyOf Try.f62)) (aq [0,1,1,1,1] spec_PutInOrder_an) ⟨mkE 61 0 [(0, dL x931), (1, dL x932), (6, .slc 0)], [some (sI x1033)]⟩ (spec_PutInOrder_n7) (fun (t : Unit) => (Exit.normal, ⟨mkE 61 0 [(0, dL x931), (1, dL x932), (6, .slc 0), (8, .slc 1)], [some (sI x1033), some (sI ([] : List Int))]⟩)) := .of fun K h => by
  simp only [spec_PutInOrder_n7, wpW] at h
  exact .of (by kernel_rfl) h

theorem spec_PutInOrder_n8_l (x931 : List Int) (x932 : List Int) (x1033 : List Int) : Link spec_PutInOrder_ctx LL (cq [0,0,1,1,1,1,1] (bodyOf Try.f62)) (aq [0,0,1,1,1,1,1] spec_PutInOrder_an) ⟨mkE 61 0 [(0, dL x931), (1, dL x932), (6, .slc 0), (8, .slc 1)], [some (sI x1033), some (sI ([] : List Int))]⟩ (spec_PutInOrder_n8) (fun (t : Unit) => (Exit.normal, ⟨mkE 61 0 [(0, dL x931), (1, dL x932), (6, .slc 0), (8, .slc 1), (9, dI 0)], [some (sI x1033), some (sI ([] : List Int))]⟩)) := .of fun K h => by
  simp only [spec_PutInOrder_n8, wpW] at h
  exact .of (by kernel_rfl) h

theorem spec_PutInOrder_n9_l (x931 : List Int) (x932 : List Int) (x1074 : Int) (x1033 : List Int) (x1075 : List Int) : Link spec_PutInOrder_ctx LL (cq [0,0,1,0,1,1,1,1,1] (bodyOf Try.f62)) (aq [0,0,1,0,1,1,1,1,1] spec_PutInOrder_an) ⟨mkE 61 0 [(0, dL x931), (1, dL x932), (6, .slc 0), (8, .slc 1), (9, dI x1074)], [some (sI x1033), some (sI x1075)]⟩ (spec_PutInOrder_n9 x931 x932 x1074 x1033 x1075) (Sum.elim (fun (t : Int × (List Int)) => (Exit.normal, ⟨mkE 61 0 [(0, dL x931), (1, dL x932), (6, .slc 0), (8, .slc 1), (9, dI t.1)], [some (sI x1033), some (sI t.2)]⟩)) (fun (t : (List Int)) => ((Exit.exit 2), ⟨mkE 61 0 [(8, .slc 0)], [some (sI t)]⟩))) := .of fun K h => by
  simp only [spec_PutInOrder_n9, wpW] at h
  exact .of (by kernel_rfl) h

def spec_PutInOrder_n10_l (x931 : List Int) (x932 : List Int) (x1033 : List Int) := (link_loop (mk := fun (s : Int × (List Int)) => ⟨mkE 61 0 [(0, dL x931), (1, dL x932), (6, .slc 0), (8, .slc 1), (9, dI s.1)], [some (sI x1033), some (sI s.2)]⟩) (fin := (fun (t : (List Int)) => ((Exit.exit 2), ⟨mkE 61 0 [(8, .slc 0)], [some (sI t)]⟩))) (by
  rintro t f K h
  · exact h) (fun s => link_map (spec_PutInOrder_n9_l x931 x932 s.1 x1033 s.2) (Sum.elim (fun (t : Int × (List Int)) => Sum.inl (t.1, t.2)) (fun (t : (List Int)) => Sum.inr t)) (by
  rintro (t | t)
  · kernel_rfl
  · kernel_rfl)) (0, ([] : List Int)))

def spec_PutInOrder_n11_l (x931 : List Int) (x932 : List Int) (x1033 : List Int) := (link_block (fin2 := (fun (t : (List Int)) => (Exit.normal, ⟨mkE 61 0 [(8, .slc 0)], [some (sI t)]⟩))) (id := 2) (spec_PutInOrder_n10_l x931 x932 x1033) (fun (t : (List Int)) => t) (by
  rintro t K h
  · exact Eq.mp (by kernel_rfl) h))

def spec_PutInOrder_n12_l (x931 : List Int) (x932 : List Int) (x1033 : List Int) := (link_seq (spec_PutInOrder_n8_l x931 x932 x1033) (fun (t : Unit) => (spec_PutInOrder_n11_l x931 x932 x1033)))

theorem spec_PutInOrder_n13_l (x1075 : List Int) : Link spec_PutInOrder_ctx LL (cq [1,1,1,1,1,1] (bodyOf Try.f62)) (aq [1,1,1,1,1,1] spec_PutInOrder_an) ⟨mkE 61 0 [(8, .slc 0)], [some (sI x1075)]⟩ (spec_PutInOrder_n13 x1075) (fun (t : Bool × (List Int)) => (Exit.ret, ⟨mkE 61 0 [(4, .slc 0), (5, dB t.1)], [some (sI t.2)]⟩)) := .of fun K h => by
  simp only [spec_PutInOrder_n13, wpW] at h
  exact .of (by kernel_rfl) h

def spec_PutInOrder_n14_l (x931 : List Int) (x932 : List Int) (x1033 : List Int) := (link_seq (spec_PutInOrder_n12_l x931 x932 x1033) (fun (t : (List Int)) => (spec_PutInOrder_n13_l t)))

def spec_PutInOrder_n15_l (x931 : List Int) (x932 : List Int) (x1033 : List Int) := (link_seq (spec_PutInOrder_n7_l x931 x932 x1033) (fun (t : Unit) => (spec_PutInOrder_n14_l x931 x932 x1033)))

def spec_PutInOrder_n16_l (x931 : List Int) (x932 : List Int) (x1016 : List Int) := (link_seq (spec_PutInOrder_n6_l x931 x932 x1016) (fun (t : (List Int)) => (spec_PutInOrder_n15_l x931 x932 t)))

def spec_PutInOrder_n17_l (x931 : List Int) (x932 : List Int) := (link_group (c := (cq [0,1,1] (bodyOf Try.f62))) (a := (aq [0,1,1] spec_PutInOrder_an)) [(cq [0] (bodyOf Try.f62)), (cq [0,1] (bodyOf Try.f62))] [(aq [0] spec_PutInOrder_an), (aq [0,1] spec_PutInOrder_an)] rfl (link_seq2 (spec_PutInOrder_n1_l x931 x932) (fun (t : (List Int)) => (spec_PutInOrder_n16_l x931 x932 t)) (fun (t : Bool × (List Int)) => t) (by
  rintro t
  · kernel_rfl) (by
  rintro t f K h
  · exact h)))

theorem spec_PutInOrder_e (x931 : List Int) (x932 : List Int) {r : AV} {H' : Heap} (h : (Ans.mk _ (spec_PutInOrder x931 x932) (fun (t : Bool × (List Int)) => (.tup [.slc 0, dB t.1], [some (sI t.2)])) [] none).run = some (r, H')) : Awp spec_PutInOrder_ctx LL (bodyOf Try.f62) spec_PutInOrder_an ⟨mkE 61 0 [(0, dL x931), (1, dL x932)], []⟩ (Ret (tlook tys) Try.f62.results.toList r H') :=
  ret_of' (Link.cast (by kernel_rfl) (by kernel_rfl) (spec_PutInOrder_n17_l x931 x932)) (by unfold spec_PutInOrder; kernel_rfl) (by
  intro t
  exact ret_mk [.slc 0, dB t.1] (by kernel_rfl) (by kernel_rfl) (by kernel_rfl) (by kernel_rfl)) h

def F_spec_PutInOrder : Fun := fun avs H =>
  match avs, H with
  | [.dat (.list (.int .i64)) x931, .dat (.list (.int .i64)) x932], [] => ⟨_, spec_PutInOrder x931 x932, fun (t : Bool × (List Int)) => (.tup [.slc 0, dB t.1], [some (sI t.2)]), [], none⟩
  | _, _ => Ans.no

theorem spec_PutInOrder_sound : Sound Try.prog 62 F_spec_PutInOrder := by
  refine fn_sound' (C := spec_PutInOrder_ctx) (c := bodyOf Try.f62) (cok_of tys_ok (allc spec_TreeOk_sound (allc spec_OrderOk_sound alln)) (allc Try.call42 (allc Try.call74 alln)) (by kernel_rfl)) Try.func62 (by kernel_rfl) LL spec_PutInOrder_an ?_
  intro avs H r H' h
  unfold F_spec_PutInOrder at h
  split at h
  · refine Awp.cast ?_ ?_ ?_ (spec_PutInOrder_e _ _ h) <;> kernel_rfl
  · simp [Ans.no, Ans.run] at h


/-! loop.example/headtrees/spec.l20Fill -/

def spec_l20Fill_an : Ann := (.seq (.seq (.leaf [0, 1, 2, 3, 4, 16]) (.cond (.leaf []) (.leaf [0, 1, 2, 3, 4]))) (.seq (.leaf [0, 1, 2, 3, 4, 10]) (.seq (.leaf [0, 1, 2, 3, 10]) (.seq (.leaf [0, 1, 3, 10, 11]) (.seq (.block (.loop (.seq (.seq (.leaf [0, 1, 3, 10, 11, 33]) (.cond (.leaf [0, 1, 3, 10, 11]) (.leaf [0, 1, 3, 10]))) (.block (.seq (.leaf [0, 1, 3, 10, 11, 12]) (.seq (.leaf [0, 1, 3, 10, 12]) (.leaf [0, 1, 3, 10, 11]))))))) (.seq (.leaf [0, 1, 3, 10, 11]) (.block (.loop (.seq (.seq (.leaf [0, 1, 3, 10, 11, 53]) (.cond (.leaf [0, 1, 3, 10, 11]) (.leaf []))) (.block (.seq (.leaf [0, 1, 3, 10, 11, 13]) (.seq (.leaf [0, 1, 3, 10, 13]) (.leaf [0, 1, 3, 10, 11])))))))))))))

def F_spec_l20Fill_fuel (n : Nat) : Fun := fun avs H =>
  match avs, H with
  | [.ptr 0 0, .slc 1, .dat (.int .i64) x1172, .dat (.int .i64) x1173, .dat (.int .i64) x1174], [some (.box [.dat (.list (.int .u8)) x1175, .dat (.int .i64) x1176]), some (.seq (.int .i64) x1177)] => ⟨_, spec_l20Fill_fuel n x1172 x1173 x1174 x1175 x1176 x1177, fun (t : Int × (List Int)) => (.tup [], [some (.box [dV x1175, dI t.1]), some (sI t.2)]), [], none⟩
  | _, _ => Ans.no

noncomputable def spec_l20Fill_ctx (n : Nat) : Ctx := ⟨tlook tys, olook [(61, F_spec_l20Rd_pick), (75, F_spec_l20Fill_fuel n)], ioF, 2, false, []⟩

theorem spec_l20Fill_n1_l (n : Nat) (x1172 : Int) (x1173 : Int) (x1174 : Int) (x1175 : List Int) (x1176 : Int) (x1177 : List Int) : Link (spec_l20Fill_ctx n) LL (Code.seq (cq [0] (bodyOf Try.f75)) (Code.seq (cq [0,1] (bodyOf Try.f75)) (Code.seq (cq [0,1,1] (bodyOf Try.f75)) (cq [0,1,1,1] (bodyOf Try.f75))))) (Ann.seq (aq [0] spec_l20Fill_an) (Ann.seq (aq [0,1] spec_l20Fill_an) (Ann.seq (aq [0,1,1] spec_l20Fill_an) (aq [0,1,1,1] spec_l20Fill_an)))) ⟨mkE 70 0 [(0, .ptr 0 0), (1, .slc 1), (2, dI x1172), (3, dI x1173), (4, dI x1174)], [some (.box [dV x1175, dI x1176]), some (sI x1177)]⟩ (spec_l20Fill_n1 (spec_l20Fill_fuel n) x1172 x1173 x1174 x1175 x1176 x1177) (Sum.elim (fun (t : Int × Int × (List Int)) => (Exit.normal, ⟨mkE 70 0 [(0, .ptr 0 0), (1, .slc 1), (3, dI x1173), (10, dI t.1), (11, dI x1172)], [some (.box [dV x1175, dI t.2.1]), some (sI t.2.2)]⟩)) (fun (t : Int × (List Int)) => (Exit.ret, ⟨mkE 70 0 [], [some (.box [dV x1175, dI t.1]), some (sI t.2)]⟩))) := .of fun K h => by
  simp only [spec_l20Fill_n1, wpW] at h
  exact .of (by kernel_rfl) h

theorem spec_l20Fill_n2_l (n : Nat) (x1173 : Int) (x1248 : Int) (x1263 : Int) (x1175 : List Int) (x1264 : Int) (x1265 : List Int) : Link (spec_l20Fill_ctx n) LL (cq [0,0,0,1,1,1,1] (bodyOf Try.f75)) (aq [0,0,0,1,1,1,1] spec_l20Fill_an) ⟨mkE 70 0 [(0, .ptr 0 0), (1, .slc 1), (3, dI x1173), (10, dI x1248), (11, dI x1263)], [some (.box [dV x1175, dI x1264]), some (sI x1265)]⟩ (spec_l20Fill_n2 (spec_l20Fill_fuel n) x1248 x1263 x1175 x1264 x1265) (Sum.elim (fun (t : Int × Int × (List Int)) => (Exit.normal, ⟨mkE 70 0 [(0, .ptr 0 0), (1, .slc 1), (3, dI x1173), (10, dI x1248), (11, dI t.1)], [some (.box [dV x1175, dI t.2.1]), some (sI t.2.2)]⟩)) (fun (t : Int × (List Int)) => ((Exit.exit 0), ⟨mkE 70 0 [(0, .ptr 0 0), (1, .slc 1), (3, dI x1173), (10, dI x1248)], [some (.box [dV x1175, dI t.1]), some (sI t.2)]⟩))) := .of fun K h => by
  simp only [spec_l20Fill_n2, wpW] at h
  exact .of (by kernel_rfl) h

def spec_l20Fill_n3_l (n : Nat) (x1173 : Int) (x1248 : Int) (x1172 : Int) (x1175 : List Int) (x1247 : Int) (x1251 : List Int) := (link_loop (mk := fun (s : Int × Int × (List Int)) => ⟨mkE 70 0 [(0, .ptr 0 0), (1, .slc 1), (3, dI x1173), (10, dI x1248), (11, dI s.1)], [some (.box [dV x1175, dI s.2.1]), some (sI s.2.2)]⟩) (fin := (fun (t : Int × (List Int)) => ((Exit.exit 0), ⟨mkE 70 0 [(0, .ptr 0 0), (1, .slc 1), (3, dI x1173), (10, dI x1248)], [some (.box [dV x1175, dI t.1]), some (sI t.2)]⟩))) (by
  rintro t f K h
  · exact h) (fun s => link_map (spec_l20Fill_n2_l n x1173 x1248 s.1 x1175 s.2.1 s.2.2) (Sum.elim (fun (t : Int × Int × (List Int)) => Sum.inl (t.1, t.2.1, t.2.2)) (fun (t : Int × (List Int)) => Sum.inr t)) (by
  rintro (t | t)
  · kernel_rfl
  · kernel_rfl)) (x1172, x1247, x1251))

def spec_l20Fill_n4_l (n : Nat) (x1173 : Int) (x1248 : Int) (x1172 : Int) (x1175 : List Int) (x1247 : Int) (x1251 : List Int) := (link_block (fin2 := (fun (t : Int × (List Int)) => (Exit.normal, ⟨mkE 70 0 [(0, .ptr 0 0), (1, .slc 1), (3, dI x1173), (10, dI x1248)], [some (.box [dV x1175, dI t.1]), some (sI t.2)]⟩))) (id := 0) (spec_l20Fill_n3_l n x1173 x1248 x1172 x1175 x1247 x1251) (fun (t : Int × (List Int)) => (t.1, t.2)) (by
  rintro t K h
  · exact Eq.mp (by kernel_rfl) h))

theorem spec_l20Fill_n5_l (n : Nat) (x1173 : Int) (x1248 : Int) (x1175 : List Int) (x1264 : Int) (x1265 : List Int) : Link (spec_l20Fill_ctx n) LL (cq [0,1,1,1,1,1] (bodyOf Try.f75)) (aq [0,1,1,1,1,1] spec_l20Fill_an) ⟨mkE 70 0 [(0, .ptr 0 0), (1, .slc 1), (3, dI x1173), (10, dI x1248)], [some (.box [dV x1175, dI x1264]), some (sI x1265)]⟩ (spec_l20Fill_n5 (spec_l20Fill_fuel n) x1248) (fun (t : Int) => (Exit.normal, ⟨mkE 70 0 [(0, .ptr 0 0), (1, .slc 1), (3, dI x1173), (10, dI x1248), (11, dI t)], [some (.box [dV x1175, dI x1264]), some (sI x1265)]⟩)) := .of fun K h => by
  simp only [spec_l20Fill_n5, wpW] at h
  exact .of (by kernel_rfl) h

theorem spec_l20Fill_n6_l (n : Nat) (x1173 : Int) (x1248 : Int) (x1290 : Int) (x1175 : List Int) (x1291 : Int) (x1292 : List Int) : Link (spec_l20Fill_ctx n) LL (cq [0,0,1,1,1,1,1,1] (bodyOf Try.f75)) (aq [0,0,1,1,1,1,1,1] spec_l20Fill_an) ⟨mkE 70 0 [(0, .ptr 0 0), (1, .slc 1), (3, dI x1173), (10, dI x1248), (11, dI x1290)], [some (.box [dV x1175, dI x1291]), some (sI x1292)]⟩ (spec_l20Fill_n6 (spec_l20Fill_fuel n) x1173 x1248 x1290 x1175 x1291 x1292) (Sum.elim (fun (t : Int × Int × (List Int)) => (Exit.normal, ⟨mkE 70 0 [(0, .ptr 0 0), (1, .slc 1), (3, dI x1173), (10, dI x1248), (11, dI t.1)], [some (.box [dV x1175, dI t.2.1]), some (sI t.2.2)]⟩)) (fun (t : Int × (List Int)) => ((Exit.exit 2), ⟨mkE 70 0 [], [some (.box [dV x1175, dI t.1]), some (sI t.2)]⟩))) := .of fun K h => by
  simp only [spec_l20Fill_n6, wpW] at h
  exact .of (by kernel_rfl) h

def spec_l20Fill_n7_l (n : Nat) (x1173 : Int) (x1248 : Int) (x1277 : Int) (x1175 : List Int) (x1264 : Int) (x1265 : List Int) := (link_loop (mk := fun (s : Int × Int × (List Int)) => ⟨mkE 70 0 [(0, .ptr 0 0), (1, .slc 1), (3, dI x1173), (10, dI x1248), (11, dI s.1)], [some (.box [dV x1175, dI s.2.1]), some (sI s.2.2)]⟩) (fin := (fun (t : Int × (List Int)) => ((Exit.exit 2), ⟨mkE 70 0 [], [some (.box [dV x1175, dI t.1]), some (sI t.2)]⟩))) (by
  rintro t f K h
  · exact h) (fun s => link_map (spec_l20Fill_n6_l n x1173 x1248 s.1 x1175 s.2.1 s.2.2) (Sum.elim (fun (t : Int × Int × (List Int)) => Sum.inl (t.1, t.2.1, t.2.2)) (fun (t : Int × (List Int)) => Sum.inr t)) (by
  rintro (t | t)
  · kernel_rfl
  · kernel_rfl)) (x1277, x1264, x1265))

def spec_l20Fill_n8_l (n : Nat) (x1173 : Int) (x1248 : Int) (x1277 : Int) (x1175 : List Int) (x1264 : Int) (x1265 : List Int) := (link_block (fin2 := (fun (t : Int × (List Int)) => (Exit.normal, ⟨mkE 70 0 [], [some (.box [dV x1175, dI t.1]), some (sI t.2)]⟩))) (id := 2) (spec_l20Fill_n7_l n x1173 x1248 x1277 x1175 x1264 x1265) (fun (t : Int × (List Int)) => (t.1, t.2)) (by
  rintro t K h
  · exact Eq.mp (by kernel_rfl) h))

def spec_l20Fill_n9_l (n : Nat) (x1173 : Int) (x1248 : Int) (x1175 : List Int) (x1264 : Int) (x1265 : List Int) := (link_seq (spec_l20Fill_n5_l n x1173 x1248 x1175 x1264 x1265) (fun (t : Int) => (spec_l20Fill_n8_l n x1173 x1248 t x1175 x1264 x1265)))

def spec_l20Fill_n10_l (n : Nat) (x1173 : Int) (x1248 : Int) (x1172 : Int) (x1175 : List Int) (x1247 : Int) (x1251 : List Int) := (link_seq (spec_l20Fill_n4_l n x1173 x1248 x1172 x1175 x1247 x1251) (fun (t : Int × (List Int)) => (spec_l20Fill_n9_l n x1173 x1248 x1175 t.1 t.2)))

def spec_l20Fill_n11_l (n : Nat) (x1172 : Int) (x1173 : Int) (x1174 : Int) (x1175 : List Int) (x1176 : Int) (x1177 : List Int) := (link_group (c := (cq [0,1,1,1] (bodyOf Try.f75))) (a := (aq [0,1,1,1] spec_l20Fill_an)) [(cq [0] (bodyOf Try.f75)), (cq [0,1] (bodyOf Try.f75)), (cq [0,1,1] (bodyOf Try.f75))] [(aq [0] spec_l20Fill_an), (aq [0,1] spec_l20Fill_an), (aq [0,1,1] spec_l20Fill_an)] rfl (link_seq2 (spec_l20Fill_n1_l n x1172 x1173 x1174 x1175 x1176 x1177) (fun (t : Int × Int × (List Int)) => (link_map (fin2 := (Sum.elim (fun (t : Int × (List Int)) => (Exit.normal, ⟨mkE 70 0 [], [some (.box [dV x1175, dI t.1]), some (sI t.2)]⟩)) (fun (t : Int × (List Int)) => (Exit.ret, ⟨mkE 70 0 [], [some (.box [dV x1175, dI t.1]), some (sI t.2)]⟩)))) (spec_l20Fill_n10_l n x1173 t.1 x1172 x1175 t.2.1 t.2.2) (fun (u : Int × (List Int)) => (Sum.inl (u.1, u.2))) (by
  rintro t
  · kernel_rfl))) (fun (t : Int × (List Int)) => (Sum.inr t)) (by
  rintro t
  · kernel_rfl) (by
  rintro t f K h
  · exact h)))

theorem spec_l20Fill_e (n : Nat) (x1172 : Int) (x1173 : Int) (x1174 : Int) (x1175 : List Int) (x1176 : Int) (x1177 : List Int) {r : AV} {H' : Heap} (h : (Ans.mk _ (spec_l20Fill_fuel (n + 1) x1172 x1173 x1174 x1175 x1176 x1177) (fun (t : Int × (List Int)) => (.tup [], [some (.box [dV x1175, dI t.1]), some (sI t.2)])) [] none).run = some (r, H')) : Awp (spec_l20Fill_ctx n) LL (bodyOf Try.f75) spec_l20Fill_an ⟨mkE 70 0 [(0, .ptr 0 0), (1, .slc 1), (2, dI x1172), (3, dI x1173), (4, dI x1174)], [some (.box [dV x1175, dI x1176]), some (sI x1177)]⟩ (Ret (tlook tys) Try.f75.results.toList r H') :=
  ret_of (Link.cast (by kernel_rfl) (by kernel_rfl) (spec_l20Fill_n11_l n x1172 x1173 x1174 x1175 x1176 x1177)) (Sum.elim (fun (t : Int × (List Int)) => (t.1, t.2)) (fun (t : Int × (List Int)) => t)) (by (show _ = _); kernel_rfl) (by
  rintro (t | t)
  · exact ret_mk [] (by kernel_rfl) (by kernel_rfl) (by kernel_rfl) (by kernel_rfl)
  · exact ret_mk [] (by kernel_rfl) (by kernel_rfl) (by kernel_rfl) (by kernel_rfl)) h

theorem spec_l20Fill_step (n : Nat) (h75 : Sound Try.prog 75 (F_spec_l20Fill_fuel n)) : Sound Try.prog 75 (F_spec_l20Fill_fuel (n + 1)) := by
  refine fn_sound' (C := spec_l20Fill_ctx n) (c := bodyOf Try.f75) (cok_of tys_ok (allc spec_l20Rd_pick_sound (allc h75 alln)) (allc Try.call61 (allc Try.call75 alln)) (by kernel_rfl)) Try.func75 (by kernel_rfl) LL spec_l20Fill_an ?_
  intro avs H r H' h
  unfold F_spec_l20Fill_fuel at h
  split at h
  · refine Awp.cast ?_ ?_ ?_ (spec_l20Fill_e n _ _ _ _ _ _ h) <;> kernel_rfl
  · simp [Ans.no, Ans.run] at h

theorem spec_l20Fill_null : Sound Try.prog 75 (F_spec_l20Fill_fuel 0) := by
  intro avs H r H' h
  unfold F_spec_l20Fill_fuel at h
  split at h
  · simp [spec_l20Fill_fuel, spec_l20Fill_knot, Ans.run] at h
  · simp [Ans.no, Ans.run] at h

theorem spec_l20Fill_knot_all : ∀ n, Sound Try.prog 75 (F_spec_l20Fill_fuel n)
  | 0 => spec_l20Fill_null
  | n + 1 => by
    have h75 := spec_l20Fill_knot_all n
    exact spec_l20Fill_step n h75

def F_spec_l20Fill : Fun := fun avs H =>
  match avs, H with
  | [.ptr 0 0, .slc 1, .dat (.int .i64) x1172, .dat (.int .i64) x1173, .dat (.int .i64) x1174], [some (.box [.dat (.list (.int .u8)) x1175, .dat (.int .i64) x1176]), some (.seq (.int .i64) x1177)] => ⟨_, spec_l20Fill x1172 x1173 x1174 x1175 x1176 x1177, fun (t : Int × (List Int)) => (.tup [], [some (.box [dV x1175, dI t.1]), some (sI t.2)]), [], none⟩
  | _, _ => Ans.no

theorem spec_l20Fill_sound : Sound Try.prog 75 F_spec_l20Fill := by
  have e : F_spec_l20Fill = F_spec_l20Fill_fuel RR := by
    funext avs H
    unfold F_spec_l20Fill F_spec_l20Fill_fuel
    split <;> first | rfl | (simp only [spec_l20Fill])
  rw [e]
  exact (spec_l20Fill_knot_all RR)


/-! loop.example/headtrees/spec.l20Flat -/

def spec_l20Flat_an : Ann := (.seq (.leaf [0, 1]) (.seq (.seq (.leaf [0, 1, 9]) (.cond (.seq (.leaf [4]) (.leaf [4])) (.leaf [0]))) (.seq (.leaf [0, 5]) (.seq (.leaf [0, 5, 6]) (.seq (.leaf [6]) (.seq (.leaf [4]) (.leaf [4])))))))

noncomputable def spec_l20Flat_ctx : Ctx := ⟨tlook tys, olook [(61, F_spec_l20Rd_pick), (60, F_spec_l20Tree), (75, F_spec_l20Fill)], ioF, 1, false, []⟩

theorem spec_l20Flat_n1_l (x1125 : Int) (x1126 : List Int) (x1127 : Int) : Link spec_l20Flat_ctx LL (bodyOf Try.f64) spec_l20Flat_an ⟨mkE 23 0 [(0, .ptr 0 0), (1, dI x1125)], [some (.box [dV x1126, dI x1127])]⟩ (spec_l20Flat_n1 x1125 x1126 x1127) (fun (t : Int × (List Int)) => (Exit.ret, ⟨mkE 23 0 [(4, .slc 1)], [some (.box [dV x1126, dI t.1]), some (sI t.2)]⟩)) := .of fun K h => by
  simp only [spec_l20Flat_n1, wpW] at h
  exact .of (by kernel_rfl) h

theorem spec_l20Flat_e (x1125 : Int) (x1126 : List Int) (x1127 : Int) {r : AV} {H' : Heap} (h : (Ans.mk _ (spec_l20Flat x1125 x1126 x1127) (fun (t : Int × (List Int)) => (.slc 1, [some (.box [dV x1126, dI t.1]), some (sI t.2)])) [] none).run = some (r, H')) : Awp spec_l20Flat_ctx LL (bodyOf Try.f64) spec_l20Flat_an ⟨mkE 23 0 [(0, .ptr 0 0), (1, dI x1125)], [some (.box [dV x1126, dI x1127])]⟩ (Ret (tlook tys) Try.f64.results.toList r H') :=
  ret_of' (spec_l20Flat_n1_l x1125 x1126 x1127) (by unfold spec_l20Flat; kernel_rfl) (by
  intro t
  exact ret_mk [.slc 1] (by kernel_rfl) (by kernel_rfl) (by kernel_rfl) (by kernel_rfl)) h

def F_spec_l20Flat : Fun := fun avs H =>
  match avs, H with
  | [.ptr 0 0, .dat (.int .i64) x1125], [some (.box [.dat (.list (.int .u8)) x1126, .dat (.int .i64) x1127])] => ⟨_, spec_l20Flat x1125 x1126 x1127, fun (t : Int × (List Int)) => (.slc 1, [some (.box [dV x1126, dI t.1]), some (sI t.2)]), [], none⟩
  | _, _ => Ans.no

theorem spec_l20Flat_sound : Sound Try.prog 64 F_spec_l20Flat := by
  refine fn_sound' (C := spec_l20Flat_ctx) (c := bodyOf Try.f64) (cok_of tys_ok (allc spec_l20Rd_pick_sound (allc spec_l20Tree_sound (allc spec_l20Fill_sound alln))) (allc Try.call61 (allc Try.call60 (allc Try.call75 alln))) (by kernel_rfl)) Try.func64 (by kernel_rfl) LL spec_l20Flat_an ?_
  intro avs H r H' h
  unfold F_spec_l20Flat at h
  split at h
  · refine Awp.cast ?_ ?_ ?_ (spec_l20Flat_e _ _ _ h) <;> kernel_rfl
  · simp [Ans.no, Ans.run] at h


/-! loop.example/headtrees/spec.l20Wild -/

def spec_l20Wild_an : Ann := (.seq (.leaf [0, 1]) (.seq (.leaf [0, 1, 5]) (.seq (.seq (.leaf [0, 1, 5, 17]) (.cond (.seq (.leaf [6]) (.seq (.leaf [4]) (.leaf [4]))) (.leaf [0, 1, 5]))) (.seq (.seq (.leaf [0, 1, 5, 30]) (.cond (.seq (.leaf [4]) (.leaf [4])) (.leaf [5]))) (.seq (.leaf [4]) (.leaf [4]))))))

noncomputable def spec_l20Wild_ctx : Ctx := ⟨tlook tys, olook [(60, F_spec_l20Tree), (61, F_spec_l20Rd_pick), (42, F_spec_TreeOk), (63, F_spec_l20Order), (62, F_spec_PutInOrder), (64, F_spec_l20Flat)], ioF, 1, false, []⟩

theorem spec_l20Wild_n1_l (x34 : Int) (x35 : List Int) (x36 : Int) : Link spec_l20Wild_ctx LL (bodyOf Try.f37) spec_l20Wild_an ⟨mkE 35 0 [(0, .ptr 0 0), (1, dI x34)], [some (.box [dV x35, dI x36])]⟩ (spec_l20Wild_n1 x34 x35 x36) (fun (t : Int × (List Int)) => (Exit.ret, ⟨mkE 35 0 [(4, .slc 1)], [some (.box [dV x35, dI t.1]), some (sI t.2)]⟩)) := .of fun K h => by
  simp only [spec_l20Wild_n1, wpW] at h
  exact .of (by kernel_rfl) h

theorem spec_l20Wild_e (x34 : Int) (x35 : List Int) (x36 : Int) {r : AV} {H' : Heap} (h : (Ans.mk _ (spec_l20Wild x34 x35 x36) (fun (t : Int × (List Int)) => (.slc 1, [some (.box [dV x35, dI t.1]), some (sI t.2)])) [] none).run = some (r, H')) : Awp spec_l20Wild_ctx LL (bodyOf Try.f37) spec_l20Wild_an ⟨mkE 35 0 [(0, .ptr 0 0), (1, dI x34)], [some (.box [dV x35, dI x36])]⟩ (Ret (tlook tys) Try.f37.results.toList r H') :=
  ret_of' (spec_l20Wild_n1_l x34 x35 x36) (by unfold spec_l20Wild; kernel_rfl) (by
  intro t
  exact ret_mk [.slc 1] (by kernel_rfl) (by kernel_rfl) (by kernel_rfl) (by kernel_rfl)) h

def F_spec_l20Wild : Fun := fun avs H =>
  match avs, H with
  | [.ptr 0 0, .dat (.int .i64) x34], [some (.box [.dat (.list (.int .u8)) x35, .dat (.int .i64) x36])] => ⟨_, spec_l20Wild x34 x35 x36, fun (t : Int × (List Int)) => (.slc 1, [some (.box [dV x35, dI t.1]), some (sI t.2)]), [], none⟩
  | _, _ => Ans.no

theorem spec_l20Wild_sound : Sound Try.prog 37 F_spec_l20Wild := by
  refine fn_sound' (C := spec_l20Wild_ctx) (c := bodyOf Try.f37) (cok_of tys_ok (allc spec_l20Tree_sound (allc spec_l20Rd_pick_sound (allc spec_TreeOk_sound (allc spec_l20Order_sound (allc spec_PutInOrder_sound (allc spec_l20Flat_sound alln)))))) (allc Try.call60 (allc Try.call61 (allc Try.call42 (allc Try.call63 (allc Try.call62 (allc Try.call64 alln)))))) (by kernel_rfl)) Try.func37 (by kernel_rfl) LL spec_l20Wild_an ?_
  intro avs H r H' h
  unfold F_spec_l20Wild at h
  split at h
  · refine Awp.cast ?_ ?_ ?_ (spec_l20Wild_e _ _ _ h) <;> kernel_rfl
  · simp [Ans.no, Ans.run] at h


/-! loop.example/headtrees/impl.oneRoot -/

def impl_oneRoot_an : Ann := (.seq (.leaf [0]) (.seq (.leaf [0, 3]) (.seq (.seq (.leaf [0, 3, 6, 7, 8]) (.block (.loop (.seq (.leaf [0, 3, 6, 7, 8, 9]) (.seq (.cond (.leaf [0, 3, 6, 7, 8]) (.leaf [3])) (.seq (.block (.seq (.leaf [0, 3, 5, 6, 7, 8]) (.seq (.seq (.leaf [0, 3, 5, 6, 7, 8, 19]) (.cond (.seq (.leaf [2]) (.leaf [2])) (.leaf [0, 3, 5, 6, 7, 8]))) (.seq (.leaf [0, 3, 6, 7, 8, 21]) (.cond (.leaf [0, 3, 6, 7, 8]) (.leaf [0, 3, 6, 7, 8])))))) (.leaf [0, 3, 6, 7, 8]))))))) (.seq (.leaf [2]) (.leaf [2])))))

noncomputable def impl_oneRoot_ctx : Ctx := ⟨tlook tys, olook [], ioF, 0, false, []⟩

theorem impl_oneRoot_n1_l (x1431 : List Int) : Link impl_oneRoot_ctx LL (Code.seq (cq [0] (bodyOf Try.f43)) (cq [0,1] (bodyOf Try.f43))) (Ann.seq (aq [0] impl_oneRoot_an) (aq [0,1] impl_oneRoot_an)) ⟨mkE 27 0 [(0, dL x1431)], []⟩ (impl_oneRoot_n1) (fun (t : Unit) => (Exit.normal, ⟨mkE 27 0 [(0, dL x1431), (3, dI 0)], []⟩)) := .of fun K h => by
  simp only [impl_oneRoot_n1, wpW] at h
  exact .of (by kernel_rfl) h

theorem impl_oneRoot_n2_l (x1431 : List Int) : Link impl_oneRoot_ctx LL (cq [0,0,1,1] (bodyOf Try.f43)) (aq [0,0,1,1] impl_oneRoot_an) ⟨mkE 27 0 [(0, dL x1431), (3, dI 0)], []⟩ (impl_oneRoot_n2 x1431) (fun (t : Int) => (Exit.normal, ⟨mkE 27 0 [(0, dL x1431), (3, dI 0), (6, dL x1431), (7, dI t), (8, dI 0)], []⟩)) := .of fun K h => by
  simp only [impl_oneRoot_n2, wpW] at h
  exact .of (by kernel_rfl) h

theorem impl_oneRoot_n3_l (x1431 : List Int) (x1453 : Int) (x1432 : Int) (x1454 : Int) : Link impl_oneRoot_ctx LL (cq [0,0,1,0,1,1] (bodyOf Try.f43)) (aq [0,0,1,0,1,1] impl_oneRoot_an) ⟨mkE 27 0 [(0, dL x1431), (3, dI x1453), (6, dL x1431), (7, dI x1432), (8, dI x1454)], []⟩ (impl_oneRoot_n3 x1431 x1453 x1432 x1454) (Sum.elim (fun (t : Int × Int) => (Exit.normal, ⟨mkE 27 0 [(0, dL x1431), (3, dI t.1), (6, dL x1431), (7, dI x1432), (8, dI t.2)], []⟩)) (Sum.elim (fun (t : Bool) => (Exit.ret, ⟨mkE 27 0 [(2, dB t)], []⟩)) (fun (t : Int) => ((Exit.exit 0), ⟨mkE 27 0 [(3, dI t)], []⟩)))) := .of fun K h => by
  simp only [impl_oneRoot_n3, wpW] at h
  exact .of (by kernel_rfl) h

def impl_oneRoot_n4_l (x1431 : List Int) (x1432 : Int) := (link_loop (mk := fun (s : Int × Int) => ⟨mkE 27 0 [(0, dL x1431), (3, dI s.1), (6, dL x1431), (7, dI x1432), (8, dI s.2)], []⟩) (fin := (Sum.elim (fun (t : Bool) => (Exit.ret, ⟨mkE 27 0 [(2, dB t)], []⟩)) (fun (t : Int) => ((Exit.exit 0), ⟨mkE 27 0 [(3, dI t)], []⟩)))) (by
  rintro (t | t) f K h
  · exact h
  · exact h) (fun s => link_map (impl_oneRoot_n3_l x1431 s.1 x1432 s.2) (Sum.elim (fun (t : Int × Int) => Sum.inl (t.1, t.2)) (Sum.elim (fun (t : Bool) => Sum.inr (Sum.inl t)) (fun (t : Int) => Sum.inr (Sum.inr t)))) (by
  rintro (t | t | t)
  · kernel_rfl
  · kernel_rfl
  · kernel_rfl)) (0, 0))

def impl_oneRoot_n5_l (x1431 : List Int) (x1432 : Int) := (link_block (fin2 := (Sum.elim (fun (t : Int) => (Exit.normal, ⟨mkE 27 0 [(3, dI t)], []⟩)) (fun (t : Bool) => (Exit.ret, ⟨mkE 27 0 [(2, dB t)], []⟩)))) (id := 0) (impl_oneRoot_n4_l x1431 x1432) (Sum.elim (fun (t : Bool) => (Sum.inr t)) (fun (t : Int) => (Sum.inl t))) (by
  rintro (t | t) K h
  · exact Eq.mp (by kernel_rfl) h
  · exact Eq.mp (by kernel_rfl) h))

def impl_oneRoot_n6_l (x1431 : List Int) := (link_seq (impl_oneRoot_n2_l x1431) (fun (t : Int) => (impl_oneRoot_n5_l x1431 t)))

theorem impl_oneRoot_n7_l (x1453 : Int) : Link impl_oneRoot_ctx LL (cq [1,1,1] (bodyOf Try.f43)) (aq [1,1,1] impl_oneRoot_an) ⟨mkE 27 0 [(3, dI x1453)], []⟩ (impl_oneRoot_n7 x1453) (fun (t : Bool) => (Exit.ret, ⟨mkE 27 0 [(2, dB t)], []⟩)) := .of fun K h => by
  simp only [impl_oneRoot_n7, wpW] at h
  exact .of (by kernel_rfl) h

def impl_oneRoot_n8_l (x1431 : List Int) := (link_seq2 (impl_oneRoot_n6_l x1431) (fun (t : Int) => (impl_oneRoot_n7_l t)) (fun (t : Bool) => t) (by
  rintro t
  · kernel_rfl) (by
  rintro t f K h
  · exact h))

def impl_oneRoot_n9_l (x1431 : List Int) := (link_group (c := (cq [0,1] (bodyOf Try.f43))) (a := (aq [0,1] impl_oneRoot_an)) [(cq [0] (bodyOf Try.f43))] [(aq [0] impl_oneRoot_an)] rfl (link_seq (impl_oneRoot_n1_l x1431) (fun (t : Unit) => (impl_oneRoot_n8_l x1431))))

theorem impl_oneRoot_e (x1431 : List Int) {r : AV} {H' : Heap} (h : (Ans.mk _ (impl_oneRoot x1431) (fun (t : Bool) => (dB t, [])) [] none).run = some (r, H')) : Awp impl_oneRoot_ctx LL (bodyOf Try.f43) impl_oneRoot_an ⟨mkE 27 0 [(0, dL x1431)], []⟩ (Ret (tlook tys) Try.f43.results.toList r H') :=
  ret_of' (Link.cast (by kernel_rfl) (by kernel_rfl) (impl_oneRoot_n9_l x1431)) (by unfold impl_oneRoot; kernel_rfl) (by
  intro t
  exact ret_mk [dB t] (by kernel_rfl) (by kernel_rfl) (by kernel_rfl) (by kernel_rfl)) h

def F_impl_oneRoot : Fun := fun avs H =>
  match avs, H with
  | [.dat (.list (.int .i64)) x1431], [] => ⟨_, impl_oneRoot x1431, fun (t : Bool) => (dB t, []), [], none⟩
  | _, _ => Ans.no

theorem impl_oneRoot_sound : Sound Try.prog 43 F_impl_oneRoot := by
  refine fn_sound' (C := impl_oneRoot_ctx) (c := bodyOf Try.f43) (cok_of tys_ok (alln) (alln) (by kernel_rfl)) Try.func43 (by kernel_rfl) LL impl_oneRoot_an ?_
  intro avs H r H' h
  unfold F_impl_oneRoot at h
  split at h
  · refine Awp.cast ?_ ?_ ?_ (impl_oneRoot_e _ h) <;> kernel_rfl
  · simp [Ans.no, Ans.run] at h


/-! (*loop.example/headtrees/impl.walker).up -/

def impl_walker_up_an : Ann := (.seq (.leaf [0]) (.seq (.draw [] [0, 1, 2, 3, 4, 5, 6, 7, 8, 9, 10, 11] [] [0, 3]) (.seq (.seq (.leaf [0, 3, 16]) (.cond (.seq (.leaf [2]) (.leaf [2])) (.leaf [0, 3]))) (.seq (.leaf [0]) (.seq (.leaf []) (.seq (.leaf [2]) (.leaf [2])))))))

noncomputable def impl_walker_up_ctx : Ctx := ⟨tlook tys, olook [], ioF, 1, false, []⟩

theorem impl_walker_up_n1_l (x1487 : List Int) (x1488 : Int) (x1489 : Int) : Link impl_walker_up_ctx LL (bodyOf Try.f66) impl_walker_up_an ⟨mkE 28 0 [(0, .ptr 0 0)], [some (.box [dL x1487, dI x1488, dI x1489])]⟩ (impl_walker_up_n1 x1487 x1488 x1489) (fun (t : Bool × Int × Int) => (Exit.ret, ⟨mkE 28 0 [(2, dB t.1)], [some (.box [dL x1487, dI t.2.1, dI t.2.2])]⟩)) := .of fun K h => by
  simp only [impl_walker_up_n1, wpW] at h
  exact .of (by kernel_rfl) h

theorem impl_walker_up_e (x1487 : List Int) (x1488 : Int) (x1489 : Int) {r : AV} {H' : Heap} (h : (Ans.mk _ (impl_walker_up x1487 x1488 x1489) (fun (t : Bool × Int × Int) => (dB t.1, [some (.box [dL x1487, dI t.2.1, dI t.2.2])])) [] none).run = some (r, H')) : Awp impl_walker_up_ctx LL (bodyOf Try.f66) impl_walker_up_an ⟨mkE 28 0 [(0, .ptr 0 0)], [some (.box [dL x1487, dI x1488, dI x1489])]⟩ (Ret (tlook tys) Try.f66.results.toList r H') :=
  ret_of' (impl_walker_up_n1_l x1487 x1488 x1489) (by unfold impl_walker_up; kernel_rfl) (by
  intro t
  exact ret_mk [dB t.1] (by kernel_rfl) (by kernel_rfl) (by kernel_rfl) (by kernel_rfl)) h

def F_impl_walker_up : Fun := fun avs H =>
  match avs, H with
  | [.ptr 0 0], [some (.box [.dat (.list (.int .i64)) x1487, .dat (.int .i64) x1488, .dat (.int .i64) x1489])] => ⟨_, impl_walker_up x1487 x1488 x1489, fun (t : Bool × Int × Int) => (dB t.1, [some (.box [dL x1487, dI t.2.1, dI t.2.2])]), [], none⟩
  | _, _ => Ans.no

theorem impl_walker_up_sound : Sound Try.prog 66 F_impl_walker_up := by
  refine fn_sound' (C := impl_walker_up_ctx) (c := bodyOf Try.f66) (cok_of tys_ok (alln) (alln) (by kernel_rfl)) Try.func66 (by kernel_rfl) LL impl_walker_up_an ?_
  intro avs H r H' h
  unfold F_impl_walker_up at h
  split at h
  · refine Awp.cast ?_ ?_ ?_ (impl_walker_up_e _ _ _ h) <;> kernel_rfl
  · simp [Ans.no, Ans.run] at h


/-! loop.example/headtrees/impl.stepsToRoot -/

def impl_stepsToRoot_an : Ann := (.seq (.leaf [0, 1]) (.seq (.leaf [0, 6]) (.seq (.block (.loop (.seq (.seq (.leaf [0, 6, 10]) (.cond (.leaf [0, 6]) (.leaf [6]))) (.block (.seq (.leaf [0, 6, 15]) (.cond (.seq (.leaf [4, 5]) (.leaf [4, 5])) (.leaf [0, 6]))))))) (.seq (.leaf [4, 5]) (.leaf [4, 5])))))

noncomputable def impl_stepsToRoot_ctx : Ctx := ⟨tlook tys, olook [(66, F_impl_walker_up)], ioF, 0, false, []⟩

theorem impl_stepsToRoot_n1_l (x1485 : List Int) (x1486 : Int) : Link impl_stepsToRoot_ctx LL (Code.seq (cq [0] (bodyOf Try.f44)) (cq [0,1] (bodyOf Try.f44))) (Ann.seq (aq [0] impl_stepsToRoot_an) (aq [0,1] impl_stepsToRoot_an)) ⟨mkE 18 0 [(0, dL x1485), (1, dI x1486)], []⟩ (impl_stepsToRoot_n1) (fun (t : Unit) => (Exit.normal, ⟨mkE 18 0 [(0, dL x1485), (6, .ptr 0 0)], [some (.box [dL x1485, dI x1486, dI 0])]⟩)) := .of fun K h => by
  simp only [impl_stepsToRoot_n1, wpW] at h
  exact .of (by kernel_rfl) h

theorem impl_stepsToRoot_n2_l (x1485 : List Int) (x1523 : Int) (x1524 : Int) : Link impl_stepsToRoot_ctx LL (cq [0,0,0,1,1] (bodyOf Try.f44)) (aq [0,0,0,1,1] impl_stepsToRoot_an) ⟨mkE 18 0 [(0, dL x1485), (6, .ptr 0 0)], [some (.box [dL x1485, dI x1523, dI x1524])]⟩ (impl_stepsToRoot_n2 x1485 x1523 x1524) (Sum.elim (fun (t : Int × Int) => (Exit.normal, ⟨mkE 18 0 [(0, dL x1485), (6, .ptr 0 0)], [some (.box [dL x1485, dI t.1, dI t.2])]⟩)) (Sum.elim (fun (t : Int × Bool) => (Exit.ret, ⟨mkE 18 0 [(4, dI t.1), (5, dB t.2)], []⟩)) (fun (t : Int × Int) => ((Exit.exit 0), ⟨mkE 18 0 [(6, .ptr 0 0)], [some (.box [dL x1485, dI t.1, dI t.2])]⟩)))) := .of fun K h => by
  simp only [impl_stepsToRoot_n2, wpW] at h
  exact .of (by kernel_rfl) h

def impl_stepsToRoot_n3_l (x1485 : List Int) (x1486 : Int) := (link_loop (mk := fun (s : Int × Int) => ⟨mkE 18 0 [(0, dL x1485), (6, .ptr 0 0)], [some (.box [dL x1485, dI s.1, dI s.2])]⟩) (fin := (Sum.elim (fun (t : Int × Bool) => (Exit.ret, ⟨mkE 18 0 [(4, dI t.1), (5, dB t.2)], []⟩)) (fun (t : Int × Int) => ((Exit.exit 0), ⟨mkE 18 0 [(6, .ptr 0 0)], [some (.box [dL x1485, dI t.1, dI t.2])]⟩)))) (by
  rintro (t | t) f K h
  · exact h
  · exact h) (fun s => link_map (impl_stepsToRoot_n2_l x1485 s.1 s.2) (Sum.elim (fun (t : Int × Int) => Sum.inl (t.1, t.2)) (Sum.elim (fun (t : Int × Bool) => Sum.inr (Sum.inl t)) (fun (t : Int × Int) => Sum.inr (Sum.inr t)))) (by
  rintro (t | t | t)
  · kernel_rfl
  · kernel_rfl
  · kernel_rfl)) (x1486, 0))

def impl_stepsToRoot_n4_l (x1485 : List Int) (x1486 : Int) := (link_block (fin2 := (Sum.elim (fun (t : Int × Int) => (Exit.normal, ⟨mkE 18 0 [(6, .ptr 0 0)], [some (.box [dL x1485, dI t.1, dI t.2])]⟩)) (fun (t : Int × Bool) => (Exit.ret, ⟨mkE 18 0 [(4, dI t.1), (5, dB t.2)], []⟩)))) (id := 0) (impl_stepsToRoot_n3_l x1485 x1486) (Sum.elim (fun (t : Int × Bool) => (Sum.inr t)) (fun (t : Int × Int) => (Sum.inl (t.1, t.2)))) (by
  rintro (t | t) K h
  · exact Eq.mp (by kernel_rfl) h
  · exact Eq.mp (by kernel_rfl) h))

theorem impl_stepsToRoot_n5_l (x1485 : List Int) (x1531 : Int) (x1532 : Int) : Link impl_stepsToRoot_ctx LL (cq [1,1,1] (bodyOf Try.f44)) (aq [1,1,1] impl_stepsToRoot_an) ⟨mkE 18 0 [(6, .ptr 0 0)], [some (.box [dL x1485, dI x1531, dI x1532])]⟩ (impl_stepsToRoot_n5 x1532) (fun (t : Int × Bool) => (Exit.ret, ⟨mkE 18 0 [(4, dI t.1), (5, dB t.2)], []⟩)) := .of fun K h => by
  simp only [impl_stepsToRoot_n5, wpW] at h
  exact .of (by kernel_rfl) h

def impl_stepsToRoot_n6_l (x1485 : List Int) (x1486 : Int) := (link_seq2 (impl_stepsToRoot_n4_l x1485 x1486) (fun (t : Int × Int) => (impl_stepsToRoot_n5_l x1485 t.1 t.2)) (fun (t : Int × Bool) => t) (by
  rintro t
  · kernel_rfl) (by
  rintro t f K h
  · exact h))

def impl_stepsToRoot_n7_l (x1485 : List Int) (x1486 : Int) := (link_group (c := (cq [0,1] (bodyOf Try.f44))) (a := (aq [0,1] impl_stepsToRoot_an)) [(cq [0] (bodyOf Try.f44))] [(aq [0] impl_stepsToRoot_an)] rfl (link_seq (impl_stepsToRoot_n1_l x1485 x1486) (fun (t : Unit) => (impl_stepsToRoot_n6_l x1485 x1486))))

theorem impl_stepsToRoot_e (x1485 : List Int) (x1486 : Int) {r : AV} {H' : Heap} (h : (Ans.mk _ (impl_stepsToRoot x1485 x1486) (fun (t : Int × Bool) => (.tup [dI t.1, dB t.2], [])) [] none).run = some (r, H')) : Awp impl_stepsToRoot_ctx LL (bodyOf Try.f44) impl_stepsToRoot_an ⟨mkE 18 0 [(0, dL x1485), (1, dI x1486)], []⟩ (Ret (tlook tys) Try.f44.results.toList r H') :=
  ret_of' (Link.cast (by kernel_rfl) (by kernel_rfl) (impl_stepsToRoot_n7_l x1485 x1486)) (by unfold impl_stepsToRoot; kernel_rfl) (by
  intro t
  exact ret_mk [dI t.1, dB t.2] (by kernel_rfl) (by kernel_rfl) (by kernel_rfl) (by kernel_rfl)) h

def F_impl_stepsToRoot : Fun := fun avs H =>
  match avs, H with
  | [.dat (.list (.int .i64)) x1485, .dat (.int .i64) x1486], [] => ⟨_, impl_stepsToRoot x1485 x1486, fun (t : Int × Bool) => (.tup [dI t.1, dB t.2], []), [], none⟩
  | _, _ => Ans.no

theorem impl_stepsToRoot_sound : Sound Try.prog 44 F_impl_stepsToRoot := by
  refine fn_sound' (C := impl_stepsToRoot_ctx) (c := bodyOf Try.f44) (cok_of tys_ok (allc impl_walker_up_sound alln) (allc Try.call66 alln) (by kernel_rfl)) Try.func44 (by kernel_rfl) LL impl_stepsToRoot_an ?_
  intro avs H r H' h
  unfold F_impl_stepsToRoot at h
  split at h
  · refine Awp.cast ?_ ?_ ?_ (impl_stepsToRoot_e _ _ h) <;> kernel_rfl
  · simp [Ans.no, Ans.run] at h


/-! loop.example/headtrees/impl.TreeOk -/

def impl_TreeOk_an : Ann := (.seq (.leaf [0]) (.seq (.seq (.leaf [0, 18]) (.cond (.seq (.leaf [2]) (.leaf [2])) (.leaf [0]))) (.seq (.seq (.leaf [0, 20, 21]) (.block (.loop (.seq (.leaf [0, 20, 21, 22]) (.seq (.cond (.leaf [0, 20, 21]) (.leaf [])) (.seq (.block (.seq (.leaf [0, 3, 20, 21]) (.seq (.leaf [0, 5, 20, 21]) (.seq (.leaf [0, 20, 21, 32]) (.cond (.seq (.leaf [2]) (.leaf [2])) (.leaf [0, 20, 21])))))) (.leaf [0, 20, 21]))))))) (.seq (.leaf [2]) (.leaf [2])))))

noncomputable def impl_TreeOk_ctx : Ctx := ⟨tlook tys, olook [(43, F_impl_oneRoot), (44, F_impl_stepsToRoot)], ioF, 0, false, []⟩

theorem impl_TreeOk_n1_l (x1426 : List Int) : Link impl_TreeOk_ctx LL (Code.seq (cq [0] (bodyOf Try.f16)) (cq [0,1] (bodyOf Try.f16))) (Ann.seq (aq [0] impl_TreeOk_an) (aq [0,1] impl_TreeOk_an)) ⟨mkE 34 0 [(0, dL x1426)], []⟩ (impl_TreeOk_n1 x1426) (Sum.elim (fun (t : Unit) => (Exit.normal, ⟨mkE 34 0 [(0, dL x1426)], []⟩)) (fun (t : Bool) => (Exit.ret, ⟨mkE 34 0 [(2, dB t)], []⟩))) := .of fun K h => by
  simp only [impl_TreeOk_n1, wpW] at h
  exact .of (by kernel_rfl) h

theorem impl_TreeOk_n2_l (x1426 : List Int) : Link impl_TreeOk_ctx LL (cq [0,0,1,1] (bodyOf Try.f16)) (aq [0,0,1,1] impl_TreeOk_an) ⟨mkE 34 0 [(0, dL x1426)], []⟩ (impl_TreeOk_n2 x1426) (fun (t : Int) => (Exit.normal, ⟨mkE 34 0 [(0, dL x1426), (20, dI t), (21, dI 0)], []⟩)) := .of fun K h => by
  simp only [impl_TreeOk_n2, wpW] at h
  exact .of (by kernel_rfl) h

theorem impl_TreeOk_n3_l (x1426 : List Int) (x1480 : Int) (x1548 : Int) : Link impl_TreeOk_ctx LL (cq [0,0,1,0,1,1] (bodyOf Try.f16)) (aq [0,0,1,0,1,1] impl_TreeOk_an) ⟨mkE 34 0 [(0, dL x1426), (20, dI x1480), (21, dI x1548)], []⟩ (impl_TreeOk_n3 x1426 x1480 x1548) (Sum.elim (fun (t : Int) => (Exit.normal, ⟨mkE 34 0 [(0, dL x1426), (20, dI x1480), (21, dI t)], []⟩)) (Sum.elim (fun (t : Bool) => (Exit.ret, ⟨mkE 34 0 [(2, dB t)], []⟩)) (fun (t : Unit) => ((Exit.exit 0), ⟨mkE 34 0 [], []⟩)))) := .of fun K h => by
  simp only [impl_TreeOk_n3, wpW] at h
  exact .of (by kernel_rfl) h

def impl_TreeOk_n4_l (x1426 : List Int) (x1480 : Int) := (link_loop (mk := fun (s : Int) => ⟨mkE 34 0 [(0, dL x1426), (20, dI x1480), (21, dI s)], []⟩) (fin := (Sum.elim (fun (t : Bool) => (Exit.ret, ⟨mkE 34 0 [(2, dB t)], []⟩)) (fun (t : Unit) => ((Exit.exit 0), ⟨mkE 34 0 [], []⟩)))) (by
  rintro (t | t) f K h
  · exact h
  · exact h) (fun s => link_map (impl_TreeOk_n3_l x1426 x1480 s) (Sum.elim (fun (t : Int) => Sum.inl t) (Sum.elim (fun (t : Bool) => Sum.inr (Sum.inl t)) (fun (t : Unit) => Sum.inr (Sum.inr t)))) (by
  rintro (t | t | t)
  · kernel_rfl
  · kernel_rfl
  · kernel_rfl)) 0)

def impl_TreeOk_n5_l (x1426 : List Int) (x1480 : Int) := (link_block (fin2 := (Sum.elim (fun (t : Unit) => (Exit.normal, ⟨mkE 34 0 [], []⟩)) (fun (t : Bool) => (Exit.ret, ⟨mkE 34 0 [(2, dB t)], []⟩)))) (id := 0) (impl_TreeOk_n4_l x1426 x1480) (Sum.elim (fun (t : Bool) => (Sum.inr t)) (fun (t : Unit) => (Sum.inl ()))) (by
  rintro (t | t) K h
  · exact Eq.mp (by kernel_rfl) h
  · exact Eq.mp (by kernel_rfl) h))

def impl_TreeOk_n6_l (x1426 : List Int) := (link_seq (impl_TreeOk_n2_l x1426) (fun (t : Int) => (impl_TreeOk_n5_l x1426 t)))

theorem impl_TreeOk_n7_l : Link impl_TreeOk_ctx LL (cq [1,1,1] (bodyOf Try.f16)) (aq [1,1,1] impl_TreeOk_an) ⟨mkE 34 0 [], []⟩ (impl_TreeOk_n7) (fun (t : Bool) => (Exit.ret, ⟨mkE 34 0 [(2, dB t)], []⟩)) := .of fun K h => by
  simp only [impl_TreeOk_n7, wpW] at h
  exact .of (by kernel_rfl) h

def impl_TreeOk_n8_l (x1426 : List Int) := (link_seq2 (impl_TreeOk_n6_l x1426) (fun (t : Unit) => (impl_TreeOk_n7_l)) (fun (t : Bool) => t) (by
  rintro t
  · kernel_rfl) (by
  rintro t f K h
  · exact h))

def impl_TreeOk_n9_l (x1426 : List Int) := (link_group (c := (cq [0,1] (bodyOf Try.f16))) (a := (aq [0,1] impl_TreeOk_an)) [(cq [0] (bodyOf Try.f16))] [(aq [0] impl_TreeOk_an)] rfl (link_seq2 (impl_TreeOk_n1_l x1426) (fun (t : Unit) => (impl_TreeOk_n8_l x1426)) (fun (t : Bool) => t) (by
  rintro t
  · kernel_rfl) (by
  rintro t f K h
  · exact h)))

theorem impl_TreeOk_e (x1426 : List Int) {r : AV} {H' : Heap} (h : (Ans.mk _ (impl_TreeOk x1426) (fun (t : Bool) => (dB t, [])) [] none).run = some (r, H')) : Awp impl_TreeOk_ctx LL (bodyOf Try.f16) impl_TreeOk_an ⟨mkE 34 0 [(0, dL x1426)], []⟩ (Ret (tlook tys) Try.f16.results.toList r H') :=
  ret_of' (Link.cast (by kernel_rfl) (by kernel_rfl) (impl_TreeOk_n9_l x1426)) (by unfold impl_TreeOk; kernel_rfl) (by
  intro t
  exact ret_mk [dB t] (by kernel_rfl) (by kernel_rfl) (by kernel_rfl) (by kernel_rfl)) h

def F_impl_TreeOk : Fun := fun avs H =>
  match avs, H with
  | [.dat (.list (.int .i64)) x1426], [] => ⟨_, impl_TreeOk x1426, fun (t : Bool) => (dB t, []), [], none⟩
  | _, _ => Ans.no

theorem impl_TreeOk_sound : Sound Try.prog 16 F_impl_TreeOk := by
  refine fn_sound' (C := impl_TreeOk_ctx) (c := bodyOf Try.f16) (cok_of tys_ok (allc impl_oneRoot_sound (allc impl_stepsToRoot_sound alln)) (allc Try.call43 (allc Try.call44 alln)) (by kernel_rfl)) Try.func16 (by kernel_rfl) LL impl_TreeOk_an ?_
  intro avs H r H' h
  unfold F_impl_TreeOk at h
  split at h
  · refine Awp.cast ?_ ?_ ?_ (impl_TreeOk_e _ h) <;> kernel_rfl
  · simp [Ans.no, Ans.run] at h


/-! loop.example/headtrees/impl.arcBetween -/

def impl_arcBetween_an : Ann := (.seq (.leaf [0, 1, 4]) (.seq (.seq (.leaf [0, 1, 4, 16]) (.cond (.seq (.leaf [4, 5]) (.leaf [4, 5])) (.leaf [0, 1, 4]))) (.seq (.leaf [4, 5]) (.leaf [4, 5]))))

noncomputable def impl_arcBetween_ctx : Ctx := ⟨tlook tys, olook [], ioF, 0, false, []⟩

theorem impl_arcBetween_n1_l (x1580 : Int) (x1581 : Int) : Link impl_arcBetween_ctx LL (bodyOf Try.f59) impl_arcBetween_an ⟨mkE 25 0 [(0, dI x1580), (1, dI x1581)], []⟩ (impl_arcBetween_n1 x1580 x1581) (fun (t : Bool × Int × Int) => (Exit.ret, ⟨mkE 25 0 [(4, .ptr 0 0), (5, dB t.1)], [some (.box [dI t.2.1, dI t.2.2])]⟩)) := .of fun K h => by
  simp only [impl_arcBetween_n1, wpW] at h
  exact .of (by kernel_rfl) h

theorem impl_arcBetween_e (x1580 : Int) (x1581 : Int) {r : AV} {H' : Heap} (h : (Ans.mk _ (impl_arcBetween x1580 x1581) (fun (t : Bool × Int × Int) => (.tup [.agg [dI t.2.1, dI t.2.2], dB t.1], [some (.box [dI t.2.1, dI t.2.2])])) [] none).run = some (r, H')) : Awp impl_arcBetween_ctx LL (bodyOf Try.f59) impl_arcBetween_an ⟨mkE 25 0 [(0, dI x1580), (1, dI x1581)], []⟩ (Ret (tlook tys) Try.f59.results.toList r H') :=
  ret_of' (impl_arcBetween_n1_l x1580 x1581) (by unfold impl_arcBetween; kernel_rfl) (by
  intro t
  exact ret_mk [.agg [dI t.2.1, dI t.2.2], dB t.1] (by kernel_rfl) (by kernel_rfl) (by kernel_rfl) (by kernel_rfl)) h

def F_impl_arcBetween : Fun := fun avs H =>
  match avs, H with
  | [.dat (.int .i64) x1580, .dat (.int .i64) x1581], [] => ⟨_, impl_arcBetween x1580 x1581, fun (t : Bool × Int × Int) => (.tup [.agg [dI t.2.1, dI t.2.2], dB t.1], [some (.box [dI t.2.1, dI t.2.2])]), [], none⟩
  | _, _ => Ans.no

theorem impl_arcBetween_sound : Sound Try.prog 59 F_impl_arcBetween := by
  refine fn_sound' (C := impl_arcBetween_ctx) (c := bodyOf Try.f59) (cok_of tys_ok (alln) (alln) (by kernel_rfl)) Try.func59 (by kernel_rfl) LL impl_arcBetween_an ?_
  intro avs H r H' h
  unfold F_impl_arcBetween at h
  split at h
  · refine Awp.cast ?_ ?_ ?_ (impl_arcBetween_e _ _ h) <;> kernel_rfl
  · simp [Ans.no, Ans.run] at h


/-! loop.example/headtrees/impl.arcsOf -/

def impl_arcsOf_an : Ann := (.seq (.leaf [0]) (.seq (.leaf [0, 3]) (.seq (.seq (.leaf [3, 11, 12, 13]) (.block (.loop (.seq (.leaf [3, 11, 12, 13, 14]) (.seq (.cond (.leaf [3, 11, 12, 13]) (.leaf [3])) (.seq (.block (.seq (.leaf [3, 4, 5, 11, 12, 13]) (.seq (.leaf [3, 6, 7, 11, 12, 13]) (.seq (.leaf [3, 6, 11, 12, 13, 25]) (.cond (.leaf [3, 11, 12, 13]) (.leaf [3, 11, 12, 13])))))) (.leaf [3, 11, 12, 13]))))))) (.seq (.leaf [2]) (.leaf [2])))))

noncomputable def impl_arcsOf_ctx : Ctx := ⟨tlook tys, olook [(59, F_impl_arcBetween)], ioF, 0, false, []⟩

theorem impl_arcsOf_n1_l (x1569 : List Int) : Link impl_arcsOf_ctx LL (Code.seq (cq [0] (bodyOf Try.f40)) (cq [0,1] (bodyOf Try.f40))) (Ann.seq (aq [0] impl_arcsOf_an) (aq [0,1] impl_arcsOf_an)) ⟨mkE 32 0 [(0, dL x1569)], []⟩ (impl_arcsOf_n1 x1569) (fun (t : (List (Int × Int × Unit))) => (Exit.normal, ⟨mkE 32 0 [(0, dL x1569), (3, .slc 0)], [some (.seq (.pair (.int .i64) (.pair (.int .i64) .unit)) t)]⟩)) := .of fun K h => by
  simp only [impl_arcsOf_n1, wpW] at h
  exact .of (by kernel_rfl) h

theorem impl_arcsOf_n2_l (x1569 : List Int) (x1573 : List (Int × Int × Unit)) : Link impl_arcsOf_ctx LL (cq [0,0,1,1] (bodyOf Try.f40)) (aq [0,0,1,1] impl_arcsOf_an) ⟨mkE 32 0 [(0, dL x1569), (3, .slc 0)], [some (.seq (.pair (.int .i64) (.pair (.int .i64) .unit)) x1573)]⟩ (impl_arcsOf_n2 x1569) (fun (t : Int) => (Exit.normal, ⟨mkE 32 0 [(3, .slc 0), (11, dL x1569), (12, dI t), (13, dI 0)], [some (.seq (.pair (.int .i64) (.pair (.int .i64) .unit)) x1573)]⟩)) := .of fun K h => by
  simp only [impl_arcsOf_n2, wpW] at h
  exact .of (by kernel_rfl) h

theorem impl_arcsOf_n3_l (x1569 : List Int) (x1574 : Int) (x1626 : Int) (x1627 : List (Int × Int × Unit)) : Link impl_arcsOf_ctx LL (cq [0,0,1,0,1,1] (bodyOf Try.f40)) (aq [0,0,1,0,1,1] impl_arcsOf_an) ⟨mkE 32 0 [(3, .slc 0), (11, dL x1569), (12, dI x1574), (13, dI x1626)], [some (.seq (.pair (.int .i64) (.pair (.int .i64) .unit)) x1627)]⟩ (impl_arcsOf_n3 x1569 x1574 x1626 x1627) (Sum.elim (fun (t : Int × (List (Int × Int × Unit))) => (Exit.normal, ⟨mkE 32 0 [(3, .slc 0), (11, dL x1569), (12, dI x1574), (13, dI t.1)], [some (.seq (.pair (.int .i64) (.pair (.int .i64) .unit)) t.2)]⟩)) (fun (t : (List (Int × Int × Unit))) => ((Exit.exit 0), ⟨mkE 32 0 [(3, .slc 0)], [some (.seq (.pair (.int .i64) (.pair (.int .i64) .unit)) t)]⟩))) := .of fun K h => by
  simp only [impl_arcsOf_n3, wpW] at h
  exact .of (by kernel_rfl) h

def impl_arcsOf_n4_l (x1569 : List Int) (x1574 : Int) (x1573 : List (Int × Int × Unit)) := (link_loop (mk := fun (s : Int × (List (Int × Int × Unit))) => ⟨mkE 32 0 [(3, .slc 0), (11, dL x1569), (12, dI x1574), (13, dI s.1)], [some (.seq (.pair (.int .i64) (.pair (.int .i64) .unit)) s.2)]⟩) (fin := (fun (t : (List (Int × Int × Unit))) => ((Exit.exit 0), ⟨mkE 32 0 [(3, .slc 0)], [some (.seq (.pair (.int .i64) (.pair (.int .i64) .unit)) t)]⟩))) (by
  rintro t f K h
  · exact h) (fun s => link_map (impl_arcsOf_n3_l x1569 x1574 s.1 s.2) (Sum.elim (fun (t : Int × (List (Int × Int × Unit))) => Sum.inl (t.1, t.2)) (fun (t : (List (Int × Int × Unit))) => Sum.inr t)) (by
  rintro (t | t)
  · kernel_rfl
  · kernel_rfl)) (0, x1573))

def impl_arcsOf_n5_l (x1569 : List Int) (x1574 : Int) (x1573 : List (Int × Int × Unit)) := (link_block (fin2 := (fun (t : (List (Int × Int × Unit))) => (Exit.normal, ⟨mkE 32 0 [(3, .slc 0)], [some (.seq (.pair (.int .i64) (.pair (.int .i64) .unit)) t)]⟩))) (id := 0) (impl_arcsOf_n4_l x1569 x1574 x1573) (fun (t : (List (Int × Int × Unit))) => t) (by
  rintro t K h
  · exact Eq.mp (by kernel_rfl) h))

def impl_arcsOf_n6_l (x1569 : List Int) (x1573 : List (Int × Int × Unit)) := (link_seq (impl_arcsOf_n2_l x1569 x1573) (fun (t : Int) => (impl_arcsOf_n5_l x1569 t x1573)))

theorem impl_arcsOf_n7_l (x1627 : List (Int × Int × Unit)) : Link impl_arcsOf_ctx LL (cq [1,1,1] (bodyOf Try.f40)) (aq [1,1,1] impl_arcsOf_an) ⟨mkE 32 0 [(3, .slc 0)], [some (.seq (.pair (.int .i64) (.pair (.int .i64) .unit)) x1627)]⟩ (impl_arcsOf_n7 x1627) (fun (t : (List (Int × Int × Unit))) => (Exit.ret, ⟨mkE 32 0 [(2, .slc 0)], [some (.seq (.pair (.int .i64) (.pair (.int .i64) .unit)) t)]⟩)) := .of fun K h => by
  simp only [impl_arcsOf_n7, wpW] at h
  exact .of (by kernel_rfl) h

def impl_arcsOf_n8_l (x1569 : List Int) (x1573 : List (Int × Int × Unit)) := (link_seq (impl_arcsOf_n6_l x1569 x1573) (fun (t : (List (Int × Int × Unit))) => (impl_arcsOf_n7_l t)))

def impl_arcsOf_n9_l (x1569 : List Int) := (link_group (c := (cq [0,1] (bodyOf Try.f40))) (a := (aq [0,1] impl_arcsOf_an)) [(cq [0] (bodyOf Try.f40))] [(aq [0] impl_arcsOf_an)] rfl (link_seq (impl_arcsOf_n1_l x1569) (fun (t : (List (Int × Int × Unit))) => (impl_arcsOf_n8_l x1569 t))))

theorem impl_arcsOf_e (x1569 : List Int) {r : AV} {H' : Heap} (h : (Ans.mk _ (impl_arcsOf x1569) (fun (t : (List (Int × Int × Unit))) => (.slc 0, [some (.seq (.pair (.int .i64) (.pair (.int .i64) .unit)) t)])) [] none).run = some (r, H')) : Awp impl_arcsOf_ctx LL (bodyOf Try.f40) impl_arcsOf_an ⟨mkE 32 0 [(0, dL x1569)], []⟩ (Ret (tlook tys) Try.f40.results.toList r H') :=
  ret_of' (Link.cast (by kernel_rfl) (by kernel_rfl) (impl_arcsOf_n9_l x1569)) (by unfold impl_arcsOf; kernel_rfl) (by
  intro t
  exact ret_mk [.slc 0] (by kernel_rfl) (by kernel_rfl) (by kernel_rfl) (by kernel_rfl)) h

def F_impl_arcsOf : Fun := fun avs H =>
  match avs, H with
  | [.dat (.list (.int .i64)) x1569], [] => ⟨_, impl_arcsOf x1569, fun (t : (List (Int × Int × Unit))) => (.slc 0, [some (.seq (.pair (.int .i64) (.pair (.int .i64) .unit)) t)]), [], none⟩
  | _, _ => Ans.no

theorem impl_arcsOf_sound : Sound Try.prog 40 F_impl_arcsOf := by
  refine fn_sound' (C := impl_arcsOf_ctx) (c := bodyOf Try.f40) (cok_of tys_ok (allc impl_arcBetween_sound alln) (allc Try.call59 alln) (by kernel_rfl)) Try.func40 (by kernel_rfl) LL impl_arcsOf_an ?_
  intro avs H r H' h
  unfold F_impl_arcsOf at h
  split at h
  · refine Awp.cast ?_ ?_ ?_ (impl_arcsOf_e _ h) <;> kernel_rfl
  · simp [Ans.no, Ans.run] at h


/-! loop.example/headtrees/impl.countEnds -/

def impl_countEnds_an : Ann := (.seq (.leaf [0, 2]) (.seq (.leaf [0, 2, 3]) (.seq (.seq (.leaf [2, 3, 6, 7, 8]) (.block (.loop (.seq (.leaf [2, 3, 6, 7, 8, 9]) (.seq (.cond (.leaf [2, 3, 6, 7, 8]) (.leaf [2, 3])) (.seq (.block (.seq (.leaf [2, 3, 5, 6, 7, 8]) (.seq (.leaf [2, 3, 5, 6, 7, 8]) (.leaf [2, 3, 6, 7, 8])))) (.leaf [2, 3, 6, 7, 8]))))))) (.seq (.leaf [2]) (.leaf [2])))))

noncomputable def impl_countEnds_ctx : Ctx := ⟨tlook tys, olook [], ioF, 0, false, []⟩

theorem impl_countEnds_n1_l (x1661 : List (Int × Int × Unit)) : Link impl_countEnds_ctx LL (Code.seq (cq [0] (bodyOf Try.f39)) (cq [0,1] (bodyOf Try.f39))) (Ann.seq (aq [0] impl_countEnds_an) (aq [0,1] impl_countEnds_an)) ⟨mkE 26 0 [(0, .dat (.list (.pair (.int .i64) (.pair (.int .i64) .unit))) x1661)], []⟩ (impl_countEnds_n1) (fun (t : Unit) => (Exit.normal, ⟨mkE 26 0 [(0, .dat (.list (.pair (.int .i64) (.pair (.int .i64) .unit))) x1661), (2, .ptr 0 0), (3, .ptr 1 0)], [some (sI (List.replicate 9 (0 : Int))), some (sI (List.replicate 9 (0 : Int)))]⟩)) := .of fun K h => by
  simp only [impl_countEnds_n1, wpW] at h
  exact .of (by kernel_rfl) h

theorem impl_countEnds_n2_l (x1661 : List (Int × Int × Unit)) : Link impl_countEnds_ctx LL (cq [0,0,1,1] (bodyOf Try.f39)) (aq [0,0,1,1] impl_countEnds_an) ⟨mkE 26 0 [(0, .dat (.list (.pair (.int .i64) (.pair (.int .i64) .unit))) x1661), (2, .ptr 0 0), (3, .ptr 1 0)], [some (sI (List.replicate 9 (0 : Int))), some (sI (List.replicate 9 (0 : Int)))]⟩ (impl_countEnds_n2 x1661) (fun (t : Int) => (Exit.normal, ⟨mkE 26 0 [(2, .ptr 0 0), (3, .ptr 1 0), (6, .dat (.list (.pair (.int .i64) (.pair (.int .i64) .unit))) x1661), (7, dI t), (8, dI 0)], [some (sI (List.replicate 9 (0 : Int))), some (sI (List.replicate 9 (0 : Int)))]⟩)) := .of fun K h => by
  simp only [impl_countEnds_n2, wpW] at h
  exact .of (by kernel_rfl) h

theorem impl_countEnds_n3_l (x1661 : List (Int × Int × Unit)) (x1663 : Int) (x1707 : Int) (x1708 : List Int) : Link impl_countEnds_ctx LL (cq [0,0,1,0,1,1] (bodyOf Try.f39)) (aq [0,0,1,0,1,1] impl_countEnds_an) ⟨mkE 26 0 [(2, .ptr 0 0), (3, .ptr 1 0), (6, .dat (.list (.pair (.int .i64) (.pair (.int .i64) .unit))) x1661), (7, dI x1663), (8, dI x1707)], [some (sI (List.replicate 9 (0 : Int))), some (sI x1708)]⟩ (impl_countEnds_n3 x1661 x1663 x1707 x1708) (Sum.elim (fun (t : Int × (List Int)) => (Exit.normal, ⟨mkE 26 0 [(2, .ptr 0 0), (3, .ptr 1 0), (6, .dat (.list (.pair (.int .i64) (.pair (.int .i64) .unit))) x1661), (7, dI x1663), (8, dI t.1)], [some (sI (List.replicate 9 (0 : Int))), some (sI t.2)]⟩)) (fun (t : (List Int)) => ((Exit.exit 0), ⟨mkE 26 0 [(2, .ptr 0 0), (3, .ptr 1 0)], [some (sI (List.replicate 9 (0 : Int))), some (sI t)]⟩))) := .of fun K h => by
  simp only [impl_countEnds_n3, wpW] at h
  exact .of (by kernel_rfl) h

def impl_countEnds_n4_l (x1661 : List (Int × Int × Unit)) (x1663 : Int) := (link_loop (mk := fun (s : Int × (List Int)) => ⟨mkE 26 0 [(2, .ptr 0 0), (3, .ptr 1 0), (6, .dat (.list (.pair (.int .i64) (.pair (.int .i64) .unit))) x1661), (7, dI x1663), (8, dI s.1)], [some (sI (List.replicate 9 (0 : Int))), some (sI s.2)]⟩) (fin := (fun (t : (List Int)) => ((Exit.exit 0), ⟨mkE 26 0 [(2, .ptr 0 0), (3, .ptr 1 0)], [some (sI (List.replicate 9 (0 : Int))), some (sI t)]⟩))) (by
  rintro t f K h
  · exact h) (fun s => link_map (impl_countEnds_n3_l x1661 x1663 s.1 s.2) (Sum.elim (fun (t : Int × (List Int)) => Sum.inl (t.1, t.2)) (fun (t : (List Int)) => Sum.inr t)) (by
  rintro (t | t)
  · kernel_rfl
  · kernel_rfl)) (0, (List.replicate 9 (0 : Int))))

def impl_countEnds_n5_l (x1661 : List (Int × Int × Unit)) (x1663 : Int) := (link_block (fin2 := (fun (t : (List Int)) => (Exit.normal, ⟨mkE 26 0 [(2, .ptr 0 0), (3, .ptr 1 0)], [some (sI (List.replicate 9 (0 : Int))), some (sI t)]⟩))) (id := 0) (impl_countEnds_n4_l x1661 x1663) (fun (t : (List Int)) => t) (by
  rintro t K h
  · exact Eq.mp (by kernel_rfl) h))

def impl_countEnds_n6_l (x1661 : List (Int × Int × Unit)) := (link_seq (impl_countEnds_n2_l x1661) (fun (t : Int) => (impl_countEnds_n5_l x1661 t)))

theorem impl_countEnds_n7_l (x1708 : List Int) : Link impl_countEnds_ctx LL (cq [1,1,1] (bodyOf Try.f39)) (aq [1,1,1] impl_countEnds_an) ⟨mkE 26 0 [(2, .ptr 0 0), (3, .ptr 1 0)], [some (sI (List.replicate 9 (0 : Int))), some (sI x1708)]⟩ (impl_countEnds_n7 x1708) (fun (t : Int × Int × Int × Int × Int × Int × Int × Int × Int) => (Exit.ret, ⟨mkE 26 0 [(2, .ptr 0 0)], [some (sI ([t.1, t.2.1, t.2.2.1, t.2.2.2.1, t.2.2.2.2.1, t.2.2.2.2.2.1, t.2.2.2.2.2.2.1, t.2.2.2.2.2.2.2.1, t.2.2.2.2.2.2.2.2]))]⟩)) := .of fun K h => by
  simp only [impl_countEnds_n7, wpW] at h
  exact .of (by kernel_rfl) h

def impl_countEnds_n8_l (x1661 : List (Int × Int × Unit)) := (link_seq (impl_countEnds_n6_l x1661) (fun (t : (List Int)) => (impl_countEnds_n7_l t)))

def impl_countEnds_n9_l (x1661 : List (Int × Int × Unit)) := (link_group (c := (cq [0,1] (bodyOf Try.f39))) (a := (aq [0,1] impl_countEnds_an)) [(cq [0] (bodyOf Try.f39))] [(aq [0] impl_countEnds_an)] rfl (link_seq (impl_countEnds_n1_l x1661) (fun (t : Unit) => (impl_countEnds_n8_l x1661))))

theorem impl_countEnds_e (x1661 : List (Int × Int × Unit)) {r : AV} {H' : Heap} (h : (Ans.mk _ (impl_countEnds x1661) (fun (t : Int × Int × Int × Int × Int × Int × Int × Int × Int) => (.agg [dI t.1, dI t.2.1, dI t.2.2.1, dI t.2.2.2.1, dI t.2.2.2.2.1, dI t.2.2.2.2.2.1, dI t.2.2.2.2.2.2.1, dI t.2.2.2.2.2.2.2.1, dI t.2.2.2.2.2.2.2.2], [some (sI ([t.1, t.2.1, t.2.2.1, t.2.2.2.1, t.2.2.2.2.1, t.2.2.2.2.2.1, t.2.2.2.2.2.2.1, t.2.2.2.2.2.2.2.1, t.2.2.2.2.2.2.2.2]))])) [] none).run = some (r, H')) : Awp impl_countEnds_ctx LL (bodyOf Try.f39) impl_countEnds_an ⟨mkE 26 0 [(0, .dat (.list (.pair (.int .i64) (.pair (.int .i64) .unit))) x1661)], []⟩ (Ret (tlook tys) Try.f39.results.toList r H') :=
  ret_of' (Link.cast (by kernel_rfl) (by kernel_rfl) (impl_countEnds_n9_l x1661)) (by unfold impl_countEnds; kernel_rfl) (by
  intro t
  exact ret_mk [.agg [dI t.1, dI t.2.1, dI t.2.2.1, dI t.2.2.2.1, dI t.2.2.2.2.1, dI t.2.2.2.2.2.1, dI t.2.2.2.2.2.2.1, dI t.2.2.2.2.2.2.2.1, dI t.2.2.2.2.2.2.2.2]] (by kernel_rfl) (by kernel_rfl) (by kernel_rfl) (by kernel_rfl)) h

def F_impl_countEnds : Fun := fun avs H =>
  match avs, H with
  | [.dat (.list (.pair (.int .i64) (.pair (.int .i64) .unit))) x1661], [] => ⟨_, impl_countEnds x1661, fun (t : Int × Int × Int × Int × Int × Int × Int × Int × Int) => (.agg [dI t.1, dI t.2.1, dI t.2.2.1, dI t.2.2.2.1, dI t.2.2.2.2.1, dI t.2.2.2.2.2.1, dI t.2.2.2.2.2.2.1, dI t.2.2.2.2.2.2.2.1, dI t.2.2.2.2.2.2.2.2], [some (sI ([t.1, t.2.1, t.2.2.1, t.2.2.2.1, t.2.2.2.2.1, t.2.2.2.2.2.1, t.2.2.2.2.2.2.1, t.2.2.2.2.2.2.2.1, t.2.2.2.2.2.2.2.2]))]), [], none⟩
  | _, _ => Ans.no

theorem impl_countEnds_sound : Sound Try.prog 39 F_impl_countEnds := by
  refine fn_sound' (C := impl_countEnds_ctx) (c := bodyOf Try.f39) (cok_of tys_ok (alln) (alln) (by kernel_rfl)) Try.func39 (by kernel_rfl) LL impl_countEnds_an ?_
  intro avs H r H' h
  unfold F_impl_countEnds at h
  split at h
  · refine Awp.cast ?_ ?_ ?_ (impl_countEnds_e _ h) <;> kernel_rfl
  · simp [Ans.no, Ans.run] at h


/-! loop.example/headtrees/spec.EndsOf -/

def spec_EndsOf_an : Ann := (.seq (.leaf [0]) (.seq (.leaf [0, 3]) (.seq (.seq (.leaf [0, 3, 4]) (.block (.loop (.seq (.seq (.leaf [0, 3, 4, 15]) (.cond (.leaf [0, 3, 4]) (.leaf [3]))) (.seq (.block (.seq (.leaf [0, 3, 4, 5]) (.seq (.seq (.leaf [0, 3, 4, 5, 22]) (.cond (.leaf [0, 3, 4, 5]) (.leaf [0, 3, 4, 5]))) (.seq (.seq (.leaf [0, 3, 4, 5, 6]) (.block (.loop (.seq (.seq (.leaf [0, 3, 4, 5, 6, 26]) (.cond (.leaf [0, 3, 4, 5, 6]) (.leaf [0, 3, 4, 5]))) (.seq (.block (.seq (.leaf [0, 3, 4, 5, 6, 35]) (.cond (.leaf [0, 3, 4, 5, 6]) (.leaf [0, 3, 4, 5, 6])))) (.leaf [0, 3, 4, 5, 6])))))) (.leaf [0, 3, 4]))))) (.leaf [0, 3, 4])))))) (.seq (.leaf [2]) (.leaf [2])))))

noncomputable def spec_EndsOf_ctx : Ctx := ⟨tlook tys, olook [(42, F_spec_TreeOk)], ioF, 0, false, []⟩

theorem spec_EndsOf_n1_l (x1883 : List Int) : Link spec_EndsOf_ctx LL (Code.seq (cq [0] (bodyOf Try.f15)) (cq [0,1] (bodyOf Try.f15))) (Ann.seq (aq [0] spec_EndsOf_an) (aq [0,1] spec_EndsOf_an)) ⟨mkE 43 0 [(0, dL x1883)], []⟩ (spec_EndsOf_n1) (fun (t : Unit) => (Exit.normal, ⟨mkE 43 0 [(0, dL x1883), (3, .slc 0)], [some (sI ([] : List Int))]⟩)) := .of fun K h => by
  simp only [spec_EndsOf_n1, wpW] at h
  exact .of (by kernel_rfl) h

theorem spec_EndsOf_n2_l (x1883 : List Int) : Link spec_EndsOf_ctx LL (cq [0,0,1,1] (bodyOf Try.f15)) (aq [0,0,1,1] spec_EndsOf_an) ⟨mkE 43 0 [(0, dL x1883), (3, .slc 0)], [some (sI ([] : List Int))]⟩ (spec_EndsOf_n2) (fun (t : Unit) => (Exit.normal, ⟨mkE 43 0 [(0, dL x1883), (3, .slc 0), (4, dI 0)], [some (sI ([] : List Int))]⟩)) := .of fun K h => by
  simp only [spec_EndsOf_n2, wpW] at h
  exact .of (by kernel_rfl) h

theorem spec_EndsOf_n3_l (x1883 : List Int) (x1933 : Int) (x1934 : List Int) : Link spec_EndsOf_ctx LL (cq [0,0,0,1,0,1,1] (bodyOf Try.f15)) (aq [0,0,0,1,0,1,1] spec_EndsOf_an) ⟨mkE 43 0 [(0, dL x1883), (3, .slc 0), (4, dI x1933)], [some (sI x1934)]⟩ (spec_EndsOf_n3 x1883 x1933 x1934) (Sum.elim (fun (t : Unit) => (Exit.normal, ⟨mkE 43 0 [(0, dL x1883), (3, .slc 0), (4, dI x1933)], [some (sI x1934)]⟩)) (fun (t : (List Int)) => ((Exit.exit 0), ⟨mkE 43 0 [(3, .slc 0)], [some (sI t)]⟩))) := .of fun K h => by
  simp only [spec_EndsOf_n3, wpW] at h
  exact .of (by kernel_rfl) h

theorem spec_EndsOf_n4_l (x1883 : List Int) (x1933 : Int) (x1934 : List Int) : Link spec_EndsOf_ctx LL (Code.seq (cq [0,0,0,1,0,0,1,0,1,1] (bodyOf Try.f15)) (cq [0,1,0,0,1,0,0,1,0,1,1] (bodyOf Try.f15))) (Ann.seq (aq [0,0,0,1,0,0,1,0,1,1] spec_EndsOf_an) (aq [0,1,0,0,1,0,0,1,0,1,1] spec_EndsOf_an)) ⟨mkE 43 0 [(0, dL x1883), (3, .slc 0), (4, dI x1933)], [some (sI x1934)]⟩ (spec_EndsOf_n4 x1883 x1933) (fun (t : Int) => (Exit.normal, ⟨mkE 43 0 [(0, dL x1883), (3, .slc 0), (4, dI x1933), (5, dI t)], [some (sI x1934)]⟩)) := .of fun K h => by
  simp only [spec_EndsOf_n4, wpW] at h
  exact .of (by kernel_rfl) h

theorem spec_EndsOf_n5_l (x1883 : List Int) (x1933 : Int) (x1940 : Int) (x1934 : List Int) : Link spec_EndsOf_ctx LL (cq [0,0,1,1,0,0,1,0,0,1,0,1,1] (bodyOf Try.f15)) (aq [0,0,1,1,0,0,1,0,0,1,0,1,1] spec_EndsOf_an) ⟨mkE 43 0 [(0, dL x1883), (3, .slc 0), (4, dI x1933), (5, dI x1940)], [some (sI x1934)]⟩ (spec_EndsOf_n5) (fun (t : Unit) => (Exit.normal, ⟨mkE 43 0 [(0, dL x1883), (3, .slc 0), (4, dI x1933), (5, dI x1940), (6, dI 0)], [some (sI x1934)]⟩)) := .of fun K h => by
  simp only [spec_EndsOf_n5, wpW] at h
  exact .of (by kernel_rfl) h

theorem spec_EndsOf_n6_l (x1883 : List Int) (x1933 : Int) (x1959 : Int) (x1960 : Int) (x1934 : List Int) : Link spec_EndsOf_ctx LL (cq [0,0,1,0,1,1,0,0,1,0,0,1,0,1,1] (bodyOf Try.f15)) (aq [0,0,1,0,1,1,0,0,1,0,0,1,0,1,1] spec_EndsOf_an) ⟨mkE 43 0 [(0, dL x1883), (3, .slc 0), (4, dI x1933), (5, dI x1959), (6, dI x1960)], [some (sI x1934)]⟩ (spec_EndsOf_n6 x1883 x1933 x1959 x1960) (Sum.elim (fun (t : Int × Int) => (Exit.normal, ⟨mkE 43 0 [(0, dL x1883), (3, .slc 0), (4, dI x1933), (5, dI t.1), (6, dI t.2)], [some (sI x1934)]⟩)) (fun (t : Int) => ((Exit.exit 2), ⟨mkE 43 0 [(0, dL x1883), (3, .slc 0), (4, dI x1933), (5, dI t)], [some (sI x1934)]⟩))) := .of fun K h => by
  simp only [spec_EndsOf_n6, wpW] at h
  exact .of (by kernel_rfl) h

def spec_EndsOf_n7_l (x1883 : List Int) (x1933 : Int) (x1940 : Int) (x1934 : List Int) := (link_loop (mk := fun (s : Int × Int) => ⟨mkE 43 0 [(0, dL x1883), (3, .slc 0), (4, dI x1933), (5, dI s.1), (6, dI s.2)], [some (sI x1934)]⟩) (fin := (fun (t : Int) => ((Exit.exit 2), ⟨mkE 43 0 [(0, dL x1883), (3, .slc 0), (4, dI x1933), (5, dI t)], [some (sI x1934)]⟩))) (by
  rintro t f K h
  · exact h) (fun s => link_map (spec_EndsOf_n6_l x1883 x1933 s.1 s.2 x1934) (Sum.elim (fun (t : Int × Int) => Sum.inl (t.1, t.2)) (fun (t : Int) => Sum.inr t)) (by
  rintro (t | t)
  · kernel_rfl
  · kernel_rfl)) (x1940, 0))

def spec_EndsOf_n8_l (x1883 : List Int) (x1933 : Int) (x1940 : Int) (x1934 : List Int) := (link_block (fin2 := (fun (t : Int) => (Exit.normal, ⟨mkE 43 0 [(0, dL x1883), (3, .slc 0), (4, dI x1933), (5, dI t)], [some (sI x1934)]⟩))) (id := 2) (spec_EndsOf_n7_l x1883 x1933 x1940 x1934) (fun (t : Int) => t) (by
  rintro t K h
  · exact Eq.mp (by kernel_rfl) h))

def spec_EndsOf_n9_l (x1883 : List Int) (x1933 : Int) (x1940 : Int) (x1934 : List Int) := (link_seq (spec_EndsOf_n5_l x1883 x1933 x1940 x1934) (fun (t : Unit) => (spec_EndsOf_n8_l x1883 x1933 x1940 x1934)))

theorem spec_EndsOf_n10_l (x1883 : List Int) (x1933 : Int) (x1959 : Int) (x1934 : List Int) : Link spec_EndsOf_ctx LL (cq [1,1,1,0,0,1,0,0,1,0,1,1] (bodyOf Try.f15)) (aq [1,1,1,0,0,1,0,0,1,0,1,1] spec_EndsOf_an) ⟨mkE 43 0 [(0, dL x1883), (3, .slc 0), (4, dI x1933), (5, dI x1959)], [some (sI x1934)]⟩ (spec_EndsOf_n10 x1959 x1934) (fun (t : (List Int)) => (Exit.normal, ⟨mkE 43 0 [(0, dL x1883), (3, .slc 0), (4, dI x1933)], [some (sI t)]⟩)) := .of fun K h => by
  simp only [spec_EndsOf_n10, wpW] at h
  exact .of (by kernel_rfl) h

def spec_EndsOf_n11_l (x1883 : List Int) (x1933 : Int) (x1940 : Int) (x1934 : List Int) := (link_seq (spec_EndsOf_n9_l x1883 x1933 x1940 x1934) (fun (t : Int) => (spec_EndsOf_n10_l x1883 x1933 t x1934)))

def spec_EndsOf_n12_l (x1883 : List Int) (x1933 : Int) (x1934 : List Int) := (link_group (c := (cq [0,1,0,0,1,0,0,1,0,1,1] (bodyOf Try.f15))) (a := (aq [0,1,0,0,1,0,0,1,0,1,1] spec_EndsOf_an)) [(cq [0,0,0,1,0,0,1,0,1,1] (bodyOf Try.f15))] [(aq [0,0,0,1,0,0,1,0,1,1] spec_EndsOf_an)] rfl (link_seq (spec_EndsOf_n4_l x1883 x1933 x1934) (fun (t : Int) => (spec_EndsOf_n11_l x1883 x1933 t x1934))))

def spec_EndsOf_n13_l (x1883 : List Int) (x1933 : Int) (x1934 : List Int) := (link_block (fin2 := (fun (t : (List Int)) => (Exit.normal, ⟨mkE 43 0 [(0, dL x1883), (3, .slc 0), (4, dI x1933)], [some (sI t)]⟩))) (id := 1) (spec_EndsOf_n12_l x1883 x1933 x1934) (fun (t : (List Int)) => t) (by
  rintro t K h
  · exact Eq.mp (by kernel_rfl) h))

theorem spec_EndsOf_n14_l (x1883 : List Int) (x1933 : Int) (x1982 : List Int) : Link spec_EndsOf_ctx LL (cq [1,1,0,0,1,0,1,1] (bodyOf Try.f15)) (aq [1,1,0,0,1,0,1,1] spec_EndsOf_an) ⟨mkE 43 0 [(0, dL x1883), (3, .slc 0), (4, dI x1933)], [some (sI x1982)]⟩ (spec_EndsOf_n14 x1933) (fun (t : Int) => (Exit.normal, ⟨mkE 43 0 [(0, dL x1883), (3, .slc 0), (4, dI t)], [some (sI x1982)]⟩)) := .of fun K h => by
  simp only [spec_EndsOf_n14, wpW] at h
  exact .of (by kernel_rfl) h

def spec_EndsOf_n15_l (x1883 : List Int) (x1933 : Int) (x1934 : List Int) := (link_seq (spec_EndsOf_n13_l x1883 x1933 x1934) (fun (t : (List Int)) => (link_map (fin2 := (fun (t : Int × (List Int)) => (Exit.normal, ⟨mkE 43 0 [(0, dL x1883), (3, .slc 0), (4, dI t.1)], [some (sI t.2)]⟩))) (spec_EndsOf_n14_l x1883 x1933 t) (fun (u : Int) => (u, t)) (by
  rintro t
  · kernel_rfl))))

def spec_EndsOf_n16_l (x1883 : List Int) (x1933 : Int) (x1934 : List Int) := (link_seq2 (spec_EndsOf_n3_l x1883 x1933 x1934) (fun (t : Unit) => (link_map (fin2 := (Sum.elim (fun (t : Int × (List Int)) => (Exit.normal, ⟨mkE 43 0 [(0, dL x1883), (3, .slc 0), (4, dI t.1)], [some (sI t.2)]⟩)) (fun (t : (List Int)) => ((Exit.exit 0), ⟨mkE 43 0 [(3, .slc 0)], [some (sI t)]⟩)))) (spec_EndsOf_n15_l x1883 x1933 x1934) (fun (t : Int × (List Int)) => (Sum.inl (t.1, t.2))) (by
  rintro t
  · kernel_rfl))) (fun (t : (List Int)) => (Sum.inr t)) (by
  rintro t
  · kernel_rfl) (by
  rintro t f K h
  · exact h))

def spec_EndsOf_n17_l (x1883 : List Int) := (link_loop (mk := fun (s : Int × (List Int)) => ⟨mkE 43 0 [(0, dL x1883), (3, .slc 0), (4, dI s.1)], [some (sI s.2)]⟩) (fin := (fun (t : (List Int)) => ((Exit.exit 0), ⟨mkE 43 0 [(3, .slc 0)], [some (sI t)]⟩))) (by
  rintro t f K h
  · exact h) (fun s => link_map (spec_EndsOf_n16_l x1883 s.1 s.2) (Sum.elim (fun (t : Int × (List Int)) => Sum.inl (t.1, t.2)) (fun (t : (List Int)) => Sum.inr t)) (by
  rintro (t | t)
  · kernel_rfl
  · kernel_rfl)) (0, ([] : List Int)))

def spec_EndsOf_n18_l (x1883 : List Int) := (link_block (fin2 := (fun (t : (List Int)) => (Exit.normal, ⟨mkE 43 0 [(3, .slc 0)], [some (sI t)]⟩))) (id := 0) (spec_EndsOf_n17_l x1883) (fun (t : (List Int)) => t) (by
  rintro t K h
  · exact Eq.mp (by kernel_rfl) h))

def spec_EndsOf_n19_l (x1883 : List Int) := (link_seq (spec_EndsOf_n2_l x1883) (fun (t : Unit) => (spec_EndsOf_n18_l x1883)))

theorem spec_EndsOf_n20_l (x1934 : List Int) : Link spec_EndsOf_ctx LL (cq [1,1,1] (bodyOf Try.f15)) (aq [1,1,1] spec_EndsOf_an) ⟨mkE 43 0 [(3, .slc 0)], [some (sI x1934)]⟩ (spec_EndsOf_n20 x1934) (fun (t : (List Int)) => (Exit.ret, ⟨mkE 43 0 [(2, .slc 0)], [some (sI t)]⟩)) := .of fun K h => by
  simp only [spec_EndsOf_n20, wpW] at h
  exact .of (by kernel_rfl) h

def spec_EndsOf_n21_l (x1883 : List Int) := (link_seq (spec_EndsOf_n19_l x1883) (fun (t : (List Int)) => (spec_EndsOf_n20_l t)))

def spec_EndsOf_n22_l (x1883 : List Int) := (link_group (c := (cq [0,1] (bodyOf Try.f15))) (a := (aq [0,1] spec_EndsOf_an)) [(cq [0] (bodyOf Try.f15))] [(aq [0] spec_EndsOf_an)] rfl (link_seq (spec_EndsOf_n1_l x1883) (fun (t : Unit) => (spec_EndsOf_n21_l x1883))))

theorem spec_EndsOf_e (x1883 : List Int) {r : AV} {H' : Heap} (h : (Ans.mk _ (spec_EndsOf x1883) (fun (t : (List Int)) => (.slc 0, [some (sI t)])) [] none).run = some (r, H')) : Awp spec_EndsOf_ctx LL (bodyOf Try.f15) spec_EndsOf_an ⟨mkE 43 0 [(0, dL x1883)], []⟩ (Ret (tlook tys) Try.f15.results.toList r H') :=
  ret_of' (Link.cast (by kernel_rfl) (by kernel_rfl) (spec_EndsOf_n22_l x1883)) (by unfold spec_EndsOf; kernel_rfl) (by
  intro t
  exact ret_mk [.slc 0] (by kernel_rfl) (by kernel_rfl) (by kernel_rfl) (by kernel_rfl)) h

def F_spec_EndsOf : Fun := fun avs H =>
  match avs, H with
  | [.dat (.list (.int .i64)) x1883], [] => ⟨_, spec_EndsOf x1883, fun (t : (List Int)) => (.slc 0, [some (sI t)]), [], none⟩
  | _, _ => Ans.no

theorem spec_EndsOf_sound : Sound Try.prog 15 F_spec_EndsOf := by
  refine fn_sound' (C := spec_EndsOf_ctx) (c := bodyOf Try.f15) (cok_of tys_ok (allc spec_TreeOk_sound alln) (allc Try.call42 alln) (by kernel_rfl)) Try.func15 (by kernel_rfl) LL spec_EndsOf_an ?_
  intro avs H r H' h
  unfold F_spec_EndsOf at h
  split at h
  · refine Awp.cast ?_ ?_ ?_ (spec_EndsOf_e _ h) <;> kernel_rfl
  · simp [Ans.no, Ans.run] at h


/-! loop.example/headtrees/laws.alive -/

def laws_alive_an : Ann := (.seq (.leaf []) (.seq (.leaf [0]) (.leaf [0])))

noncomputable def laws_alive_ctx : Ctx := ⟨tlook tys, olook [(16, F_impl_TreeOk)], ioF, 0, false, []⟩

theorem laws_alive_n1_l : Link laws_alive_ctx LL (bodyOf Try.f17) laws_alive_an ⟨mkE 8 0 [], []⟩ (laws_alive_n1) (fun (t : Bool) => (Exit.ret, ⟨mkE 8 0 [(0, dB t)], []⟩)) := .of fun K h => by
  simp only [laws_alive_n1, wpW] at h
  exact .of (by kernel_rfl) h

theorem laws_alive_e {r : AV} {H' : Heap} (h : (Ans.mk _ (laws_alive) (fun (t : Bool) => (dB t, [])) [] none).run = some (r, H')) : Awp laws_alive_ctx LL (bodyOf Try.f17) laws_alive_an ⟨mkE 8 0 [], []⟩ (Ret (tlook tys) Try.f17.results.toList r H') :=
  ret_of' (laws_alive_n1_l) (by unfold laws_alive; kernel_rfl) (by
  intro t
  exact ret_mk [dB t] (by kernel_rfl) (by kernel_rfl) (by kernel_rfl) (by kernel_rfl)) h

def F_laws_alive : Fun := fun avs H =>
  match avs, H with
  | [], [] => ⟨_, laws_alive, fun (t : Bool) => (dB t, []), [], none⟩
  | _, _ => Ans.no

theorem laws_alive_sound : Sound Try.prog 17 F_laws_alive := by
  refine fn_sound' (C := laws_alive_ctx) (c := bodyOf Try.f17) (cok_of tys_ok (allc impl_TreeOk_sound alln) (allc Try.call16 alln) (by kernel_rfl)) Try.func17 (by kernel_rfl) LL laws_alive_an ?_
  intro avs H r H' h
  unfold F_laws_alive at h
  split at h
  · refine Awp.cast ?_ ?_ ?_ (laws_alive_e h) <;> kernel_rfl
  · simp [Ans.no, Ans.run] at h


/-! loop.example/headtrees/impl.lastToFirst -/

def impl_lastToFirst_an : Ann := (.seq (.leaf [0]) (.seq (.leaf [0, 3]) (.seq (.seq (.leaf [0, 3, 8, 9]) (.block (.loop (.seq (.leaf [0, 3, 8, 9, 10]) (.seq (.cond (.leaf [0, 3, 8, 9]) (.leaf [3])) (.seq (.block (.seq (.leaf [0, 3, 4, 8, 9]) (.leaf [0, 3, 8, 9]))) (.leaf [0, 3, 8, 9]))))))) (.seq (.leaf [2]) (.leaf [2])))))

noncomputable def impl_lastToFirst_ctx : Ctx := ⟨tlook tys, olook [], ioF, 0, false, []⟩

theorem impl_lastToFirst_n1_l (x2061 : Int) : Link impl_lastToFirst_ctx LL (Code.seq (cq [0] (bodyOf Try.f45)) (cq [0,1] (bodyOf Try.f45))) (Ann.seq (aq [0] impl_lastToFirst_an) (aq [0,1] impl_lastToFirst_an)) ⟨mkE 20 0 [(0, dI x2061)], []⟩ (impl_lastToFirst_n1 x2061) (fun (t : (List Int)) => (Exit.normal, ⟨mkE 20 0 [(0, dI x2061), (3, .slc 0)], [some (sI t)]⟩)) := .of fun K h => by
  simp only [impl_lastToFirst_n1, wpW] at h
  exact .of (by kernel_rfl) h

theorem impl_lastToFirst_n2_l (x2061 : Int) (x2063 : List Int) : Link impl_lastToFirst_ctx LL (cq [0,0,1,1] (bodyOf Try.f45)) (aq [0,0,1,1] impl_lastToFirst_an) ⟨mkE 20 0 [(0, dI x2061), (3, .slc 0)], [some (sI x2063)]⟩ (impl_lastToFirst_n2 x2063) (fun (t : Int) => (Exit.normal, ⟨mkE 20 0 [(0, dI x2061), (3, .slc 0), (8, dI t), (9, dI 0)], [some (sI x2063)]⟩)) := .of fun K h => by
  simp only [impl_lastToFirst_n2, wpW] at h
  exact .of (by kernel_rfl) h

theorem impl_lastToFirst_n3_l (x2061 : Int) (x2064 : Int) (x2076 : Int) (x2077 : List Int) : Link impl_lastToFirst_ctx LL (cq [0,0,1,0,1,1] (bodyOf Try.f45)) (aq [0,0,1,0,1,1] impl_lastToFirst_an) ⟨mkE 20 0 [(0, dI x2061), (3, .slc 0), (8, dI x2064), (9, dI x2076)], [some (sI x2077)]⟩ (impl_lastToFirst_n3 x2061 x2064 x2076 x2077) (Sum.elim (fun (t : Int × (List Int)) => (Exit.normal, ⟨mkE 20 0 [(0, dI x2061), (3, .slc 0), (8, dI x2064), (9, dI t.1)], [some (sI t.2)]⟩)) (fun (t : (List Int)) => ((Exit.exit 0), ⟨mkE 20 0 [(3, .slc 0)], [some (sI t)]⟩))) := .of fun K h => by
  simp only [impl_lastToFirst_n3, wpW] at h
  exact .of (by kernel_rfl) h

def impl_lastToFirst_n4_l (x2061 : Int) (x2064 : Int) (x2063 : List Int) := (link_loop (mk := fun (s : Int × (List Int)) => ⟨mkE 20 0 [(0, dI x2061), (3, .slc 0), (8, dI x2064), (9, dI s.1)], [some (sI s.2)]⟩) (fin := (fun (t : (List Int)) => ((Exit.exit 0), ⟨mkE 20 0 [(3, .slc 0)], [some (sI t)]⟩))) (by
  rintro t f K h
  · exact h) (fun s => link_map (impl_lastToFirst_n3_l x2061 x2064 s.1 s.2) (Sum.elim (fun (t : Int × (List Int)) => Sum.inl (t.1, t.2)) (fun (t : (List Int)) => Sum.inr t)) (by
  rintro (t | t)
  · kernel_rfl
  · kernel_rfl)) (0, x2063))

def impl_lastToFirst_n5_l (x2061 : Int) (x2064 : Int) (x2063 : List Int) := (link_block (fin2 := (fun (t : (List Int)) => (Exit.normal, ⟨mkE 20 0 [(3, .slc 0)], [some (sI t)]⟩))) (id := 0) (impl_lastToFirst_n4_l x2061 x2064 x2063) (fun (t : (List Int)) => t) (by
  rintro t K h
  · exact Eq.mp (by kernel_rfl) h))

def impl_lastToFirst_n6_l (x2061 : Int) (x2063 : List Int) := (link_seq (impl_lastToFirst_n2_l x2061 x2063) (fun (t : Int) => (impl_lastToFirst_n5_l x2061 t x2063)))

theorem impl_lastToFirst_n7_l (x2077 : List Int) : Link impl_lastToFirst_ctx LL (cq [1,1,1] (bodyOf Try.f45)) (aq [1,1,1] impl_lastToFirst_an) ⟨mkE 20 0 [(3, .slc 0)], [some (sI x2077)]⟩ (impl_lastToFirst_n7 x2077) (fun (t : (List Int)) => (Exit.ret, ⟨mkE 20 0 [(2, .slc 0)], [some (sI t)]⟩)) := .of fun K h => by
  simp only [impl_lastToFirst_n7, wpW] at h
  exact .of (by kernel_rfl) h

def impl_lastToFirst_n8_l (x2061 : Int) (x2063 : List Int) := (link_seq (impl_lastToFirst_n6_l x2061 x2063) (fun (t : (List Int)) => (impl_lastToFirst_n7_l t)))

def impl_lastToFirst_n9_l (x2061 : Int) := (link_group (c := (cq [0,1] (bodyOf Try.f45))) (a := (aq [0,1] impl_lastToFirst_an)) [(cq [0] (bodyOf Try.f45))] [(aq [0] impl_lastToFirst_an)] rfl (link_seq (impl_lastToFirst_n1_l x2061) (fun (t : (List Int)) => (impl_lastToFirst_n8_l x2061 t))))

theorem impl_lastToFirst_e (x2061 : Int) {r : AV} {H' : Heap} (h : (Ans.mk _ (impl_lastToFirst x2061) (fun (t : (List Int)) => (.slc 0, [some (sI t)])) [] none).run = some (r, H')) : Awp impl_lastToFirst_ctx LL (bodyOf Try.f45) impl_lastToFirst_an ⟨mkE 20 0 [(0, dI x2061)], []⟩ (Ret (tlook tys) Try.f45.results.toList r H') :=
  ret_of' (Link.cast (by kernel_rfl) (by kernel_rfl) (impl_lastToFirst_n9_l x2061)) (by unfold impl_lastToFirst; kernel_rfl) (by
  intro t
  exact ret_mk [.slc 0] (by kernel_rfl) (by kernel_rfl) (by kernel_rfl) (by kernel_rfl)) h

def F_impl_lastToFirst : Fun := fun avs H =>
  match avs, H with
  | [.dat (.int .i64) x2061], [] => ⟨_, impl_lastToFirst x2061, fun (t : (List Int)) => (.slc 0, [some (sI t)]), [], none⟩
  | _, _ => Ans.no

theorem impl_lastToFirst_sound : Sound Try.prog 45 F_impl_lastToFirst := by
  refine fn_sound' (C := impl_lastToFirst_ctx) (c := bodyOf Try.f45) (cok_of tys_ok (alln) (alln) (by kernel_rfl)) Try.func45 (by kernel_rfl) LL impl_lastToFirst_an ?_
  intro avs H r H' h
  unfold F_impl_lastToFirst at h
  split at h
  · refine Awp.cast ?_ ?_ ?_ (impl_lastToFirst_e _ h) <;> kernel_rfl
  · simp [Ans.no, Ans.run] at h


/-! loop.example/headtrees/impl.OrderOk -/

def impl_OrderOk_an : Ann := (.seq (.leaf [0, 1]) (.seq (.seq (.leaf [0, 1, 19]) (.cond (.seq (.leaf [4]) (.leaf [4])) (.leaf [0, 1]))) (.seq (.leaf [0, 1, 5]) (.seq (.seq (.leaf [1, 5, 20, 21, 22]) (.block (.loop (.seq (.leaf [1, 5, 20, 21, 22, 23]) (.seq (.cond (.leaf [1, 5, 20, 21, 22]) (.leaf [])) (.seq (.block (.seq (.leaf [1, 5, 7, 20, 21, 22]) (.seq (.seq (.leaf [1, 5, 7, 20, 21, 22, 37]) (.cond (.seq (.leaf [4]) (.leaf [4])) (.leaf [1, 5, 7, 20, 21, 22]))) (.leaf [1, 5, 20, 21, 22])))) (.leaf [1, 5, 20, 21, 22]))))))) (.seq (.leaf [4]) (.leaf [4]))))))

noncomputable def impl_OrderOk_ctx : Ctx := ⟨tlook tys, olook [], ioF, 0, false, []⟩

theorem impl_OrderOk_n1_l (x2095 : List Int) (x2096 : Int) : Link impl_OrderOk_ctx LL (Code.seq (cq [0] (bodyOf Try.f51)) (Code.seq (cq [0,1] (bodyOf Try.f51)) (cq [0,1,1] (bodyOf Try.f51)))) (Ann.seq (aq [0] impl_OrderOk_an) (Ann.seq (aq [0,1] impl_OrderOk_an) (aq [0,1,1] impl_OrderOk_an))) ⟨mkE 41 0 [(0, dL x2095), (1, dI x2096)], []⟩ (impl_OrderOk_n1 x2095 x2096) (Sum.elim (fun (t : Unit) => (Exit.normal, ⟨mkE 41 0 [(0, dL x2095), (1, dI x2096), (5, .ptr 0 0)], [some (.seq .bool (List.replicate 9 false))]⟩)) (fun (t : Bool) => (Exit.ret, ⟨mkE 41 0 [(4, dB t)], []⟩))) := .of fun K h => by
  simp only [impl_OrderOk_n1, wpW] at h
  exact .of (by kernel_rfl) h

theorem impl_OrderOk_n2_l (x2095 : List Int) (x2096 : Int) : Link impl_OrderOk_ctx LL (cq [0,0,1,1,1] (bodyOf Try.f51)) (aq [0,0,1,1,1] impl_OrderOk_an) ⟨mkE 41 0 [(0, dL x2095), (1, dI x2096), (5, .ptr 0 0)], [some (.seq .bool (List.replicate 9 false))]⟩ (impl_OrderOk_n2 x2095) (fun (t : Int) => (Exit.normal, ⟨mkE 41 0 [(1, dI x2096), (5, .ptr 0 0), (20, dL x2095), (21, dI t), (22, dI 0)], [some (.seq .bool (List.replicate 9 false))]⟩)) := .of fun K h => by
  simp only [impl_OrderOk_n2, wpW] at h
  exact .of (by kernel_rfl) h

theorem impl_OrderOk_n3_l (x2096 : Int) (x2095 : List Int) (x2106 : Int) (x2130 : Int) (x2131 : List Bool) : Link impl_OrderOk_ctx LL (cq [0,0,1,0,1,1,1] (bodyOf Try.f51)) (aq [0,0,1,0,1,1,1] impl_OrderOk_an) ⟨mkE 41 0 [(1, dI x2096), (5, .ptr 0 0), (20, dL x2095), (21, dI x2106), (22, dI x2130)], [some (.seq .bool x2131)]⟩ (impl_OrderOk_n3 x2096 x2095 x2106 x2130 x2131) (Sum.elim (fun (t : Int × (List Bool)) => (Exit.normal, ⟨mkE 41 0 [(1, dI x2096), (5, .ptr 0 0), (20, dL x2095), (21, dI x2106), (22, dI t.1)], [some (.seq .bool t.2)]⟩)) (Sum.elim (fun (t : Bool) => (Exit.ret, ⟨mkE 41 0 [(4, dB t)], []⟩)) (fun (t : Unit) => ((Exit.exit 0), ⟨mkE 41 0 [], []⟩)))) := .of fun K h => by
  simp only [impl_OrderOk_n3, wpW] at h
  exact .of (by kernel_rfl) h

def impl_OrderOk_n4_l (x2096 : Int) (x2095 : List Int) (x2106 : Int) := (link_loop (mk := fun (s : Int × (List Bool)) => ⟨mkE 41 0 [(1, dI x2096), (5, .ptr 0 0), (20, dL x2095), (21, dI x2106), (22, dI s.1)], [some (.seq .bool s.2)]⟩) (fin := (Sum.elim (fun (t : Bool) => (Exit.ret, ⟨mkE 41 0 [(4, dB t)], []⟩)) (fun (t : Unit) => ((Exit.exit 0), ⟨mkE 41 0 [], []⟩)))) (by
  rintro (t | t) f K h
  · exact h
  · exact h) (fun s => link_map (impl_OrderOk_n3_l x2096 x2095 x2106 s.1 s.2) (Sum.elim (fun (t : Int × (List Bool)) => Sum.inl (t.1, t.2)) (Sum.elim (fun (t : Bool) => Sum.inr (Sum.inl t)) (fun (t : Unit) => Sum.inr (Sum.inr t)))) (by
  rintro (t | t | t)
  · kernel_rfl
  · kernel_rfl
  · kernel_rfl)) (0, (List.replicate 9 false)))

def impl_OrderOk_n5_l (x2096 : Int) (x2095 : List Int) (x2106 : Int) := (link_block (fin2 := (Sum.elim (fun (t : Unit) => (Exit.normal, ⟨mkE 41 0 [], []⟩)) (fun (t : Bool) => (Exit.ret, ⟨mkE 41 0 [(4, dB t)], []⟩)))) (id := 0) (impl_OrderOk_n4_l x2096 x2095 x2106) (Sum.elim (fun (t : Bool) => (Sum.inr t)) (fun (t : Unit) => (Sum.inl ()))) (by
  rintro (t | t) K h
  · exact Eq.mp (by kernel_rfl) h
  · exact Eq.mp (by kernel_rfl) h))

def impl_OrderOk_n6_l (x2095 : List Int) (x2096 : Int) := (link_seq (impl_OrderOk_n2_l x2095 x2096) (fun (t : Int) => (impl_OrderOk_n5_l x2096 x2095 t)))

theorem impl_OrderOk_n7_l : Link impl_OrderOk_ctx LL (cq [1,1,1,1] (bodyOf Try.f51)) (aq [1,1,1,1] impl_OrderOk_an) ⟨mkE 41 0 [], []⟩ (impl_OrderOk_n7) (fun (t : Bool) => (Exit.ret, ⟨mkE 41 0 [(4, dB t)], []⟩)) := .of fun K h => by
  simp only [impl_OrderOk_n7, wpW] at h
  exact .of (by kernel_rfl) h

def impl_OrderOk_n8_l (x2095 : List Int) (x2096 : Int) := (link_seq2 (impl_OrderOk_n6_l x2095 x2096) (fun (t : Unit) => (impl_OrderOk_n7_l)) (fun (t : Bool) => t) (by
  rintro t
  · kernel_rfl) (by
  rintro t f K h
  · exact h))

def impl_OrderOk_n9_l (x2095 : List Int) (x2096 : Int) := (link_group (c := (cq [0,1,1] (bodyOf Try.f51))) (a := (aq [0,1,1] impl_OrderOk_an)) [(cq [0] (bodyOf Try.f51)), (cq [0,1] (bodyOf Try.f51))] [(aq [0] impl_OrderOk_an), (aq [0,1] impl_OrderOk_an)] rfl (link_seq2 (impl_OrderOk_n1_l x2095 x2096) (fun (t : Unit) => (impl_OrderOk_n8_l x2095 x2096)) (fun (t : Bool) => t) (by
  rintro t
  · kernel_rfl) (by
  rintro t f K h
  · exact h)))

theorem impl_OrderOk_e (x2095 : List Int) (x2096 : Int) {r : AV} {H' : Heap} (h : (Ans.mk _ (impl_OrderOk x2095 x2096) (fun (t : Bool) => (dB t, [])) [] none).run = some (r, H')) : Awp impl_OrderOk_ctx LL (bodyOf Try.f51) impl_OrderOk_an ⟨mkE 41 0 [(0, dL x2095), (1, dI x2096)], []⟩ (Ret (tlook tys) Try.f51.results.toList r H') :=
  ret_of' (Link.cast (by kernel_rfl) (by kernel_rfl) (impl_OrderOk_n9_l x2095 x2096)) (by unfold impl_OrderOk; kernel_rfl) (by
  intro t
  exact ret_mk [dB t] (by kernel_rfl) (by kernel_rfl) (by kernel_rfl) (by kernel_rfl)) h

def F_impl_OrderOk : Fun := fun avs H =>
  match avs, H with
  | [.dat (.list (.int .i64)) x2095, .dat (.int .i64) x2096], [] => ⟨_, impl_OrderOk x2095 x2096, fun (t : Bool) => (dB t, []), [], none⟩
  | _, _ => Ans.no

theorem impl_OrderOk_sound : Sound Try.prog 51 F_impl_OrderOk := by
  refine fn_sound' (C := impl_OrderOk_ctx) (c := bodyOf Try.f51) (cok_of tys_ok (alln) (alln) (by kernel_rfl)) Try.func51 (by kernel_rfl) LL impl_OrderOk_an ?_
  intro avs H r H' h
  unfold F_impl_OrderOk at h
  split at h
  · refine Awp.cast ?_ ?_ ?_ (impl_OrderOk_e _ _ h) <;> kernel_rfl
  · simp [Ans.no, Ans.run] at h


/-! loop.example/headtrees/impl.placesIn -/

def impl_placesIn_an : Ann := (.seq (.leaf [0]) (.seq (.leaf [0, 3]) (.seq (.seq (.leaf [3, 10, 11, 12]) (.block (.loop (.seq (.leaf [3, 10, 11, 12, 13]) (.seq (.cond (.leaf [3, 10, 11, 12]) (.leaf [3])) (.seq (.block (.seq (.leaf [3, 4, 5, 10, 11, 12]) (.leaf [3, 10, 11, 12]))) (.leaf [3, 10, 11, 12]))))))) (.seq (.leaf [2]) (.leaf [2])))))

noncomputable def impl_placesIn_ctx : Ctx := ⟨tlook tys, olook [], ioF, 0, false, []⟩

theorem impl_placesIn_n1_l (x2163 : List Int) : Link impl_placesIn_ctx LL (Code.seq (cq [0] (bodyOf Try.f52)) (cq [0,1] (bodyOf Try.f52))) (Ann.seq (aq [0] impl_placesIn_an) (aq [0,1] impl_placesIn_an)) ⟨mkE 24 0 [(0, dL x2163)], []⟩ (impl_placesIn_n1 x2163) (fun (t : (List Int)) => (Exit.normal, ⟨mkE 24 0 [(0, dL x2163), (3, .slc 0)], [some (sI t)]⟩)) := .of fun K h => by
  simp only [impl_placesIn_n1, wpW] at h
  exact .of (by kernel_rfl) h

theorem impl_placesIn_n2_l (x2163 : List Int) (x2167 : List Int) : Link impl_placesIn_ctx LL (cq [0,0,1,1] (bodyOf Try.f52)) (aq [0,0,1,1] impl_placesIn_an) ⟨mkE 24 0 [(0, dL x2163), (3, .slc 0)], [some (sI x2167)]⟩ (impl_placesIn_n2 x2163) (fun (t : Int) => (Exit.normal, ⟨mkE 24 0 [(3, .slc 0), (10, dL x2163), (11, dI t), (12, dI 0)], [some (sI x2167)]⟩)) := .of fun K h => by
  simp only [impl_placesIn_n2, wpW] at h
  exact .of (by kernel_rfl) h

theorem impl_placesIn_n3_l (x2163 : List Int) (x2168 : Int) (x2182 : Int) (x2183 : List Int) : Link impl_placesIn_ctx LL (cq [0,0,1,0,1,1] (bodyOf Try.f52)) (aq [0,0,1,0,1,1] impl_placesIn_an) ⟨mkE 24 0 [(3, .slc 0), (10, dL x2163), (11, dI x2168), (12, dI x2182)], [some (sI x2183)]⟩ (impl_placesIn_n3 x2163 x2168 x2182 x2183) (Sum.elim (fun (t : Int × (List Int)) => (Exit.normal, ⟨mkE 24 0 [(3, .slc 0), (10, dL x2163), (11, dI x2168), (12, dI t.1)], [some (sI t.2)]⟩)) (fun (t : (List Int)) => ((Exit.exit 0), ⟨mkE 24 0 [(3, .slc 0)], [some (sI t)]⟩))) := .of fun K h => by
  simp only [impl_placesIn_n3, wpW] at h
  exact .of (by kernel_rfl) h

def impl_placesIn_n4_l (x2163 : List Int) (x2168 : Int) (x2167 : List Int) := (link_loop (mk := fun (s : Int × (List Int)) => ⟨mkE 24 0 [(3, .slc 0), (10, dL x2163), (11, dI x2168), (12, dI s.1)], [some (sI s.2)]⟩) (fin := (fun (t : (List Int)) => ((Exit.exit 0), ⟨mkE 24 0 [(3, .slc 0)], [some (sI t)]⟩))) (by
  rintro t f K h
  · exact h) (fun s => link_map (impl_placesIn_n3_l x2163 x2168 s.1 s.2) (Sum.elim (fun (t : Int × (List Int)) => Sum.inl (t.1, t.2)) (fun (t : (List Int)) => Sum.inr t)) (by
  rintro (t | t)
  · kernel_rfl
  · kernel_rfl)) (0, x2167))

def impl_placesIn_n5_l (x2163 : List Int) (x2168 : Int) (x2167 : List Int) := (link_block (fin2 := (fun (t : (List Int)) => (Exit.normal, ⟨mkE 24 0 [(3, .slc 0)], [some (sI t)]⟩))) (id := 0) (impl_placesIn_n4_l x2163 x2168 x2167) (fun (t : (List Int)) => t) (by
  rintro t K h
  · exact Eq.mp (by kernel_rfl) h))

def impl_placesIn_n6_l (x2163 : List Int) (x2167 : List Int) := (link_seq (impl_placesIn_n2_l x2163 x2167) (fun (t : Int) => (impl_placesIn_n5_l x2163 t x2167)))

theorem impl_placesIn_n7_l (x2183 : List Int) : Link impl_placesIn_ctx LL (cq [1,1,1] (bodyOf Try.f52)) (aq [1,1,1] impl_placesIn_an) ⟨mkE 24 0 [(3, .slc 0)], [some (sI x2183)]⟩ (impl_placesIn_n7 x2183) (fun (t : (List Int)) => (Exit.ret, ⟨mkE 24 0 [(2, .slc 0)], [some (sI t)]⟩)) := .of fun K h => by
  simp only [impl_placesIn_n7, wpW] at h
  exact .of (by kernel_rfl) h

def impl_placesIn_n8_l (x2163 : List Int) (x2167 : List Int) := (link_seq (impl_placesIn_n6_l x2163 x2167) (fun (t : (List Int)) => (impl_placesIn_n7_l t)))

def impl_placesIn_n9_l (x2163 : List Int) := (link_group (c := (cq [0,1] (bodyOf Try.f52))) (a := (aq [0,1] impl_placesIn_an)) [(cq [0] (bodyOf Try.f52))] [(aq [0] impl_placesIn_an)] rfl (link_seq (impl_placesIn_n1_l x2163) (fun (t : (List Int)) => (impl_placesIn_n8_l x2163 t))))

theorem impl_placesIn_e (x2163 : List Int) {r : AV} {H' : Heap} (h : (Ans.mk _ (impl_placesIn x2163) (fun (t : (List Int)) => (.slc 0, [some (sI t)])) [] none).run = some (r, H')) : Awp impl_placesIn_ctx LL (bodyOf Try.f52) impl_placesIn_an ⟨mkE 24 0 [(0, dL x2163)], []⟩ (Ret (tlook tys) Try.f52.results.toList r H') :=
  ret_of' (Link.cast (by kernel_rfl) (by kernel_rfl) (impl_placesIn_n9_l x2163)) (by unfold impl_placesIn; kernel_rfl) (by
  intro t
  exact ret_mk [.slc 0] (by kernel_rfl) (by kernel_rfl) (by kernel_rfl) (by kernel_rfl)) h

def F_impl_placesIn : Fun := fun avs H =>
  match avs, H with
  | [.dat (.list (.int .i64)) x2163], [] => ⟨_, impl_placesIn x2163, fun (t : (List Int)) => (.slc 0, [some (sI t)]), [], none⟩
  | _, _ => Ans.no

theorem impl_placesIn_sound : Sound Try.prog 52 F_impl_placesIn := by
  refine fn_sound' (C := impl_placesIn_ctx) (c := bodyOf Try.f52) (cok_of tys_ok (alln) (alln) (by kernel_rfl)) Try.func52 (by kernel_rfl) LL impl_placesIn_an ?_
  intro avs H r H' h
  unfold F_impl_placesIn at h
  split at h
  · refine Awp.cast ?_ ?_ ?_ (impl_placesIn_e _ h) <;> kernel_rfl
  · simp [Ans.no, Ans.run] at h


/-! loop.example/headtrees/impl.PutInOrder$1 -/

def impl_PutInOrder_1_an : Ann := (.seq (.leaf [0, 1]) (.seq (.leaf [3]) (.leaf [3])))

noncomputable def impl_PutInOrder_1_ctx : Ctx := ⟨tlook tys, olook [], ioF, 2, false, []⟩

theorem impl_PutInOrder_1_n1_l (x2217 : Int) (x2218 : List Int) : Link impl_PutInOrder_1_ctx LL (bodyOf Try.f54) impl_PutInOrder_1_an ⟨mkE 8 0 [(0, dI x2217), (1, .ptr 0 0)], [some (.box [.slc 1]), some (sI x2218)]⟩ (impl_PutInOrder_1_n1 x2217 x2218) (fun (t : Int) => (Exit.ret, ⟨mkE 8 0 [(3, dI t)], [some (.box [.slc 1]), some (sI x2218)]⟩)) := .of fun K h => by
  simp only [impl_PutInOrder_1_n1, wpW] at h
  exact .of (by kernel_rfl) h

theorem impl_PutInOrder_1_e (x2217 : Int) (x2218 : List Int) {r : AV} {H' : Heap} (h : (Ans.mk _ (impl_PutInOrder_1 x2217 x2218) (fun (t : Int) => (dI t, [some (.box [.slc 1]), some (sI x2218)])) [] none).run = some (r, H')) : Awp impl_PutInOrder_1_ctx LL (bodyOf Try.f54) impl_PutInOrder_1_an ⟨mkE 8 0 [(0, dI x2217), (1, .ptr 0 0)], [some (.box [.slc 1]), some (sI x2218)]⟩ (Ret (tlook tys) Try.f54.results.toList r H') :=
  ret_of' (impl_PutInOrder_1_n1_l x2217 x2218) (by unfold impl_PutInOrder_1; kernel_rfl) (by
  intro t
  exact ret_mk [dI t] (by kernel_rfl) (by kernel_rfl) (by kernel_rfl) (by kernel_rfl)) h

def F_impl_PutInOrder_1 : Fun := fun avs H =>
  match avs, H with
  | [.dat (.int .i64) x2217, .ptr 0 0], [some (.box [.slc 1]), some (.seq (.int .i64) x2218)] => ⟨_, impl_PutInOrder_1 x2217 x2218, fun (t : Int) => (dI t, [some (.box [.slc 1]), some (sI x2218)]), [], none⟩
  | _, _ => Ans.no

theorem impl_PutInOrder_1_sound : Sound Try.prog 54 F_impl_PutInOrder_1 := by
  refine fn_sound' (C := impl_PutInOrder_1_ctx) (c := bodyOf Try.f54) (cok_of tys_ok (alln) (alln) (by kernel_rfl)) Try.func54 (by kernel_rfl) LL impl_PutInOrder_1_an ?_
  intro avs H r H' h
  unfold F_impl_PutInOrder_1 at h
  split at h
  · refine Awp.cast ?_ ?_ ?_ (impl_PutInOrder_1_e _ _ h) <;> kernel_rfl
  · simp [Ans.no, Ans.run] at h


/-! loop.example/headtrees/impl.renamed[int] -/

def impl_renamed_int_an : Ann := (.seq (.leaf [0, 1, 2]) (.seq (.leaf [0, 1, 2, 7]) (.seq (.seq (.leaf [0, 2, 7, 13, 14, 15]) (.block (.loop (.seq (.leaf [0, 2, 7, 13, 14, 15, 16]) (.seq (.cond (.leaf [0, 2, 7, 13, 14, 15]) (.leaf [7])) (.seq (.block (.seq (.leaf [0, 2, 7, 8, 9, 13, 14, 15]) (.leaf [0, 2, 7, 13, 14, 15]))) (.leaf [0, 2, 7, 13, 14, 15]))))))) (.seq (.leaf [6]) (.leaf [6])))))

noncomputable def impl_renamed_int_ctx : Ctx := ⟨tlook tys, olook [(54, F_impl_PutInOrder_1)], ioF, 2, false, []⟩

theorem impl_renamed_int_n1_l (x2204 : List Int) (x2205 : List Int) (x2206 : List Int) : Link impl_renamed_int_ctx LL (Code.seq (cq [0] (bodyOf Try.f53)) (cq [0,1] (bodyOf Try.f53))) (Ann.seq (aq [0] impl_renamed_int_an) (aq [0,1] impl_renamed_int_an)) ⟨mkE 32 0 [(0, dL x2204), (1, dL x2205), (2, .fn 54 [] [.ptr 0 0])], [some (.box [.slc 1]), some (sI x2206)]⟩ (impl_renamed_int_n1 x2205) (fun (t : (List Int)) => (Exit.normal, ⟨mkE 32 0 [(0, dL x2204), (1, dL x2205), (2, .fn 54 [] [.ptr 0 0]), (7, .slc 2)], [some (.box [.slc 1]), some (sI x2206), some (sI t)]⟩)) := .of fun K h => by
  simp only [impl_renamed_int_n1, wpW] at h
  exact .of (by kernel_rfl) h

theorem impl_renamed_int_n2_l (x2204 : List Int) (x2205 : List Int) (x2206 : List Int) (x2209 : List Int) : Link impl_renamed_int_ctx LL (cq [0,0,1,1] (bodyOf Try.f53)) (aq [0,0,1,1] impl_renamed_int_an) ⟨mkE 32 0 [(0, dL x2204), (1, dL x2205), (2, .fn 54 [] [.ptr 0 0]), (7, .slc 2)], [some (.box [.slc 1]), some (sI x2206), some (sI x2209)]⟩ (impl_renamed_int_n2 x2205) (fun (t : Int) => (Exit.normal, ⟨mkE 32 0 [(0, dL x2204), (2, .fn 54 [] [.ptr 0 0]), (7, .slc 2), (13, dL x2205), (14, dI t), (15, dI 0)], [some (.box [.slc 1]), some (sI x2206), some (sI x2209)]⟩)) := .of fun K h => by
  simp only [impl_renamed_int_n2, wpW] at h
  exact .of (by kernel_rfl) h

theorem impl_renamed_int_n3_l (x2204 : List Int) (x2205 : List Int) (x2210 : Int) (x2234 : Int) (x2206 : List Int) (x2235 : List Int) : Link impl_renamed_int_ctx LL (cq [0,0,1,0,1,1] (bodyOf Try.f53)) (aq [0,0,1,0,1,1] impl_renamed_int_an) ⟨mkE 32 0 [(0, dL x2204), (2, .fn 54 [] [.ptr 0 0]), (7, .slc 2), (13, dL x2205), (14, dI x2210), (15, dI x2234)], [some (.box [.slc 1]), some (sI x2206), some (sI x2235)]⟩ (impl_renamed_int_n3 x2204 x2205 x2210 x2234 x2206 x2235) (Sum.elim (fun (t : Int × (List Int)) => (Exit.normal, ⟨mkE 32 0 [(0, dL x2204), (2, .fn 54 [] [.ptr 0 0]), (7, .slc 2), (13, dL x2205), (14, dI x2210), (15, dI t.1)], [some (.box [.slc 1]), some (sI x2206), some (sI t.2)]⟩)) (fun (t : (List Int)) => ((Exit.exit 0), ⟨mkE 32 0 [(7, .slc 2)], [some (.box [.slc 1]), some (sI x2206), some (sI t)]⟩))) := .of fun K h => by
  simp only [impl_renamed_int_n3, wpW] at h
  exact .of (by kernel_rfl) h

def impl_renamed_int_n4_l (x2204 : List Int) (x2205 : List Int) (x2210 : Int) (x2206 : List Int) (x2209 : List Int) := (link_loop (mk := fun (s : Int × (List Int)) => ⟨mkE 32 0 [(0, dL x2204), (2, .fn 54 [] [.ptr 0 0]), (7, .slc 2), (13, dL x2205), (14, dI x2210), (15, dI s.1)], [some (.box [.slc 1]), some (sI x2206), some (sI s.2)]⟩) (fin := (fun (t : (List Int)) => ((Exit.exit 0), ⟨mkE 32 0 [(7, .slc 2)], [some (.box [.slc 1]), some (sI x2206), some (sI t)]⟩))) (by
  rintro t f K h
  · exact h) (fun s => link_map (impl_renamed_int_n3_l x2204 x2205 x2210 s.1 x2206 s.2) (Sum.elim (fun (t : Int × (List Int)) => Sum.inl (t.1, t.2)) (fun (t : (List Int)) => Sum.inr t)) (by
  rintro (t | t)
  · kernel_rfl
  · kernel_rfl)) (0, x2209))

def impl_renamed_int_n5_l (x2204 : List Int) (x2205 : List Int) (x2210 : Int) (x2206 : List Int) (x2209 : List Int) := (link_block (fin2 := (fun (t : (List Int)) => (Exit.normal, ⟨mkE 32 0 [(7, .slc 2)], [some (.box [.slc 1]), some (sI x2206), some (sI t)]⟩))) (id := 0) (impl_renamed_int_n4_l x2204 x2205 x2210 x2206 x2209) (fun (t : (List Int)) => t) (by
  rintro t K h
  · exact Eq.mp (by kernel_rfl) h))

def impl_renamed_int_n6_l (x2204 : List Int) (x2205 : List Int) (x2206 : List Int) (x2209 : List Int) := (link_seq (impl_renamed_int_n2_l x2204 x2205 x2206 x2209) (fun (t : Int) => (impl_renamed_int_n5_l x2204 x2205 t x2206 x2209)))

theorem impl_renamed_int_n7_l (x2206 : List Int) (x2235 : List Int) : Link impl_renamed_int_ctx LL (cq [1,1,1] (bodyOf Try.f53)) (aq [1,1,1] impl_renamed_int_an) ⟨mkE 32 0 [(7, .slc 2)], [some (.box [.slc 1]), some (sI x2206), some (sI x2235)]⟩ (impl_renamed_int_n7 x2235) (fun (t : (List Int)) => (Exit.ret, ⟨mkE 32 0 [(6, .slc 2)], [some (.box [.slc 1]), some (sI x2206), some (sI t)]⟩)) := .of fun K h => by
  simp only [impl_renamed_int_n7, wpW] at h
  exact .of (by kernel_rfl) h

def impl_renamed_int_n8_l (x2204 : List Int) (x2205 : List Int) (x2206 : List Int) (x2209 : List Int) := (link_seq (impl_renamed_int_n6_l x2204 x2205 x2206 x2209) (fun (t : (List Int)) => (impl_renamed_int_n7_l x2206 t)))

def impl_renamed_int_n9_l (x2204 : List Int) (x2205 : List Int) (x2206 : List Int) := (link_group (c := (cq [0,1] (bodyOf Try.f53))) (a := (aq [0,1] impl_renamed_int_an)) [(cq [0] (bodyOf Try.f53))] [(aq [0] impl_renamed_int_an)] rfl (link_seq (impl_renamed_int_n1_l x2204 x2205 x2206) (fun (t : (List Int)) => (impl_renamed_int_n8_l x2204 x2205 x2206 t))))

theorem impl_renamed_int_e (x2204 : List Int) (x2205 : List Int) (x2206 : List Int) {r : AV} {H' : Heap} (h : (Ans.mk _ (impl_renamed_int x2204 x2205 x2206) (fun (t : (List Int)) => (.slc 2, [some (.box [.slc 1]), some (sI x2206), some (sI t)])) [] none).run = some (r, H')) : Awp impl_renamed_int_ctx LL (bodyOf Try.f53) impl_renamed_int_an ⟨mkE 32 0 [(0, dL x2204), (1, dL x2205), (2, .fn 54 [] [.ptr 0 0])], [some (.box [.slc 1]), some (sI x2206)]⟩ (Ret (tlook tys) Try.f53.results.toList r H') :=
  ret_of' (Link.cast (by kernel_rfl) (by kernel_rfl) (impl_renamed_int_n9_l x2204 x2205 x2206)) (by unfold impl_renamed_int; kernel_rfl) (by
  intro t
  exact ret_mk [.slc 2] (by kernel_rfl) (by kernel_rfl) (by kernel_rfl) (by kernel_rfl)) h

def F_impl_renamed_int : Fun := fun avs H =>
  match avs, H with
  | [.dat (.list (.int .i64)) x2204, .dat (.list (.int .i64)) x2205, .fn 54 [] [.ptr 0 0]], [some (.box [.slc 1]), some (.seq (.int .i64) x2206)] => ⟨_, impl_renamed_int x2204 x2205 x2206, fun (t : (List Int)) => (.slc 2, [some (.box [.slc 1]), some (sI x2206), some (sI t)]), [], none⟩
  | _, _ => Ans.no

theorem impl_renamed_int_sound : Sound Try.prog 53 F_impl_renamed_int := by
  refine fn_sound' (C := impl_renamed_int_ctx) (c := bodyOf Try.f53) (cok_of tys_ok (allc impl_PutInOrder_1_sound alln) (allc Try.call54 alln) (by kernel_rfl)) Try.func53 (by kernel_rfl) LL impl_renamed_int_an ?_
  intro avs H r H' h
  unfold F_impl_renamed_int at h
  split at h
  · refine Awp.cast ?_ ?_ ?_ (impl_renamed_int_e _ _ _ h) <;> kernel_rfl
  · simp [Ans.no, Ans.run] at h


/-! loop.example/headtrees/impl.PutInOrder -/

def impl_PutInOrder_an : Ann := (.seq (.leaf [0, 1]) (.seq (.seq (.leaf [0, 1, 16]) (.cond (.seq (.leaf [4, 5]) (.leaf [4, 5])) (.leaf [0, 1]))) (.seq (.leaf [0, 1, 6]) (.seq (.leaf [4, 5]) (.leaf [4, 5])))))

noncomputable def impl_PutInOrder_ctx : Ctx := ⟨tlook tys, olook [(16, F_impl_TreeOk), (51, F_impl_OrderOk), (52, F_impl_placesIn), (53, F_impl_renamed_int)], ioF, 0, false, []⟩

theorem impl_PutInOrder_n1_l (x2090 : List Int) (x2091 : List Int) : Link impl_PutInOrder_ctx LL (bodyOf Try.f27) impl_PutInOrder_an ⟨mkE 23 0 [(0, dL x2090), (1, dL x2091)], []⟩ (impl_PutInOrder_n1 x2090 x2091) (fun (t : Bool × (List Int)) => (Exit.ret, ⟨mkE 23 0 [(4, .slc 0), (5, dB t.1)], [some (sI t.2)]⟩)) := .of fun K h => by
  simp only [impl_PutInOrder_n1, wpW] at h
  exact .of (by kernel_rfl) h

theorem impl_PutInOrder_e (x2090 : List Int) (x2091 : List Int) {r : AV} {H' : Heap} (h : (Ans.mk _ (impl_PutInOrder x2090 x2091) (fun (t : Bool × (List Int)) => (.tup [.slc 0, dB t.1], [some (sI t.2)])) [] none).run = some (r, H')) : Awp impl_PutInOrder_ctx LL (bodyOf Try.f27) impl_PutInOrder_an ⟨mkE 23 0 [(0, dL x2090), (1, dL x2091)], []⟩ (Ret (tlook tys) Try.f27.results.toList r H') :=
  ret_of' (impl_PutInOrder_n1_l x2090 x2091) (by unfold impl_PutInOrder; kernel_rfl) (by
  intro t
  exact ret_mk [.slc 0, dB t.1] (by kernel_rfl) (by kernel_rfl) (by kernel_rfl) (by kernel_rfl)) h

def F_impl_PutInOrder : Fun := fun avs H =>
  match avs, H with
  | [.dat (.list (.int .i64)) x2090, .dat (.list (.int .i64)) x2091], [] => ⟨_, impl_PutInOrder x2090 x2091, fun (t : Bool × (List Int)) => (.tup [.slc 0, dB t.1], [some (sI t.2)]), [], none⟩
  | _, _ => Ans.no

theorem impl_PutInOrder_sound : Sound Try.prog 27 F_impl_PutInOrder := by
  refine fn_sound' (C := impl_PutInOrder_ctx) (c := bodyOf Try.f27) (cok_of tys_ok (allc impl_TreeOk_sound (allc impl_OrderOk_sound (allc impl_placesIn_sound (allc impl_renamed_int_sound alln)))) (allc Try.call16 (allc Try.call51 (allc Try.call52 (allc Try.call53 alln)))) (by kernel_rfl)) Try.func27 (by kernel_rfl) LL impl_PutInOrder_an ?_
  intro avs H r H' h
  unfold F_impl_PutInOrder at h
  split at h
  · refine Awp.cast ?_ ?_ ?_ (impl_PutInOrder_e _ _ h) <;> kernel_rfl
  · simp [Ans.no, Ans.run] at h


/-! loop.example/headtrees/impl.BackOf -/

def impl_BackOf_an : Ann := (.seq (.leaf [0]) (.seq (.seq (.leaf [0, 7]) (.cond (.seq (.leaf [2]) (.leaf [2])) (.leaf [0]))) (.seq (.leaf [3]) (.seq (.leaf [2]) (.leaf [2])))))

noncomputable def impl_BackOf_ctx : Ctx := ⟨tlook tys, olook [(16, F_impl_TreeOk), (45, F_impl_lastToFirst), (27, F_impl_PutInOrder)], ioF, 0, false, []⟩

theorem impl_BackOf_n1_l (x2055 : List Int) : Link impl_BackOf_ctx LL (bodyOf Try.f18) impl_BackOf_an ⟨mkE 17 0 [(0, dL x2055)], []⟩ (impl_BackOf_n1 x2055) (fun (t : (List Int)) => (Exit.ret, ⟨mkE 17 0 [(2, .slc 0)], [some (sI t)]⟩)) := .of fun K h => by
  simp only [impl_BackOf_n1, wpW] at h
  exact .of (by kernel_rfl) h

theorem impl_BackOf_e (x2055 : List Int) {r : AV} {H' : Heap} (h : (Ans.mk _ (impl_BackOf x2055) (fun (t : (List Int)) => (.slc 0, [some (sI t)])) [] none).run = some (r, H')) : Awp impl_BackOf_ctx LL (bodyOf Try.f18) impl_BackOf_an ⟨mkE 17 0 [(0, dL x2055)], []⟩ (Ret (tlook tys) Try.f18.results.toList r H') :=
  ret_of' (impl_BackOf_n1_l x2055) (by unfold impl_BackOf; kernel_rfl) (by
  intro t
  exact ret_mk [.slc 0] (by kernel_rfl) (by kernel_rfl) (by kernel_rfl) (by kernel_rfl)) h

def F_impl_BackOf : Fun := fun avs H =>
  match avs, H with
  | [.dat (.list (.int .i64)) x2055], [] => ⟨_, impl_BackOf x2055, fun (t : (List Int)) => (.slc 0, [some (sI t)]), [], none⟩
  | _, _ => Ans.no

theorem impl_BackOf_sound : Sound Try.prog 18 F_impl_BackOf := by
  refine fn_sound' (C := impl_BackOf_ctx) (c := bodyOf Try.f18) (cok_of tys_ok (allc impl_TreeOk_sound (allc impl_lastToFirst_sound (allc impl_PutInOrder_sound alln))) (allc Try.call16 (allc Try.call45 (allc Try.call27 alln))) (by kernel_rfl)) Try.func18 (by kernel_rfl) LL impl_BackOf_an ?_
  intro avs H r H' h
  unfold F_impl_BackOf at h
  split at h
  · refine Awp.cast ?_ ?_ ?_ (impl_BackOf_e _ h) <;> kernel_rfl
  · simp [Ans.no, Ans.run] at h


/-! loop.example/headtrees/impl.pairsAmong -/

def impl_pairsAmong_an : Ann := (.seq (.leaf [0]) (.seq (.leaf [2]) (.leaf [2])))

noncomputable def impl_pairsAmong_ctx : Ctx := ⟨tlook tys, olook [], ioF, 0, false, []⟩

theorem impl_pairsAmong_n1_l (x2485 : Int) : Link impl_pairsAmong_ctx LL (bodyOf Try.f46) impl_pairsAmong_an ⟨mkE 8 0 [(0, dI x2485)], []⟩ (impl_pairsAmong_n1 x2485) (fun (t : Int) => (Exit.ret, ⟨mkE 8 0 [(2, dI t)], []⟩)) := .of fun K h => by
  simp only [impl_pairsAmong_n1, wpW] at h
  exact .of (by kernel_rfl) h

theorem impl_pairsAmong_e (x2485 : Int) {r : AV} {H' : Heap} (h : (Ans.mk _ (impl_pairsAmong x2485) (fun (t : Int) => (dI t, [])) [] none).run = some (r, H')) : Awp impl_pairsAmong_ctx LL (bodyOf Try.f46) impl_pairsAmong_an ⟨mkE 8 0 [(0, dI x2485)], []⟩ (Ret (tlook tys) Try.f46.results.toList r H') :=
  ret_of' (impl_pairsAmong_n1_l x2485) (by unfold impl_pairsAmong; kernel_rfl) (by
  intro t
  exact ret_mk [dI t] (by kernel_rfl) (by kernel_rfl) (by kernel_rfl) (by kernel_rfl)) h

def F_impl_pairsAmong : Fun := fun avs H =>
  match avs, H with
  | [.dat (.int .i64) x2485], [] => ⟨_, impl_pairsAmong x2485, fun (t : Int) => (dI t, []), [], none⟩
  | _, _ => Ans.no

theorem impl_pairsAmong_sound : Sound Try.prog 46 F_impl_pairsAmong := by
  refine fn_sound' (C := impl_pairsAmong_ctx) (c := bodyOf Try.f46) (cok_of tys_ok (alln) (alln) (by kernel_rfl)) Try.func46 (by kernel_rfl) LL impl_pairsAmong_an ?_
  intro avs H r H' h
  unfold F_impl_pairsAmong at h
  split at h
  · refine Awp.cast ?_ ?_ ?_ (impl_pairsAmong_e _ h) <;> kernel_rfl
  · simp [Ans.no, Ans.run] at h


/-! loop.example/headtrees/impl.PairsApart -/

def impl_PairsApart_an : Ann := (.seq (.leaf [0]) (.seq (.seq (.leaf [0, 9]) (.cond (.seq (.leaf [2]) (.leaf [2])) (.leaf [0]))) (.seq (.leaf [3]) (.seq (.leaf [3, 4]) (.seq (.seq (.leaf [4, 16, 17]) (.block (.loop (.seq (.leaf [4, 16, 17, 18]) (.seq (.cond (.leaf [4, 16, 17]) (.leaf [4])) (.seq (.block (.seq (.leaf [4, 6, 16, 17]) (.leaf [4, 16, 17]))) (.leaf [4, 16, 17]))))))) (.seq (.leaf [2]) (.leaf [2])))))))

noncomputable def impl_PairsApart_ctx : Ctx := ⟨tlook tys, olook [(16, F_impl_TreeOk), (40, F_impl_arcsOf), (46, F_impl_pairsAmong), (39, F_impl_countEnds)], ioF, 0, false, []⟩

theorem impl_PairsApart_n1_l (x2475 : List Int) : Link impl_PairsApart_ctx LL (Code.seq (cq [0] (bodyOf Try.f20)) (Code.seq (cq [0,1] (bodyOf Try.f20)) (Code.seq (cq [0,1,1] (bodyOf Try.f20)) (cq [0,1,1,1] (bodyOf Try.f20))))) (Ann.seq (aq [0] impl_PairsApart_an) (Ann.seq (aq [0,1] impl_PairsApart_an) (Ann.seq (aq [0,1,1] impl_PairsApart_an) (aq [0,1,1,1] impl_PairsApart_an)))) ⟨mkE 26 0 [(0, dL x2475)], []⟩ (impl_PairsApart_n1 x2475) (Sum.elim (fun (t : Int × (List (Int × Int × Unit))) => (Exit.normal, ⟨mkE 26 0 [(3, .slc 0), (4, dI t.1)], [some (.seq (.pair (.int .i64) (.pair (.int .i64) .unit)) t.2)]⟩)) (fun (t : Int) => (Exit.ret, ⟨mkE 26 0 [(2, dI t)], []⟩))) := .of fun K h => by
  simp only [impl_PairsApart_n1, wpW] at h
  exact .of (by kernel_rfl) h

theorem impl_PairsApart_n2_l (x2492 : Int) (x2483 : List (Int × Int × Unit)) : Link impl_PairsApart_ctx LL (cq [0,0,1,1,1,1] (bodyOf Try.f20)) (aq [0,0,1,1,1,1] impl_PairsApart_an) ⟨mkE 26 0 [(3, .slc 0), (4, dI x2492)], [some (.seq (.pair (.int .i64) (.pair (.int .i64) .unit)) x2483)]⟩ (impl_PairsApart_n2 x2483) (fun (t : Int × Int × Int × Int × Int × Int × Int × Int × Int) => (Exit.normal, ⟨mkE 26 0 [(4, dI x2492), (16, .agg [dI t.1, dI t.2.1, dI t.2.2.1, dI t.2.2.2.1, dI t.2.2.2.2.1, dI t.2.2.2.2.2.1, dI t.2.2.2.2.2.2.1, dI t.2.2.2.2.2.2.2.1, dI t.2.2.2.2.2.2.2.2]), (17, dI 0)], []⟩)) := .of fun K h => by
  simp only [impl_PairsApart_n2, wpW] at h
  exact .of (by kernel_rfl) h

theorem impl_PairsApart_n3_l (x2514 : Int) (x2494 : Int) (x2495 : Int) (x2496 : Int) (x2497 : Int) (x2498 : Int) (x2499 : Int) (x2500 : Int) (x2501 : Int) (x2502 : Int) (x2515 : Int) : Link impl_PairsApart_ctx LL (cq [0,0,1,0,1,1,1,1] (bodyOf Try.f20)) (aq [0,0,1,0,1,1,1,1] impl_PairsApart_an) ⟨mkE 26 0 [(4, dI x2514), (16, .agg [dI x2494, dI x2495, dI x2496, dI x2497, dI x2498, dI x2499, dI x2500, dI x2501, dI x2502]), (17, dI x2515)], []⟩ (impl_PairsApart_n3 x2514 x2494 x2495 x2496 x2497 x2498 x2499 x2500 x2501 x2502 x2515) (Sum.elim (fun (t : Int × Int) => (Exit.normal, ⟨mkE 26 0 [(4, dI t.1), (16, .agg [dI x2494, dI x2495, dI x2496, dI x2497, dI x2498, dI x2499, dI x2500, dI x2501, dI x2502]), (17, dI t.2)], []⟩)) (fun (t : Int) => ((Exit.exit 0), ⟨mkE 26 0 [(4, dI t)], []⟩))) := .of fun K h => by
  simp only [impl_PairsApart_n3, wpW] at h
  exact .of (by kernel_rfl) h

def impl_PairsApart_n4_l (x2492 : Int) (x2494 : Int) (x2495 : Int) (x2496 : Int) (x2497 : Int) (x2498 : Int) (x2499 : Int) (x2500 : Int) (x2501 : Int) (x2502 : Int) := (link_loop (mk := fun (s : Int × Int) => ⟨mkE 26 0 [(4, dI s.1), (16, .agg [dI x2494, dI x2495, dI x2496, dI x2497, dI x2498, dI x2499, dI x2500, dI x2501, dI x2502]), (17, dI s.2)], []⟩) (fin := (fun (t : Int) => ((Exit.exit 0), ⟨mkE 26 0 [(4, dI t)], []⟩))) (by
  rintro t f K h
  · exact h) (fun s => link_map (impl_PairsApart_n3_l s.1 x2494 x2495 x2496 x2497 x2498 x2499 x2500 x2501 x2502 s.2) (Sum.elim (fun (t : Int × Int) => Sum.inl (t.1, t.2)) (fun (t : Int) => Sum.inr t)) (by
  rintro (t | t)
  · kernel_rfl
  · kernel_rfl)) (x2492, 0))

def impl_PairsApart_n5_l (x2492 : Int) (x2494 : Int) (x2495 : Int) (x2496 : Int) (x2497 : Int) (x2498 : Int) (x2499 : Int) (x2500 : Int) (x2501 : Int) (x2502 : Int) := (link_block (fin2 := (fun (t : Int) => (Exit.normal, ⟨mkE 26 0 [(4, dI t)], []⟩))) (id := 0) (impl_PairsApart_n4_l x2492 x2494 x2495 x2496 x2497 x2498 x2499 x2500 x2501 x2502) (fun (t : Int) => t) (by
  rintro t K h
  · exact Eq.mp (by kernel_rfl) h))

def impl_PairsApart_n6_l (x2492 : Int) (x2483 : List (Int × Int × Unit)) := (link_seq (impl_PairsApart_n2_l x2492 x2483) (fun (t : Int × Int × Int × Int × Int × Int × Int × Int × Int) => (impl_PairsApart_n5_l x2492 t.1 t.2.1 t.2.2.1 t.2.2.2.1 t.2.2.2.2.1 t.2.2.2.2.2.1 t.2.2.2.2.2.2.1 t.2.2.2.2.2.2.2.1 t.2.2.2.2.2.2.2.2)))

theorem impl_PairsApart_n7_l (x2514 : Int) : Link impl_PairsApart_ctx LL (cq [1,1,1,1,1] (bodyOf Try.f20)) (aq [1,1,1,1,1] impl_PairsApart_an) ⟨mkE 26 0 [(4, dI x2514)], []⟩ (impl_PairsApart_n7 x2514) (fun (t : Int) => (Exit.ret, ⟨mkE 26 0 [(2, dI t)], []⟩)) := .of fun K h => by
  simp only [impl_PairsApart_n7, wpW] at h
  exact .of (by kernel_rfl) h

def impl_PairsApart_n8_l (x2492 : Int) (x2483 : List (Int × Int × Unit)) := (link_seq (impl_PairsApart_n6_l x2492 x2483) (fun (t : Int) => (impl_PairsApart_n7_l t)))

def impl_PairsApart_n9_l (x2475 : List Int) := (link_group (c := (cq [0,1,1,1] (bodyOf Try.f20))) (a := (aq [0,1,1,1] impl_PairsApart_an)) [(cq [0] (bodyOf Try.f20)), (cq [0,1] (bodyOf Try.f20)), (cq [0,1,1] (bodyOf Try.f20))] [(aq [0] impl_PairsApart_an), (aq [0,1] impl_PairsApart_an), (aq [0,1,1] impl_PairsApart_an)] rfl (link_seq2 (impl_PairsApart_n1_l x2475) (fun (t : Int × (List (Int × Int × Unit))) => (impl_PairsApart_n8_l t.1 t.2)) (fun (t : Int) => t) (by
  rintro t
  · kernel_rfl) (by
  rintro t f K h
  · exact h)))

theorem impl_PairsApart_e (x2475 : List Int) {r : AV} {H' : Heap} (h : (Ans.mk _ (impl_PairsApart x2475) (fun (t : Int) => (dI t, [])) [] none).run = some (r, H')) : Awp impl_PairsApart_ctx LL (bodyOf Try.f20) impl_PairsApart_an ⟨mkE 26 0 [(0, dL x2475)], []⟩ (Ret (tlook tys) Try.f20.results.toList r H') :=
  ret_of' (Link.cast (by kernel_rfl) (by kernel_rfl) (impl_PairsApart_n9_l x2475)) (by unfold impl_PairsApart; kernel_rfl) (by
  intro t
  exact ret_mk [dI t] (by kernel_rfl) (by kernel_rfl) (by kernel_rfl) (by kernel_rfl)) h

def F_impl_PairsApart : Fun := fun avs H =>
  match avs, H with
  | [.dat (.list (.int .i64)) x2475], [] => ⟨_, impl_PairsApart x2475, fun (t : Int) => (dI t, []), [], none⟩
  | _, _ => Ans.no

theorem impl_PairsApart_sound : Sound Try.prog 20 F_impl_PairsApart := by
  refine fn_sound' (C := impl_PairsApart_ctx) (c := bodyOf Try.f20) (cok_of tys_ok (allc impl_TreeOk_sound (allc impl_arcsOf_sound (allc impl_pairsAmong_sound (allc impl_countEnds_sound alln)))) (allc Try.call16 (allc Try.call40 (allc Try.call46 (allc Try.call39 alln)))) (by kernel_rfl)) Try.func20 (by kernel_rfl) LL impl_PairsApart_an ?_
  intro avs H r H' h
  unfold F_impl_PairsApart at h
  split at h
  · refine Awp.cast ?_ ?_ ?_ (impl_PairsApart_e _ h) <;> kernel_rfl
  · simp [Ans.no, Ans.run] at h


/-! loop.example/headtrees/spec.PairsApart -/

def spec_PairsApart_an : Ann := (.seq (.leaf [0]) (.seq (.seq (.leaf [0, 8]) (.cond (.seq (.leaf [2]) (.leaf [2])) (.leaf [0]))) (.seq (.leaf [0, 3]) (.seq (.leaf [3, 4]) (.seq (.seq (.leaf [3, 4, 5]) (.block (.loop (.seq (.seq (.leaf [3, 4, 5, 22]) (.cond (.leaf [3, 4, 5]) (.leaf [3]))) (.seq (.block (.draw [] [0, 1, 2, 3, 4, 5, 6, 7, 8, 9, 10, 11, 12, 13] [] [3, 4, 5])) (.leaf [3, 4, 5])))))) (.seq (.leaf [2]) (.leaf [2])))))))

noncomputable def spec_PairsApart_ctx : Ctx := ⟨tlook tys, olook [(42, F_spec_TreeOk), (15, F_spec_EndsOf)], ioF, 0, false, []⟩

theorem spec_PairsApart_n1_l (x2533 : List Int) : Link spec_PairsApart_ctx LL (Code.seq (cq [0] (bodyOf Try.f21)) (Code.seq (cq [0,1] (bodyOf Try.f21)) (Code.seq (cq [0,1,1] (bodyOf Try.f21)) (cq [0,1,1,1] (bodyOf Try.f21))))) (Ann.seq (aq [0] spec_PairsApart_an) (Ann.seq (aq [0,1] spec_PairsApart_an) (Ann.seq (aq [0,1,1] spec_PairsApart_an) (aq [0,1,1,1] spec_PairsApart_an)))) ⟨mkE 39 0 [(0, dL x2533)], []⟩ (spec_PairsApart_n1 x2533) (Sum.elim (fun (t : Int × (List Int)) => (Exit.normal, ⟨mkE 39 0 [(3, dI t.1), (4, .slc 0)], [some (sI t.2)]⟩)) (fun (t : Int) => (Exit.ret, ⟨mkE 39 0 [(2, dI t)], []⟩))) := .of fun K h => by
  simp only [spec_PairsApart_n1, wpW] at h
  exact .of (by kernel_rfl) h

theorem spec_PairsApart_n2_l (x2551 : Int) (x2552 : List Int) : Link spec_PairsApart_ctx LL (cq [0,0,1,1,1,1] (bodyOf Try.f21)) (aq [0,0,1,1,1,1] spec_PairsApart_an) ⟨mkE 39 0 [(3, dI x2551), (4, .slc 0)], [some (sI x2552)]⟩ (spec_PairsApart_n2) (fun (t : Unit) => (Exit.normal, ⟨mkE 39 0 [(3, dI x2551), (4, .slc 0), (5, dI 0)], [some (sI x2552)]⟩)) := .of fun K h => by
  simp only [spec_PairsApart_n2, wpW] at h
  exact .of (by kernel_rfl) h

theorem spec_PairsApart_n3_l (x2576 : Int) (x2577 : Int) (x2552 : List Int) : Link spec_PairsApart_ctx LL (cq [0,0,1,0,1,1,1,1] (bodyOf Try.f21)) (aq [0,0,1,0,1,1,1,1] spec_PairsApart_an) ⟨mkE 39 0 [(3, dI x2576), (4, .slc 0), (5, dI x2577)], [some (sI x2552)]⟩ (spec_PairsApart_n3 x2576 x2577 x2552) (Sum.elim (fun (t : Int × Int) => (Exit.normal, ⟨mkE 39 0 [(3, dI t.1), (4, .slc 0), (5, dI t.2)], [some (sI x2552)]⟩)) (fun (t : Int) => ((Exit.exit 0), ⟨mkE 39 0 [(3, dI t)], []⟩))) := .of fun K h => by
  simp only [spec_PairsApart_n3, wpW] at h
  exact .of (by kernel_rfl) h

def spec_PairsApart_n4_l (x2551 : Int) (x2552 : List Int) := (link_loop (mk := fun (s : Int × Int) => ⟨mkE 39 0 [(3, dI s.1), (4, .slc 0), (5, dI s.2)], [some (sI x2552)]⟩) (fin := (fun (t : Int) => ((Exit.exit 0), ⟨mkE 39 0 [(3, dI t)], []⟩))) (by
  rintro t f K h
  · exact h) (fun s => link_map (spec_PairsApart_n3_l s.1 s.2 x2552) (Sum.elim (fun (t : Int × Int) => Sum.inl (t.1, t.2)) (fun (t : Int) => Sum.inr t)) (by
  rintro (t | t)
  · kernel_rfl
  · kernel_rfl)) (x2551, 0))

def spec_PairsApart_n5_l (x2551 : Int) (x2552 : List Int) := (link_block (fin2 := (fun (t : Int) => (Exit.normal, ⟨mkE 39 0 [(3, dI t)], []⟩))) (id := 0) (spec_PairsApart_n4_l x2551 x2552) (fun (t : Int) => t) (by
  rintro t K h
  · exact Eq.mp (by kernel_rfl) h))

def spec_PairsApart_n6_l (x2551 : Int) (x2552 : List Int) := (link_seq (spec_PairsApart_n2_l x2551 x2552) (fun (t : Unit) => (spec_PairsApart_n5_l x2551 x2552)))

theorem spec_PairsApart_n7_l (x2576 : Int) : Link spec_PairsApart_ctx LL (cq [1,1,1,1,1] (bodyOf Try.f21)) (aq [1,1,1,1,1] spec_PairsApart_an) ⟨mkE 39 0 [(3, dI x2576)], []⟩ (spec_PairsApart_n7 x2576) (fun (t : Int) => (Exit.ret, ⟨mkE 39 0 [(2, dI t)], []⟩)) := .of fun K h => by
  simp only [spec_PairsApart_n7, wpW] at h
  exact .of (by kernel_rfl) h

def spec_PairsApart_n8_l (x2551 : Int) (x2552 : List Int) := (link_seq (spec_PairsApart_n6_l x2551 x2552) (fun (t : Int) => (spec_PairsApart_n7_l t)))

def spec_PairsApart_n9_l (x2533 : List Int) := (link_group (c := (cq [0,1,1,1] (bodyOf Try.f21))) (a := (aq [0,1,1,1] spec_PairsApart_an)) [(cq [0] (bodyOf Try.f21)), (cq [0,1] (bodyOf Try.f21)), (cq [0,1,1] (bodyOf Try.f21))] [(aq [0] spec_PairsApart_an), (aq [0,1] spec_PairsApart_an), (aq [0,1,1] spec_PairsApart_an)] rfl (link_seq2 (spec_PairsApart_n1_l x2533) (fun (t : Int × (List Int)) => (spec_PairsApart_n8_l t.1 t.2)) (fun (t : Int) => t) (by
  rintro t
  · kernel_rfl) (by
  rintro t f K h
  · exact h)))

theorem spec_PairsApart_e (x2533 : List Int) {r : AV} {H' : Heap} (h : (Ans.mk _ (spec_PairsApart x2533) (fun (t : Int) => (dI t, [])) [] none).run = some (r, H')) : Awp spec_PairsApart_ctx LL (bodyOf Try.f21) spec_PairsApart_an ⟨mkE 39 0 [(0, dL x2533)], []⟩ (Ret (tlook tys) Try.f21.results.toList r H') :=
  ret_of' (Link.cast (by kernel_rfl) (by kernel_rfl) (spec_PairsApart_n9_l x2533)) (by unfold spec_PairsApart; kernel_rfl) (by
  intro t
  exact ret_mk [dI t] (by kernel_rfl) (by kernel_rfl) (by kernel_rfl) (by kernel_rfl)) h

def F_spec_PairsApart : Fun := fun avs H =>
  match avs, H with
  | [.dat (.list (.int .i64)) x2533], [] => ⟨_, spec_PairsApart x2533, fun (t : Int) => (dI t, []), [], none⟩
  | _, _ => Ans.no

theorem spec_PairsApart_sound : Sound Try.prog 21 F_spec_PairsApart := by
  refine fn_sound' (C := spec_PairsApart_ctx) (c := bodyOf Try.f21) (cok_of tys_ok (allc spec_TreeOk_sound (allc spec_EndsOf_sound alln)) (allc Try.call42 (allc Try.call15 alln)) (by kernel_rfl)) Try.func21 (by kernel_rfl) LL spec_PairsApart_an ?_
  intro avs H r H' h
  unfold F_spec_PairsApart at h
  split at h
  · refine Awp.cast ?_ ?_ ?_ (spec_PairsApart_e _ h) <;> kernel_rfl
  · simp [Ans.no, Ans.run] at h


/-! (loop.example/headtrees/impl.arc).covers -/

def impl_arc_covers_an : Ann := (.seq (.leaf [1, 2]) (.seq (.leaf [4]) (.leaf [4])))

noncomputable def impl_arc_covers_ctx : Ctx := ⟨tlook tys, olook [], ioF, 0, false, []⟩

theorem impl_arc_covers_n1_l (x2663 : Int) (x2664 : Int) (x2665 : Int) : Link impl_arc_covers_ctx LL (bodyOf Try.f67) impl_arc_covers_an ⟨mkE 15 0 [(0, .agg [dI x2663, dI x2664]), (1, dI x2665)], []⟩ (impl_arc_covers_n1 x2663 x2664 x2665) (fun (t : Bool) => (Exit.ret, ⟨mkE 15 0 [(4, dB t)], []⟩)) := .of fun K h => by
  simp only [impl_arc_covers_n1, wpW] at h
  exact .of (by kernel_rfl) h

theorem impl_arc_covers_e (x2663 : Int) (x2664 : Int) (x2665 : Int) {r : AV} {H' : Heap} (h : (Ans.mk _ (impl_arc_covers x2663 x2664 x2665) (fun (t : Bool) => (dB t, [])) [] none).run = some (r, H')) : Awp impl_arc_covers_ctx LL (bodyOf Try.f67) impl_arc_covers_an ⟨mkE 15 0 [(0, .agg [dI x2663, dI x2664]), (1, dI x2665)], []⟩ (Ret (tlook tys) Try.f67.results.toList r H') :=
  ret_of' (impl_arc_covers_n1_l x2663 x2664 x2665) (by unfold impl_arc_covers; kernel_rfl) (by
  intro t
  exact ret_mk [dB t] (by kernel_rfl) (by kernel_rfl) (by kernel_rfl) (by kernel_rfl)) h

def F_impl_arc_covers : Fun := fun avs H =>
  match avs, H with
  | [.agg [.dat (.int .i64) x2663, .dat (.int .i64) x2664], .dat (.int .i64) x2665], [] => ⟨_, impl_arc_covers x2663 x2664 x2665, fun (t : Bool) => (dB t, []), [], none⟩
  | _, _ => Ans.no

theorem impl_arc_covers_sound : Sound Try.prog 67 F_impl_arc_covers := by
  refine fn_sound' (C := impl_arc_covers_ctx) (c := bodyOf Try.f67) (cok_of tys_ok (alln) (alln) (by kernel_rfl)) Try.func67 (by kernel_rfl) LL impl_arc_covers_an ?_
  intro avs H r H' h
  unfold F_impl_arc_covers at h
  split at h
  · refine Awp.cast ?_ ?_ ?_ (impl_arc_covers_e _ _ _ h) <;> kernel_rfl
  · simp [Ans.no, Ans.run] at h


/-! (loop.example/headtrees/impl.arc).leavesOut -/

def impl_arc_leavesOut_an : Ann := (.seq (.leaf [1, 2]) (.seq (.leaf [4]) (.leaf [4])))

noncomputable def impl_arc_leavesOut_ctx : Ctx := ⟨tlook tys, olook [], ioF, 0, false, []⟩

theorem impl_arc_leavesOut_n1_l (x2672 : Int) (x2673 : Int) (x2674 : Int) : Link impl_arc_leavesOut_ctx LL (bodyOf Try.f68) impl_arc_leavesOut_an ⟨mkE 15 0 [(0, .agg [dI x2672, dI x2673]), (1, dI x2674)], []⟩ (impl_arc_leavesOut_n1 x2672 x2673 x2674) (fun (t : Bool) => (Exit.ret, ⟨mkE 15 0 [(4, dB t)], []⟩)) := .of fun K h => by
  simp only [impl_arc_leavesOut_n1, wpW] at h
  exact .of (by kernel_rfl) h

theorem impl_arc_leavesOut_e (x2672 : Int) (x2673 : Int) (x2674 : Int) {r : AV} {H' : Heap} (h : (Ans.mk _ (impl_arc_leavesOut x2672 x2673 x2674) (fun (t : Bool) => (dB t, [])) [] none).run = some (r, H')) : Awp impl_arc_leavesOut_ctx LL (bodyOf Try.f68) impl_arc_leavesOut_an ⟨mkE 15 0 [(0, .agg [dI x2672, dI x2673]), (1, dI x2674)], []⟩ (Ret (tlook tys) Try.f68.results.toList r H') :=
  ret_of' (impl_arc_leavesOut_n1_l x2672 x2673 x2674) (by unfold impl_arc_leavesOut; kernel_rfl) (by
  intro t
  exact ret_mk [dB t] (by kernel_rfl) (by kernel_rfl) (by kernel_rfl) (by kernel_rfl)) h

def F_impl_arc_leavesOut : Fun := fun avs H =>
  match avs, H with
  | [.agg [.dat (.int .i64) x2672, .dat (.int .i64) x2673], .dat (.int .i64) x2674], [] => ⟨_, impl_arc_leavesOut x2672 x2673 x2674, fun (t : Bool) => (dB t, []), [], none⟩
  | _, _ => Ans.no

theorem impl_arc_leavesOut_sound : Sound Try.prog 68 F_impl_arc_leavesOut := by
  refine fn_sound' (C := impl_arc_leavesOut_ctx) (c := bodyOf Try.f68) (cok_of tys_ok (alln) (alln) (by kernel_rfl)) Try.func68 (by kernel_rfl) LL impl_arc_leavesOut_an ?_
  intro avs H r H' h
  unfold F_impl_arc_leavesOut at h
  split at h
  · refine Awp.cast ?_ ?_ ?_ (impl_arc_leavesOut_e _ _ _ h) <;> kernel_rfl
  · simp [Ans.no, Ans.run] at h


/-! (loop.example/headtrees/impl.arc).crosses -/

def impl_arc_crosses_an : Ann := (.seq (.leaf [2, 3]) (.seq (.leaf [4]) (.leaf [4])))

noncomputable def impl_arc_crosses_ctx : Ctx := ⟨tlook tys, olook [(67, F_impl_arc_covers), (68, F_impl_arc_leavesOut)], ioF, 0, false, []⟩

theorem impl_arc_crosses_n1_l (x2659 : Int) (x2660 : Int) (x2661 : Int) (x2662 : Int) : Link impl_arc_crosses_ctx LL (bodyOf Try.f48) impl_arc_crosses_an ⟨mkE 27 0 [(0, .agg [dI x2659, dI x2660]), (1, .agg [dI x2661, dI x2662])], []⟩ (impl_arc_crosses_n1 x2659 x2660 x2661 x2662) (fun (t : Bool) => (Exit.ret, ⟨mkE 27 0 [(4, dB t)], []⟩)) := .of fun K h => by
  simp only [impl_arc_crosses_n1, wpW] at h
  exact .of (by kernel_rfl) h

theorem impl_arc_crosses_e (x2659 : Int) (x2660 : Int) (x2661 : Int) (x2662 : Int) {r : AV} {H' : Heap} (h : (Ans.mk _ (impl_arc_crosses x2659 x2660 x2661 x2662) (fun (t : Bool) => (dB t, [])) [] none).run = some (r, H')) : Awp impl_arc_crosses_ctx LL (bodyOf Try.f48) impl_arc_crosses_an ⟨mkE 27 0 [(0, .agg [dI x2659, dI x2660]), (1, .agg [dI x2661, dI x2662])], []⟩ (Ret (tlook tys) Try.f48.results.toList r H') :=
  ret_of' (impl_arc_crosses_n1_l x2659 x2660 x2661 x2662) (by unfold impl_arc_crosses; kernel_rfl) (by
  intro t
  exact ret_mk [dB t] (by kernel_rfl) (by kernel_rfl) (by kernel_rfl) (by kernel_rfl)) h

def F_impl_arc_crosses : Fun := fun avs H =>
  match avs, H with
  | [.agg [.dat (.int .i64) x2659, .dat (.int .i64) x2660], .agg [.dat (.int .i64) x2661, .dat (.int .i64) x2662]], [] => ⟨_, impl_arc_crosses x2659 x2660 x2661 x2662, fun (t : Bool) => (dB t, []), [], none⟩
  | _, _ => Ans.no

theorem impl_arc_crosses_sound : Sound Try.prog 48 F_impl_arc_crosses := by
  refine fn_sound' (C := impl_arc_crosses_ctx) (c := bodyOf Try.f48) (cok_of tys_ok (allc impl_arc_covers_sound (allc impl_arc_leavesOut_sound alln)) (allc Try.call67 (allc Try.call68 alln)) (by kernel_rfl)) Try.func48 (by kernel_rfl) LL impl_arc_crosses_an ?_
  intro avs H r H' h
  unfold F_impl_arc_crosses at h
  split at h
  · refine Awp.cast ?_ ?_ ?_ (impl_arc_crosses_e _ _ _ _ h) <;> kernel_rfl
  · simp [Ans.no, Ans.run] at h


/-! loop.example/headtrees/impl.countPairs[loop.example/headtrees/impl.arc] -/

def impl_countPairs_impl_arc_an : Ann := (.seq (.leaf [0, 1]) (.seq (.leaf [0, 1, 5]) (.seq (.seq (.leaf [0, 1, 5, 10, 11, 12]) (.block (.loop (.seq (.leaf [0, 1, 5, 10, 11, 12, 13]) (.seq (.cond (.leaf [0, 1, 5, 10, 11, 12]) (.leaf [5])) (.seq (.block (.seq (.leaf [0, 1, 5, 6, 7, 10, 11, 12]) (.seq (.leaf [0, 1, 5, 7, 10, 11, 12, 20, 21, 22]) (.block (.loop (.seq (.leaf [0, 1, 5, 7, 10, 11, 12, 20, 21, 22, 23]) (.seq (.cond (.leaf [0, 1, 5, 7, 10, 11, 12, 20, 21, 22]) (.leaf [0, 1, 5, 10, 11, 12])) (.seq (.block (.seq (.leaf [0, 1, 5, 7, 9, 10, 11, 12, 20, 21, 22]) (.seq (.leaf [0, 1, 5, 7, 10, 11, 12, 20, 21, 22, 29]) (.cond (.leaf [0, 1, 5, 7, 10, 11, 12, 20, 21, 22]) (.leaf [0, 1, 5, 7, 10, 11, 12, 20, 21, 22]))))) (.leaf [0, 1, 5, 7, 10, 11, 12, 20, 21, 22]))))))))) (.leaf [0, 1, 5, 10, 11, 12]))))))) (.seq (.leaf [4]) (.leaf [4])))))

noncomputable def impl_countPairs_impl_arc_ctx : Ctx := ⟨tlook tys, olook [(48, F_impl_arc_crosses)], ioF, 0, false, []⟩

theorem impl_countPairs_impl_arc_n1_l (x2632 : List (Int × Int × Unit)) : Link impl_countPairs_impl_arc_ctx LL (Code.seq (cq [0] (bodyOf Try.f47)) (cq [0,1] (bodyOf Try.f47))) (Ann.seq (aq [0] impl_countPairs_impl_arc_an) (aq [0,1] impl_countPairs_impl_arc_an)) ⟨mkE 35 0 [(0, .dat (.list (.pair (.int .i64) (.pair (.int .i64) .unit))) x2632), (1, .fn 48 [] [])], []⟩ (impl_countPairs_impl_arc_n1) (fun (t : Unit) => (Exit.normal, ⟨mkE 35 0 [(0, .dat (.list (.pair (.int .i64) (.pair (.int .i64) .unit))) x2632), (1, .fn 48 [] []), (5, dI 0)], []⟩)) := .of fun K h => by
  simp only [impl_countPairs_impl_arc_n1, wpW] at h
  exact .of (by kernel_rfl) h

theorem impl_countPairs_impl_arc_n2_l (x2632 : List (Int × Int × Unit)) : Link impl_countPairs_impl_arc_ctx LL (cq [0,0,1,1] (bodyOf Try.f47)) (aq [0,0,1,1] impl_countPairs_impl_arc_an) ⟨mkE 35 0 [(0, .dat (.list (.pair (.int .i64) (.pair (.int .i64) .unit))) x2632), (1, .fn 48 [] []), (5, dI 0)], []⟩ (impl_countPairs_impl_arc_n2 x2632) (fun (t : Int) => (Exit.normal, ⟨mkE 35 0 [(0, .dat (.list (.pair (.int .i64) (.pair (.int .i64) .unit))) x2632), (1, .fn 48 [] []), (5, dI 0), (10, .dat (.list (.pair (.int .i64) (.pair (.int .i64) .unit))) x2632), (11, dI t), (12, dI 0)], []⟩)) := .of fun K h => by
  simp only [impl_countPairs_impl_arc_n2, wpW] at h
  exact .of (by kernel_rfl) h

theorem impl_countPairs_impl_arc_n3_l (x2632 : List (Int × Int × Unit)) (x2731 : Int) (x2633 : Int) (x2732 : Int) : Link impl_countPairs_impl_arc_ctx LL (Code.seq (cq [0,0,0,1,0,1,1] (bodyOf Try.f47)) (cq [0,1,0,0,1,0,1,1] (bodyOf Try.f47))) (Ann.seq (aq [0,0,0,1,0,1,1] impl_countPairs_impl_arc_an) (aq [0,1,0,0,1,0,1,1] impl_countPairs_impl_arc_an)) ⟨mkE 35 0 [(0, .dat (.list (.pair (.int .i64) (.pair (.int .i64) .unit))) x2632), (1, .fn 48 [] []), (5, dI x2731), (10, .dat (.list (.pair (.int .i64) (.pair (.int .i64) .unit))) x2632), (11, dI x2633), (12, dI x2732)], []⟩ (impl_countPairs_impl_arc_n3 x2731 x2633 x2732) (Sum.elim (fun (t : Unit) => (Exit.normal, ⟨mkE 35 0 [(0, .dat (.list (.pair (.int .i64) (.pair (.int .i64) .unit))) x2632), (1, .fn 48 [] []), (5, dI x2731), (10, .dat (.list (.pair (.int .i64) (.pair (.int .i64) .unit))) x2632), (11, dI x2633), (12, dI x2732)], []⟩)) (fun (t : Int) => ((Exit.exit 0), ⟨mkE 35 0 [(5, dI t)], []⟩))) := .of fun K h => by
  simp only [impl_countPairs_impl_arc_n3, wpW] at h
  exact .of (by kernel_rfl) h

theorem impl_countPairs_impl_arc_n4_l (x2632 : List (Int × Int × Unit)) (x2731 : Int) (x2633 : Int) (x2732 : Int) : Link impl_countPairs_impl_arc_ctx LL (Code.seq (cq [0,0,0,1,1,0,0,1,0,1,1] (bodyOf Try.f47)) (cq [0,1,0,0,1,1,0,0,1,0,1,1] (bodyOf Try.f47))) (Ann.seq (aq [0,0,0,1,1,0,0,1,0,1,1] impl_countPairs_impl_arc_an) (aq [0,1,0,0,1,1,0,0,1,0,1,1] impl_countPairs_impl_arc_an)) ⟨mkE 35 0 [(0, .dat (.list (.pair (.int .i64) (.pair (.int .i64) .unit))) x2632), (1, .fn 48 [] []), (5, dI x2731), (10, .dat (.list (.pair (.int .i64) (.pair (.int .i64) .unit))) x2632), (11, dI x2633), (12, dI x2732)], []⟩ (impl_countPairs_impl_arc_n4 x2632 x2732) (fun (t : (List (Int × Int × Unit)) × Int × Int × Int) => (Exit.normal, ⟨mkE 35 0 [(0, .dat (.list (.pair (.int .i64) (.pair (.int .i64) .unit))) x2632), (1, .fn 48 [] []), (5, dI x2731), (7, .ptr 0 0), (10, .dat (.list (.pair (.int .i64) (.pair (.int .i64) .unit))) x2632), (11, dI x2633), (12, dI x2732), (20, .dat (.list (.pair (.int .i64) (.pair (.int .i64) .unit))) t.1), (21, dI t.2.1), (22, dI 0)], [some (.box [dI t.2.2.1, dI t.2.2.2])]⟩)) := .of fun K h => by
  simp only [impl_countPairs_impl_arc_n4, wpW] at h
  exact .of (by kernel_rfl) h

theorem impl_countPairs_impl_arc_n5_l (x2632 : List (Int × Int × Unit)) (x2772 : Int) (x2633 : Int) (x2732 : Int) (x2748 : List (Int × Int × Unit)) (x2749 : Int) (x2773 : Int) (x2741 : Int) (x2743 : Int) : Link impl_countPairs_impl_arc_ctx LL (cq [0,0,1,1,0,0,1,1,0,0,1,0,1,1] (bodyOf Try.f47)) (aq [0,0,1,1,0,0,1,1,0,0,1,0,1,1] impl_countPairs_impl_arc_an) ⟨mkE 35 0 [(0, .dat (.list (.pair (.int .i64) (.pair (.int .i64) .unit))) x2632), (1, .fn 48 [] []), (5, dI x2772), (7, .ptr 0 0), (10, .dat (.list (.pair (.int .i64) (.pair (.int .i64) .unit))) x2632), (11, dI x2633), (12, dI x2732), (20, .dat (.list (.pair (.int .i64) (.pair (.int .i64) .unit))) x2748), (21, dI x2749), (22, dI x2773)], [some (.box [dI x2741, dI x2743])]⟩ (impl_countPairs_impl_arc_n5 x2772 x2748 x2749 x2773 x2741 x2743) (Sum.elim (fun (t : Int × Int) => (Exit.normal, ⟨mkE 35 0 [(0, .dat (.list (.pair (.int .i64) (.pair (.int .i64) .unit))) x2632), (1, .fn 48 [] []), (5, dI t.1), (7, .ptr 0 0), (10, .dat (.list (.pair (.int .i64) (.pair (.int .i64) .unit))) x2632), (11, dI x2633), (12, dI x2732), (20, .dat (.list (.pair (.int .i64) (.pair (.int .i64) .unit))) x2748), (21, dI x2749), (22, dI t.2)], [some (.box [dI x2741, dI x2743])]⟩)) (fun (t : Int) => ((Exit.exit 2), ⟨mkE 35 0 [(0, .dat (.list (.pair (.int .i64) (.pair (.int .i64) .unit))) x2632), (1, .fn 48 [] []), (5, dI t), (10, .dat (.list (.pair (.int .i64) (.pair (.int .i64) .unit))) x2632), (11, dI x2633), (12, dI x2732)], []⟩))) := .of fun K h => by
  simp only [impl_countPairs_impl_arc_n5, wpW] at h
  exact .of (by kernel_rfl) h

def impl_countPairs_impl_arc_n6_l (x2632 : List (Int × Int × Unit)) (x2731 : Int) (x2633 : Int) (x2732 : Int) (x2748 : List (Int × Int × Unit)) (x2749 : Int) (x2741 : Int) (x2743 : Int) := (link_loop (mk := fun (s : Int × Int) => ⟨mkE 35 0 [(0, .dat (.list (.pair (.int .i64) (.pair (.int .i64) .unit))) x2632), (1, .fn 48 [] []), (5, dI s.1), (7, .ptr 0 0), (10, .dat (.list (.pair (.int .i64) (.pair (.int .i64) .unit))) x2632), (11, dI x2633), (12, dI x2732), (20, .dat (.list (.pair (.int .i64) (.pair (.int .i64) .unit))) x2748), (21, dI x2749), (22, dI s.2)], [some (.box [dI x2741, dI x2743])]⟩) (fin := (fun (t : Int) => ((Exit.exit 2), ⟨mkE 35 0 [(0, .dat (.list (.pair (.int .i64) (.pair (.int .i64) .unit))) x2632), (1, .fn 48 [] []), (5, dI t), (10, .dat (.list (.pair (.int .i64) (.pair (.int .i64) .unit))) x2632), (11, dI x2633), (12, dI x2732)], []⟩))) (by
  rintro t f K h
  · exact h) (fun s => link_map (impl_countPairs_impl_arc_n5_l x2632 s.1 x2633 x2732 x2748 x2749 s.2 x2741 x2743) (Sum.elim (fun (t : Int × Int) => Sum.inl (t.1, t.2)) (fun (t : Int) => Sum.inr t)) (by
  rintro (t | t)
  · kernel_rfl
  · kernel_rfl)) (x2731, 0))

def impl_countPairs_impl_arc_n7_l (x2632 : List (Int × Int × Unit)) (x2731 : Int) (x2633 : Int) (x2732 : Int) (x2748 : List (Int × Int × Unit)) (x2749 : Int) (x2741 : Int) (x2743 : Int) := (link_block (fin2 := (fun (t : Int) => (Exit.normal, ⟨mkE 35 0 [(0, .dat (.list (.pair (.int .i64) (.pair (.int .i64) .unit))) x2632), (1, .fn 48 [] []), (5, dI t), (10, .dat (.list (.pair (.int .i64) (.pair (.int .i64) .unit))) x2632), (11, dI x2633), (12, dI x2732)], []⟩))) (id := 2) (impl_countPairs_impl_arc_n6_l x2632 x2731 x2633 x2732 x2748 x2749 x2741 x2743) (fun (t : Int) => t) (by
  rintro t K h
  · exact Eq.mp (by kernel_rfl) h))

def impl_countPairs_impl_arc_n8_l (x2632 : List (Int × Int × Unit)) (x2731 : Int) (x2633 : Int) (x2732 : Int) := (link_group (c := (cq [0,1,0,0,1,1,0,0,1,0,1,1] (bodyOf Try.f47))) (a := (aq [0,1,0,0,1,1,0,0,1,0,1,1] impl_countPairs_impl_arc_an)) [(cq [0,0,0,1,1,0,0,1,0,1,1] (bodyOf Try.f47))] [(aq [0,0,0,1,1,0,0,1,0,1,1] impl_countPairs_impl_arc_an)] rfl (link_seq (impl_countPairs_impl_arc_n4_l x2632 x2731 x2633 x2732) (fun (t : (List (Int × Int × Unit)) × Int × Int × Int) => (impl_countPairs_impl_arc_n7_l x2632 x2731 x2633 x2732 t.1 t.2.1 t.2.2.1 t.2.2.2))))

def impl_countPairs_impl_arc_n9_l (x2632 : List (Int × Int × Unit)) (x2731 : Int) (x2633 : Int) (x2732 : Int) := (link_block (fin2 := (fun (t : Int) => (Exit.normal, ⟨mkE 35 0 [(0, .dat (.list (.pair (.int .i64) (.pair (.int .i64) .unit))) x2632), (1, .fn 48 [] []), (5, dI t), (10, .dat (.list (.pair (.int .i64) (.pair (.int .i64) .unit))) x2632), (11, dI x2633), (12, dI x2732)], []⟩))) (id := 1) (impl_countPairs_impl_arc_n8_l x2632 x2731 x2633 x2732) (fun (t : Int) => t) (by
  rintro t K h
  · exact Eq.mp (by kernel_rfl) h))

theorem impl_countPairs_impl_arc_n10_l (x2632 : List (Int × Int × Unit)) (x2772 : Int) (x2633 : Int) (x2732 : Int) : Link impl_countPairs_impl_arc_ctx LL (cq [1,1,1,0,0,1,0,1,1] (bodyOf Try.f47)) (aq [1,1,1,0,0,1,0,1,1] impl_countPairs_impl_arc_an) ⟨mkE 35 0 [(0, .dat (.list (.pair (.int .i64) (.pair (.int .i64) .unit))) x2632), (1, .fn 48 [] []), (5, dI x2772), (10, .dat (.list (.pair (.int .i64) (.pair (.int .i64) .unit))) x2632), (11, dI x2633), (12, dI x2732)], []⟩ (impl_countPairs_impl_arc_n10 x2732) (fun (t : Int) => (Exit.normal, ⟨mkE 35 0 [(0, .dat (.list (.pair (.int .i64) (.pair (.int .i64) .unit))) x2632), (1, .fn 48 [] []), (5, dI x2772), (10, .dat (.list (.pair (.int .i64) (.pair (.int .i64) .unit))) x2632), (11, dI x2633), (12, dI t)], []⟩)) := .of fun K h => by
  simp only [impl_countPairs_impl_arc_n10, wpW] at h
  exact .of (by kernel_rfl) h

def impl_countPairs_impl_arc_n11_l (x2632 : List (Int × Int × Unit)) (x2731 : Int) (x2633 : Int) (x2732 : Int) := (link_seq (impl_countPairs_impl_arc_n9_l x2632 x2731 x2633 x2732) (fun (t : Int) => (link_map (fin2 := (fun (t : Int × Int) => (Exit.normal, ⟨mkE 35 0 [(0, .dat (.list (.pair (.int .i64) (.pair (.int .i64) .unit))) x2632), (1, .fn 48 [] []), (5, dI t.1), (10, .dat (.list (.pair (.int .i64) (.pair (.int .i64) .unit))) x2632), (11, dI x2633), (12, dI t.2)], []⟩))) (impl_countPairs_impl_arc_n10_l x2632 t x2633 x2732) (fun (u : Int) => (t, u)) (by
  rintro t
  · kernel_rfl))))

def impl_countPairs_impl_arc_n12_l (x2632 : List (Int × Int × Unit)) (x2731 : Int) (x2633 : Int) (x2732 : Int) := (link_group (c := (cq [0,1,0,0,1,0,1,1] (bodyOf Try.f47))) (a := (aq [0,1,0,0,1,0,1,1] impl_countPairs_impl_arc_an)) [(cq [0,0,0,1,0,1,1] (bodyOf Try.f47))] [(aq [0,0,0,1,0,1,1] impl_countPairs_impl_arc_an)] rfl (link_seq2 (impl_countPairs_impl_arc_n3_l x2632 x2731 x2633 x2732) (fun (t : Unit) => (link_map (fin2 := (Sum.elim (fun (t : Int × Int) => (Exit.normal, ⟨mkE 35 0 [(0, .dat (.list (.pair (.int .i64) (.pair (.int .i64) .unit))) x2632), (1, .fn 48 [] []), (5, dI t.1), (10, .dat (.list (.pair (.int .i64) (.pair (.int .i64) .unit))) x2632), (11, dI x2633), (12, dI t.2)], []⟩)) (fun (t : Int) => ((Exit.exit 0), ⟨mkE 35 0 [(5, dI t)], []⟩)))) (impl_countPairs_impl_arc_n11_l x2632 x2731 x2633 x2732) (fun (t : Int × Int) => (Sum.inl (t.1, t.2))) (by
  rintro t
  · kernel_rfl))) (fun (t : Int) => (Sum.inr t)) (by
  rintro t
  · kernel_rfl) (by
  rintro t f K h
  · exact h)))

def impl_countPairs_impl_arc_n13_l (x2632 : List (Int × Int × Unit)) (x2633 : Int) := (link_loop (mk := fun (s : Int × Int) => ⟨mkE 35 0 [(0, .dat (.list (.pair (.int .i64) (.pair (.int .i64) .unit))) x2632), (1, .fn 48 [] []), (5, dI s.1), (10, .dat (.list (.pair (.int .i64) (.pair (.int .i64) .unit))) x2632), (11, dI x2633), (12, dI s.2)], []⟩) (fin := (fun (t : Int) => ((Exit.exit 0), ⟨mkE 35 0 [(5, dI t)], []⟩))) (by
  rintro t f K h
  · exact h) (fun s => link_map (impl_countPairs_impl_arc_n12_l x2632 s.1 x2633 s.2) (Sum.elim (fun (t : Int × Int) => Sum.inl (t.1, t.2)) (fun (t : Int) => Sum.inr t)) (by
  rintro (t | t)
  · kernel_rfl
  · kernel_rfl)) (0, 0))

def impl_countPairs_impl_arc_n14_l (x2632 : List (Int × Int × Unit)) (x2633 : Int) := (link_block (fin2 := (fun (t : Int) => (Exit.normal, ⟨mkE 35 0 [(5, dI t)], []⟩))) (id := 0) (impl_countPairs_impl_arc_n13_l x2632 x2633) (fun (t : Int) => t) (by
  rintro t K h
  · exact Eq.mp (by kernel_rfl) h))

def impl_countPairs_impl_arc_n15_l (x2632 : List (Int × Int × Unit)) := (link_seq (impl_countPairs_impl_arc_n2_l x2632) (fun (t : Int) => (impl_countPairs_impl_arc_n14_l x2632 t)))

theorem impl_countPairs_impl_arc_n16_l (x2731 : Int) : Link impl_countPairs_impl_arc_ctx LL (cq [1,1,1] (bodyOf Try.f47)) (aq [1,1,1] impl_countPairs_impl_arc_an) ⟨mkE 35 0 [(5, dI x2731)], []⟩ (impl_countPairs_impl_arc_n16 x2731) (fun (t : Int) => (Exit.ret, ⟨mkE 35 0 [(4, dI t)], []⟩)) := .of fun K h => by
  simp only [impl_countPairs_impl_arc_n16, wpW] at h
  exact .of (by kernel_rfl) h

def impl_countPairs_impl_arc_n17_l (x2632 : List (Int × Int × Unit)) := (link_seq (impl_countPairs_impl_arc_n15_l x2632) (fun (t : Int) => (impl_countPairs_impl_arc_n16_l t)))

def impl_countPairs_impl_arc_n18_l (x2632 : List (Int × Int × Unit)) := (link_group (c := (cq [0,1] (bodyOf Try.f47))) (a := (aq [0,1] impl_countPairs_impl_arc_an)) [(cq [0] (bodyOf Try.f47))] [(aq [0] impl_countPairs_impl_arc_an)] rfl (link_seq (impl_countPairs_impl_arc_n1_l x2632) (fun (t : Unit) => (impl_countPairs_impl_arc_n17_l x2632))))

theorem impl_countPairs_impl_arc_e (x2632 : List (Int × Int × Unit)) {r : AV} {H' : Heap} (h : (Ans.mk _ (impl_countPairs_impl_arc x2632) (fun (t : Int) => (dI t, [])) [] none).run = some (r, H')) : Awp impl_countPairs_impl_arc_ctx LL (bodyOf Try.f47) impl_countPairs_impl_arc_an ⟨mkE 35 0 [(0, .dat (.list (.pair (.int .i64) (.pair (.int .i64) .unit))) x2632), (1, .fn 48 [] [])], []⟩ (Ret (tlook tys) Try.f47.results.toList r H') :=
  ret_of' (Link.cast (by kernel_rfl) (by kernel_rfl) (impl_countPairs_impl_arc_n18_l x2632)) (by unfold impl_countPairs_impl_arc; kernel_rfl) (by
  intro t
  exact ret_mk [dI t] (by kernel_rfl) (by kernel_rfl) (by kernel_rfl) (by kernel_rfl)) h

def F_impl_countPairs_impl_arc : Fun := fun avs H =>
  match avs, H with
  | [.dat (.list (.pair (.int .i64) (.pair (.int .i64) .unit))) x2632, .fn 48 [] []], [] => ⟨_, impl_countPairs_impl_arc x2632, fun (t : Int) => (dI t, []), [], none⟩
  | _, _ => Ans.no

theorem impl_countPairs_impl_arc_sound : Sound Try.prog 47 F_impl_countPairs_impl_arc := by
  refine fn_sound' (C := impl_countPairs_impl_arc_ctx) (c := bodyOf Try.f47) (cok_of tys_ok (allc impl_arc_crosses_sound alln) (allc Try.call48 alln) (by kernel_rfl)) Try.func47 (by kernel_rfl) LL impl_countPairs_impl_arc_an ?_
  intro avs H r H' h
  unfold F_impl_countPairs_impl_arc at h
  split at h
  · refine Awp.cast ?_ ?_ ?_ (impl_countPairs_impl_arc_e _ h) <;> kernel_rfl
  · simp [Ans.no, Ans.run] at h


/-! loop.example/headtrees/impl.CrossingsOf -/

def impl_CrossingsOf_an : Ann := (.seq (.leaf [0]) (.seq (.seq (.leaf [0, 5]) (.cond (.seq (.leaf [2]) (.leaf [2])) (.leaf [0]))) (.seq (.leaf [2]) (.leaf [2]))))

noncomputable def impl_CrossingsOf_ctx : Ctx := ⟨tlook tys, olook [(16, F_impl_TreeOk), (40, F_impl_arcsOf), (47, F_impl_countPairs_impl_arc)], ioF, 0, false, []⟩

theorem impl_CrossingsOf_n1_l (x2626 : List Int) : Link impl_CrossingsOf_ctx LL (bodyOf Try.f22) impl_CrossingsOf_an ⟨mkE 9 0 [(0, dL x2626)], []⟩ (impl_CrossingsOf_n1 x2626) (fun (t : Int) => (Exit.ret, ⟨mkE 9 0 [(2, dI t)], []⟩)) := .of fun K h => by
  simp only [impl_CrossingsOf_n1, wpW] at h
  exact .of (by kernel_rfl) h

theorem impl_CrossingsOf_e (x2626 : List Int) {r : AV} {H' : Heap} (h : (Ans.mk _ (impl_CrossingsOf x2626) (fun (t : Int) => (dI t, [])) [] none).run = some (r, H')) : Awp impl_CrossingsOf_ctx LL (bodyOf Try.f22) impl_CrossingsOf_an ⟨mkE 9 0 [(0, dL x2626)], []⟩ (Ret (tlook tys) Try.f22.results.toList r H') :=
  ret_of' (impl_CrossingsOf_n1_l x2626) (by unfold impl_CrossingsOf; kernel_rfl) (by
  intro t
  exact ret_mk [dI t] (by kernel_rfl) (by kernel_rfl) (by kernel_rfl) (by kernel_rfl)) h

def F_impl_CrossingsOf : Fun := fun avs H =>
  match avs, H with
  | [.dat (.list (.int .i64)) x2626], [] => ⟨_, impl_CrossingsOf x2626, fun (t : Int) => (dI t, []), [], none⟩
  | _, _ => Ans.no

theorem impl_CrossingsOf_sound : Sound Try.prog 22 F_impl_CrossingsOf := by
  refine fn_sound' (C := impl_CrossingsOf_ctx) (c := bodyOf Try.f22) (cok_of tys_ok (allc impl_TreeOk_sound (allc impl_arcsOf_sound (allc impl_countPairs_impl_arc_sound alln))) (allc Try.call16 (allc Try.call40 (allc Try.call47 alln))) (by kernel_rfl)) Try.func22 (by kernel_rfl) LL impl_CrossingsOf_an ?_
  intro avs H r H' h
  unfold F_impl_CrossingsOf at h
  split at h
  · refine Awp.cast ?_ ?_ ?_ (impl_CrossingsOf_e _ h) <;> kernel_rfl
  · simp [Ans.no, Ans.run] at h


/-! loop.example/headtrees/spec.DrawCrossingsSum -/

def spec_DrawCrossingsSum_an : Ann := (.seq (.leaf [0]) (.seq (.leaf [2]) (.leaf [2])))

noncomputable def spec_DrawCrossingsSum_ctx : Ctx := ⟨tlook tys, olook [(38, F_spec_l20Open), (37, F_spec_l20Wild)], ioF, 0, false, []⟩

theorem spec_DrawCrossingsSum_n1_l (x2875 : List Int) : Link spec_DrawCrossingsSum_ctx LL (bodyOf Try.f24) spec_DrawCrossingsSum_an ⟨mkE 6 0 [(0, dV x2875)], []⟩ (spec_DrawCrossingsSum_n1 x2875) (fun (t : (List Int)) => (Exit.ret, ⟨mkE 6 0 [(2, .slc 0)], [some (sI t)]⟩)) := .of fun K h => by
  simp only [spec_DrawCrossingsSum_n1, wpW] at h
  exact .of (by kernel_rfl) h

theorem spec_DrawCrossingsSum_e (x2875 : List Int) {r : AV} {H' : Heap} (h : (Ans.mk _ (spec_DrawCrossingsSum x2875) (fun (t : (List Int)) => (.slc 0, [some (sI t)])) [] none).run = some (r, H')) : Awp spec_DrawCrossingsSum_ctx LL (bodyOf Try.f24) spec_DrawCrossingsSum_an ⟨mkE 6 0 [(0, dV x2875)], []⟩ (Ret (tlook tys) Try.f24.results.toList r H') :=
  ret_of' (spec_DrawCrossingsSum_n1_l x2875) (by unfold spec_DrawCrossingsSum; kernel_rfl) (by
  intro t
  exact ret_mk [.slc 0] (by kernel_rfl) (by kernel_rfl) (by kernel_rfl) (by kernel_rfl)) h

def F_spec_DrawCrossingsSum : Fun := fun avs H =>
  match avs, H with
  | [.dat (.list (.int .u8)) x2875], [] => ⟨_, spec_DrawCrossingsSum x2875, fun (t : (List Int)) => (.slc 0, [some (sI t)]), [], none⟩
  | _, _ => Ans.no

theorem spec_DrawCrossingsSum_sound : Sound Try.prog 24 F_spec_DrawCrossingsSum := by
  refine fn_sound' (C := spec_DrawCrossingsSum_ctx) (c := bodyOf Try.f24) (cok_of tys_ok (allc spec_l20Open_sound (allc spec_l20Wild_sound alln)) (allc Try.call38 (allc Try.call37 alln)) (by kernel_rfl)) Try.func24 (by kernel_rfl) LL spec_DrawCrossingsSum_an ?_
  intro avs H r H' h
  unfold F_spec_DrawCrossingsSum at h
  split at h
  · refine Awp.cast ?_ ?_ ?_ (spec_DrawCrossingsSum_e _ h) <;> kernel_rfl
  · simp [Ans.no, Ans.run] at h


/-! loop.example/headtrees/impl.countOrders -/

def impl_countOrders_an : Ann := (.seq (.leaf [0]) (.seq (.leaf [0, 3]) (.seq (.seq (.leaf [0, 3, 4]) (.block (.loop (.seq (.seq (.leaf [0, 3, 4, 7]) (.cond (.leaf [0, 3, 4]) (.leaf [3]))) (.seq (.block (.leaf [0, 3, 4])) (.leaf [0, 3, 4])))))) (.seq (.leaf [2]) (.leaf [2])))))

noncomputable def impl_countOrders_ctx : Ctx := ⟨tlook tys, olook [], ioF, 0, false, []⟩

theorem impl_countOrders_n1_l (x2894 : Int) : Link impl_countOrders_ctx LL (Code.seq (cq [0] (bodyOf Try.f50)) (cq [0,1] (bodyOf Try.f50))) (Ann.seq (aq [0] impl_countOrders_an) (aq [0,1] impl_countOrders_an)) ⟨mkE 14 0 [(0, dI x2894)], []⟩ (impl_countOrders_n1) (fun (t : Unit) => (Exit.normal, ⟨mkE 14 0 [(0, dI x2894), (3, dI 1)], []⟩)) := .of fun K h => by
  simp only [impl_countOrders_n1, wpW] at h
  exact .of (by kernel_rfl) h

theorem impl_countOrders_n2_l (x2894 : Int) : Link impl_countOrders_ctx LL (cq [0,0,1,1] (bodyOf Try.f50)) (aq [0,0,1,1] impl_countOrders_an) ⟨mkE 14 0 [(0, dI x2894), (3, dI 1)], []⟩ (impl_countOrders_n2) (fun (t : Unit) => (Exit.normal, ⟨mkE 14 0 [(0, dI x2894), (3, dI 1), (4, dI 2)], []⟩)) := .of fun K h => by
  simp only [impl_countOrders_n2, wpW] at h
  exact .of (by kernel_rfl) h

theorem impl_countOrders_n3_l (x2894 : Int) (x2901 : Int) (x2902 : Int) : Link impl_countOrders_ctx LL (cq [0,0,1,0,1,1] (bodyOf Try.f50)) (aq [0,0,1,0,1,1] impl_countOrders_an) ⟨mkE 14 0 [(0, dI x2894), (3, dI x2901), (4, dI x2902)], []⟩ (impl_countOrders_n3 x2894 x2901 x2902) (Sum.elim (fun (t : Int × Int) => (Exit.normal, ⟨mkE 14 0 [(0, dI x2894), (3, dI t.1), (4, dI t.2)], []⟩)) (fun (t : Int) => ((Exit.exit 0), ⟨mkE 14 0 [(3, dI t)], []⟩))) := .of fun K h => by
  simp only [impl_countOrders_n3, wpW] at h
  exact .of (by kernel_rfl) h

def impl_countOrders_n4_l (x2894 : Int) := (link_loop (mk := fun (s : Int × Int) => ⟨mkE 14 0 [(0, dI x2894), (3, dI s.1), (4, dI s.2)], []⟩) (fin := (fun (t : Int) => ((Exit.exit 0), ⟨mkE 14 0 [(3, dI t)], []⟩))) (by
  rintro t f K h
  · exact h) (fun s => link_map (impl_countOrders_n3_l x2894 s.1 s.2) (Sum.elim (fun (t : Int × Int) => Sum.inl (t.1, t.2)) (fun (t : Int) => Sum.inr t)) (by
  rintro (t | t)
  · kernel_rfl
  · kernel_rfl)) (1, 2))

def impl_countOrders_n5_l (x2894 : Int) := (link_block (fin2 := (fun (t : Int) => (Exit.normal, ⟨mkE 14 0 [(3, dI t)], []⟩))) (id := 0) (impl_countOrders_n4_l x2894) (fun (t : Int) => t) (by
  rintro t K h
  · exact Eq.mp (by kernel_rfl) h))

def impl_countOrders_n6_l (x2894 : Int) := (link_seq (impl_countOrders_n2_l x2894) (fun (t : Unit) => (impl_countOrders_n5_l x2894)))

theorem impl_countOrders_n7_l (x2901 : Int) : Link impl_countOrders_ctx LL (cq [1,1,1] (bodyOf Try.f50)) (aq [1,1,1] impl_countOrders_an) ⟨mkE 14 0 [(3, dI x2901)], []⟩ (impl_countOrders_n7 x2901) (fun (t : Int) => (Exit.ret, ⟨mkE 14 0 [(2, dI t)], []⟩)) := .of fun K h => by
  simp only [impl_countOrders_n7, wpW] at h
  exact .of (by kernel_rfl) h

def impl_countOrders_n8_l (x2894 : Int) := (link_seq (impl_countOrders_n6_l x2894) (fun (t : Int) => (impl_countOrders_n7_l t)))

def impl_countOrders_n9_l (x2894 : Int) := (link_group (c := (cq [0,1] (bodyOf Try.f50))) (a := (aq [0,1] impl_countOrders_an)) [(cq [0] (bodyOf Try.f50))] [(aq [0] impl_countOrders_an)] rfl (link_seq (impl_countOrders_n1_l x2894) (fun (t : Unit) => (impl_countOrders_n8_l x2894))))

theorem impl_countOrders_e (x2894 : Int) {r : AV} {H' : Heap} (h : (Ans.mk _ (impl_countOrders x2894) (fun (t : Int) => (dI t, [])) [] none).run = some (r, H')) : Awp impl_countOrders_ctx LL (bodyOf Try.f50) impl_countOrders_an ⟨mkE 14 0 [(0, dI x2894)], []⟩ (Ret (tlook tys) Try.f50.results.toList r H') :=
  ret_of' (Link.cast (by kernel_rfl) (by kernel_rfl) (impl_countOrders_n9_l x2894)) (by unfold impl_countOrders; kernel_rfl) (by
  intro t
  exact ret_mk [dI t] (by kernel_rfl) (by kernel_rfl) (by kernel_rfl) (by kernel_rfl)) h

def F_impl_countOrders : Fun := fun avs H =>
  match avs, H with
  | [.dat (.int .i64) x2894], [] => ⟨_, impl_countOrders x2894, fun (t : Int) => (dI t, []), [], none⟩
  | _, _ => Ans.no

theorem impl_countOrders_sound : Sound Try.prog 50 F_impl_countOrders := by
  refine fn_sound' (C := impl_countOrders_ctx) (c := bodyOf Try.f50) (cok_of tys_ok (alln) (alln) (by kernel_rfl)) Try.func50 (by kernel_rfl) LL impl_countOrders_an ?_
  intro avs H r H' h
  unfold F_impl_countOrders at h
  split at h
  · refine Awp.cast ?_ ?_ ?_ (impl_countOrders_e _ h) <;> kernel_rfl
  · simp [Ans.no, Ans.run] at h


/-! loop.example/headtrees/impl.CrossingsSum -/

def impl_CrossingsSum_an : Ann := (.seq (.leaf [0]) (.seq (.seq (.leaf [0, 5]) (.cond (.seq (.leaf [2]) (.leaf [2])) (.leaf [0]))) (.seq (.leaf [2]) (.leaf [2]))))

noncomputable def impl_CrossingsSum_ctx : Ctx := ⟨tlook tys, olook [(16, F_impl_TreeOk), (50, F_impl_countOrders), (20, F_impl_PairsApart)], ioF, 0, false, []⟩

theorem impl_CrossingsSum_n1_l (x2888 : List Int) : Link impl_CrossingsSum_ctx LL (bodyOf Try.f25) impl_CrossingsSum_an ⟨mkE 13 0 [(0, dL x2888)], []⟩ (impl_CrossingsSum_n1 x2888) (fun (t : Int) => (Exit.ret, ⟨mkE 13 0 [(2, dI t)], []⟩)) := .of fun K h => by
  simp only [impl_CrossingsSum_n1, wpW] at h
  exact .of (by kernel_rfl) h

theorem impl_CrossingsSum_e (x2888 : List Int) {r : AV} {H' : Heap} (h : (Ans.mk _ (impl_CrossingsSum x2888) (fun (t : Int) => (dI t, [])) [] none).run = some (r, H')) : Awp impl_CrossingsSum_ctx LL (bodyOf Try.f25) impl_CrossingsSum_an ⟨mkE 13 0 [(0, dL x2888)], []⟩ (Ret (tlook tys) Try.f25.results.toList r H') :=
  ret_of' (impl_CrossingsSum_n1_l x2888) (by unfold impl_CrossingsSum; kernel_rfl) (by
  intro t
  exact ret_mk [dI t] (by kernel_rfl) (by kernel_rfl) (by kernel_rfl) (by kernel_rfl)) h

def F_impl_CrossingsSum : Fun := fun avs H =>
  match avs, H with
  | [.dat (.list (.int .i64)) x2888], [] => ⟨_, impl_CrossingsSum x2888, fun (t : Int) => (dI t, []), [], none⟩
  | _, _ => Ans.no

theorem impl_CrossingsSum_sound : Sound Try.prog 25 F_impl_CrossingsSum := by
  refine fn_sound' (C := impl_CrossingsSum_ctx) (c := bodyOf Try.f25) (cok_of tys_ok (allc impl_TreeOk_sound (allc impl_countOrders_sound (allc impl_PairsApart_sound alln))) (allc Try.call16 (allc Try.call50 (allc Try.call20 alln))) (by kernel_rfl)) Try.func25 (by kernel_rfl) LL impl_CrossingsSum_an ?_
  intro avs H r H' h
  unfold F_impl_CrossingsSum at h
  split at h
  · refine Awp.cast ?_ ?_ ?_ (impl_CrossingsSum_e _ h) <;> kernel_rfl
  · simp [Ans.no, Ans.run] at h


/-! loop.example/headtrees/spec.CrossingsSum -/

def spec_CrossingsSum_an : Ann := (.seq (.leaf [0]) (.seq (.seq (.leaf [0, 7]) (.cond (.seq (.leaf [2]) (.leaf [2])) (.leaf [0]))) (.seq (.leaf [0, 3]) (.seq (.seq (.leaf [0, 3, 4]) (.block (.loop (.seq (.seq (.leaf [0, 3, 4, 11]) (.cond (.leaf [0, 3, 4]) (.leaf [0, 3]))) (.seq (.block (.leaf [0, 3, 4])) (.leaf [0, 3, 4])))))) (.seq (.leaf [2]) (.leaf [2]))))))

noncomputable def spec_CrossingsSum_ctx : Ctx := ⟨tlook tys, olook [(42, F_spec_TreeOk), (21, F_spec_PairsApart)], ioF, 0, false, []⟩

theorem spec_CrossingsSum_n1_l (x2926 : List Int) : Link spec_CrossingsSum_ctx LL (Code.seq (cq [0] (bodyOf Try.f26)) (Code.seq (cq [0,1] (bodyOf Try.f26)) (cq [0,1,1] (bodyOf Try.f26)))) (Ann.seq (aq [0] spec_CrossingsSum_an) (Ann.seq (aq [0,1] spec_CrossingsSum_an) (aq [0,1,1] spec_CrossingsSum_an))) ⟨mkE 22 0 [(0, dL x2926)], []⟩ (spec_CrossingsSum_n1 x2926) (Sum.elim (fun (t : Unit) => (Exit.normal, ⟨mkE 22 0 [(0, dL x2926), (3, dI 1)], []⟩)) (fun (t : Int) => (Exit.ret, ⟨mkE 22 0 [(2, dI t)], []⟩))) := .of fun K h => by
  simp only [spec_CrossingsSum_n1, wpW] at h
  exact .of (by kernel_rfl) h

theorem spec_CrossingsSum_n2_l (x2926 : List Int) : Link spec_CrossingsSum_ctx LL (cq [0,0,1,1,1] (bodyOf Try.f26)) (aq [0,0,1,1,1] spec_CrossingsSum_an) ⟨mkE 22 0 [(0, dL x2926), (3, dI 1)], []⟩ (spec_CrossingsSum_n2) (fun (t : Unit) => (Exit.normal, ⟨mkE 22 0 [(0, dL x2926), (3, dI 1), (4, dI 2)], []⟩)) := .of fun K h => by
  simp only [spec_CrossingsSum_n2, wpW] at h
  exact .of (by kernel_rfl) h

theorem spec_CrossingsSum_n3_l (x2926 : List Int) (x2940 : Int) (x2941 : Int) : Link spec_CrossingsSum_ctx LL (cq [0,0,1,0,1,1,1] (bodyOf Try.f26)) (aq [0,0,1,0,1,1,1] spec_CrossingsSum_an) ⟨mkE 22 0 [(0, dL x2926), (3, dI x2940), (4, dI x2941)], []⟩ (spec_CrossingsSum_n3 x2926 x2940 x2941) (Sum.elim (fun (t : Int × Int) => (Exit.normal, ⟨mkE 22 0 [(0, dL x2926), (3, dI t.1), (4, dI t.2)], []⟩)) (fun (t : Int) => ((Exit.exit 0), ⟨mkE 22 0 [(0, dL x2926), (3, dI t)], []⟩))) := .of fun K h => by
  simp only [spec_CrossingsSum_n3, wpW] at h
  exact .of (by kernel_rfl) h

def spec_CrossingsSum_n4_l (x2926 : List Int) := (link_loop (mk := fun (s : Int × Int) => ⟨mkE 22 0 [(0, dL x2926), (3, dI s.1), (4, dI s.2)], []⟩) (fin := (fun (t : Int) => ((Exit.exit 0), ⟨mkE 22 0 [(0, dL x2926), (3, dI t)], []⟩))) (by
  rintro t f K h
  · exact h) (fun s => link_map (spec_CrossingsSum_n3_l x2926 s.1 s.2) (Sum.elim (fun (t : Int × Int) => Sum.inl (t.1, t.2)) (fun (t : Int) => Sum.inr t)) (by
  rintro (t | t)
  · kernel_rfl
  · kernel_rfl)) (1, 2))

def spec_CrossingsSum_n5_l (x2926 : List Int) := (link_block (fin2 := (fun (t : Int) => (Exit.normal, ⟨mkE 22 0 [(0, dL x2926), (3, dI t)], []⟩))) (id := 0) (spec_CrossingsSum_n4_l x2926) (fun (t : Int) => t) (by
  rintro t K h
  · exact Eq.mp (by kernel_rfl) h))

def spec_CrossingsSum_n6_l (x2926 : List Int) := (link_seq (spec_CrossingsSum_n2_l x2926) (fun (t : Unit) => (spec_CrossingsSum_n5_l x2926)))

theorem spec_CrossingsSum_n7_l (x2926 : List Int) (x2940 : Int) : Link spec_CrossingsSum_ctx LL (cq [1,1,1,1] (bodyOf Try.f26)) (aq [1,1,1,1] spec_CrossingsSum_an) ⟨mkE 22 0 [(0, dL x2926), (3, dI x2940)], []⟩ (spec_CrossingsSum_n7 x2926 x2940) (fun (t : Int) => (Exit.ret, ⟨mkE 22 0 [(2, dI t)], []⟩)) := .of fun K h => by
  simp only [spec_CrossingsSum_n7, wpW] at h
  exact .of (by kernel_rfl) h

def spec_CrossingsSum_n8_l (x2926 : List Int) := (link_seq (spec_CrossingsSum_n6_l x2926) (fun (t : Int) => (spec_CrossingsSum_n7_l x2926 t)))

def spec_CrossingsSum_n9_l (x2926 : List Int) := (link_group (c := (cq [0,1,1] (bodyOf Try.f26))) (a := (aq [0,1,1] spec_CrossingsSum_an)) [(cq [0] (bodyOf Try.f26)), (cq [0,1] (bodyOf Try.f26))] [(aq [0] spec_CrossingsSum_an), (aq [0,1] spec_CrossingsSum_an)] rfl (link_seq2 (spec_CrossingsSum_n1_l x2926) (fun (t : Unit) => (spec_CrossingsSum_n8_l x2926)) (fun (t : Int) => t) (by
  rintro t
  · kernel_rfl) (by
  rintro t f K h
  · exact h)))

theorem spec_CrossingsSum_e (x2926 : List Int) {r : AV} {H' : Heap} (h : (Ans.mk _ (spec_CrossingsSum x2926) (fun (t : Int) => (dI t, [])) [] none).run = some (r, H')) : Awp spec_CrossingsSum_ctx LL (bodyOf Try.f26) spec_CrossingsSum_an ⟨mkE 22 0 [(0, dL x2926)], []⟩ (Ret (tlook tys) Try.f26.results.toList r H') :=
  ret_of' (Link.cast (by kernel_rfl) (by kernel_rfl) (spec_CrossingsSum_n9_l x2926)) (by unfold spec_CrossingsSum; kernel_rfl) (by
  intro t
  exact ret_mk [dI t] (by kernel_rfl) (by kernel_rfl) (by kernel_rfl) (by kernel_rfl)) h

def F_spec_CrossingsSum : Fun := fun avs H =>
  match avs, H with
  | [.dat (.list (.int .i64)) x2926], [] => ⟨_, spec_CrossingsSum x2926, fun (t : Int) => (dI t, []), [], none⟩
  | _, _ => Ans.no

theorem spec_CrossingsSum_sound : Sound Try.prog 26 F_spec_CrossingsSum := by
  refine fn_sound' (C := spec_CrossingsSum_ctx) (c := bodyOf Try.f26) (cok_of tys_ok (allc spec_TreeOk_sound (allc spec_PairsApart_sound alln)) (allc Try.call42 (allc Try.call21 alln)) (by kernel_rfl)) Try.func26 (by kernel_rfl) LL spec_CrossingsSum_an ?_
  intro avs H r H' h
  unfold F_spec_CrossingsSum at h
  split at h
  · refine Awp.cast ?_ ?_ ?_ (spec_CrossingsSum_e _ h) <;> kernel_rfl
  · simp [Ans.no, Ans.run] at h


/-! loop.example/headtrees/laws.FnCrossingsSum -/

def laws_FnCrossingsSum_an : Ann := (.seq (.leaf [0]) (.seq (.seq (.leaf [0, 19]) (.cond (.seq (.leaf [2]) (.leaf [2])) (.leaf [0]))) (.seq (.leaf [3]) (.seq (.leaf [3, 4]) (.seq (.seq (.leaf [3, 4, 27]) (.cond (.seq (.leaf [2]) (.leaf [2])) (.leaf [3, 4]))) (.seq (.seq (.leaf [3, 4, 29]) (.cond (.seq (.leaf [2]) (.leaf [2])) (.leaf [3, 4]))) (.seq (.leaf [3, 4, 5]) (.seq (.seq (.leaf [3, 4, 5, 43]) (.cond (.seq (.leaf [2]) (.leaf [2])) (.leaf [3, 4, 5]))) (.seq (.leaf [3, 4, 5, 6]) (.seq (.seq (.leaf [3, 4, 5, 6, 7]) (.block (.loop (.seq (.seq (.leaf [3, 4, 5, 6, 7, 55]) (.cond (.leaf [3, 4, 5, 6, 7]) (.leaf [3, 4, 5, 6]))) (.seq (.block (.leaf [3, 4, 5, 6, 7])) (.leaf [3, 4, 5, 6, 7])))))) (.seq (.leaf [3, 4, 5, 6, 8]) (.seq (.seq (.leaf [3, 4, 5, 6, 8, 9]) (.block (.loop (.seq (.seq (.leaf [3, 4, 5, 6, 8, 9, 63]) (.cond (.leaf [3, 4, 5, 6, 8, 9]) (.leaf [4, 8]))) (.seq (.block (.seq (.leaf [3, 4, 5, 6, 8, 9, 10]) (.seq (.leaf [3, 4, 5, 6, 8, 9, 10, 11]) (.seq (.seq (.leaf [3, 4, 5, 6, 8, 9, 10, 11, 12]) (.block (.loop (.seq (.seq (.leaf [3, 4, 5, 6, 8, 9, 10, 11, 12, 70]) (.cond (.leaf [3, 4, 5, 6, 8, 9, 10, 11, 12]) (.leaf [3, 4, 5, 6, 8, 9, 10]))) (.seq (.block (.seq (.leaf [3, 4, 5, 6, 8, 9, 10, 11, 12, 13]) (.seq (.leaf [3, 4, 5, 6, 8, 9, 10, 11, 12, 13]) (.seq (.leaf [3, 4, 5, 6, 8, 9, 10, 11, 12, 13, 14]) (.seq (.leaf [3, 4, 5, 6, 8, 9, 10, 11, 12, 13, 14]) (.leaf [3, 4, 5, 6, 8, 9, 10, 11, 12])))))) (.leaf [3, 4, 5, 6, 8, 9, 10, 11, 12])))))) (.seq (.leaf [3, 4, 5, 6, 8, 9, 15, 16]) (.seq (.seq (.leaf [3, 4, 5, 6, 8, 9, 15, 106]) (.cond (.seq (.leaf [2]) (.leaf [2])) (.leaf [3, 4, 5, 6, 8, 9, 15]))) (.leaf [3, 4, 5, 6, 8, 9]))))))) (.leaf [3, 4, 5, 6, 8, 9])))))) (.seq (.leaf [2]) (.leaf [2]))))))))))))))

noncomputable def laws_FnCrossingsSum_ctx : Ctx := ⟨tlook tys, olook [(24, F_spec_DrawCrossingsSum), (25, F_impl_CrossingsSum), (26, F_spec_CrossingsSum), (16, F_impl_TreeOk), (17, F_laws_alive), (18, F_impl_BackOf), (27, F_impl_PutInOrder), (22, F_impl_CrossingsOf)], ioF, 0, false, []⟩

theorem laws_FnCrossingsSum_n1_l (x2870 : List Int) : Link laws_FnCrossingsSum_ctx LL (Code.seq (cq [0] (bodyOf Try.f5)) (Code.seq (cq [0,1] (bodyOf Try.f5)) (Code.seq (cq [0,1,1] (bodyOf Try.f5)) (Code.seq (cq [0,1,1,1] (bodyOf Try.f5)) (Code.seq (cq [0,1,1,1,1] (bodyOf Try.f5)) (Code.seq (cq [0,1,1,1,1,1] (bodyOf Try.f5)) (Code.seq (cq [0,1,1,1,1,1,1] (bodyOf Try.f5)) (Code.seq (cq [0,1,1,1,1,1,1,1] (bodyOf Try.f5)) (cq [0,1,1,1,1,1,1,1,1] (bodyOf Try.f5)))))))))) (Ann.seq (aq [0] laws_FnCrossingsSum_an) (Ann.seq (aq [0,1] laws_FnCrossingsSum_an) (Ann.seq (aq [0,1,1] laws_FnCrossingsSum_an) (Ann.seq (aq [0,1,1,1] laws_FnCrossingsSum_an) (Ann.seq (aq [0,1,1,1,1] laws_FnCrossingsSum_an) (Ann.seq (aq [0,1,1,1,1,1] laws_FnCrossingsSum_an) (Ann.seq (aq [0,1,1,1,1,1,1] laws_FnCrossingsSum_an) (Ann.seq (aq [0,1,1,1,1,1,1,1] laws_FnCrossingsSum_an) (aq [0,1,1,1,1,1,1,1,1] laws_FnCrossingsSum_an))))))))) ⟨mkE 114 0 [(0, dV x2870)], []⟩ (laws_FnCrossingsSum_n1 x2870) (Sum.elim (fun (t : Int × Int × (List Int)) => (Exit.normal, ⟨mkE 114 0 [(3, .slc 0), (4, dI t.1), (5, dI t.2.1), (6, dI 1)], [some (sI t.2.2)]⟩)) (fun (t : Bool) => (Exit.ret, ⟨mkE 114 0 [(2, dB t)], []⟩))) := .of fun K h => by
  simp only [laws_FnCrossingsSum_n1, wpW] at h
  exact .of (by kernel_rfl) h

theorem laws_FnCrossingsSum_n2_l (x3004 : Int) (x3012 : Int) (x3003 : List Int) : Link laws_FnCrossingsSum_ctx LL (cq [0,0,1,1,1,1,1,1,1,1,1] (bodyOf Try.f5)) (aq [0,0,1,1,1,1,1,1,1,1,1] laws_FnCrossingsSum_an) ⟨mkE 114 0 [(3, .slc 0), (4, dI x3004), (5, dI x3012), (6, dI 1)], [some (sI x3003)]⟩ (laws_FnCrossingsSum_n2) (fun (t : Unit) => (Exit.normal, ⟨mkE 114 0 [(3, .slc 0), (4, dI x3004), (5, dI x3012), (6, dI 1), (7, dI 2)], [some (sI x3003)]⟩)) := .of fun K h => by
  simp only [laws_FnCrossingsSum_n2, wpW] at h
  exact .of (by kernel_rfl) h

theorem laws_FnCrossingsSum_n3_l (x3004 : Int) (x3012 : Int) (x3024 : Int) (x3025 : Int) (x3003 : List Int) : Link laws_FnCrossingsSum_ctx LL (cq [0,0,1,0,1,1,1,1,1,1,1,1,1] (bodyOf Try.f5)) (aq [0,0,1,0,1,1,1,1,1,1,1,1,1] laws_FnCrossingsSum_an) ⟨mkE 114 0 [(3, .slc 0), (4, dI x3004), (5, dI x3012), (6, dI x3024), (7, dI x3025)], [some (sI x3003)]⟩ (laws_FnCrossingsSum_n3 x3012 x3024 x3025) (Sum.elim (fun (t : Int × Int) => (Exit.normal, ⟨mkE 114 0 [(3, .slc 0), (4, dI x3004), (5, dI x3012), (6, dI t.1), (7, dI t.2)], [some (sI x3003)]⟩)) (fun (t : Int) => ((Exit.exit 0), ⟨mkE 114 0 [(3, .slc 0), (4, dI x3004), (5, dI x3012), (6, dI t)], [some (sI x3003)]⟩))) := .of fun K h => by
  simp only [laws_FnCrossingsSum_n3, wpW] at h
  exact .of (by kernel_rfl) h

def laws_FnCrossingsSum_n4_l (x3004 : Int) (x3012 : Int) (x3003 : List Int) := (link_loop (mk := fun (s : Int × Int) => ⟨mkE 114 0 [(3, .slc 0), (4, dI x3004), (5, dI x3012), (6, dI s.1), (7, dI s.2)], [some (sI x3003)]⟩) (fin := (fun (t : Int) => ((Exit.exit 0), ⟨mkE 114 0 [(3, .slc 0), (4, dI x3004), (5, dI x3012), (6, dI t)], [some (sI x3003)]⟩))) (by
  rintro t f K h
  · exact h) (fun s => link_map (laws_FnCrossingsSum_n3_l x3004 x3012 s.1 s.2 x3003) (Sum.elim (fun (t : Int × Int) => Sum.inl (t.1, t.2)) (fun (t : Int) => Sum.inr t)) (by
  rintro (t | t)
  · kernel_rfl
  · kernel_rfl)) (1, 2))

def laws_FnCrossingsSum_n5_l (x3004 : Int) (x3012 : Int) (x3003 : List Int) := (link_block (fin2 := (fun (t : Int) => (Exit.normal, ⟨mkE 114 0 [(3, .slc 0), (4, dI x3004), (5, dI x3012), (6, dI t)], [some (sI x3003)]⟩))) (id := 0) (laws_FnCrossingsSum_n4_l x3004 x3012 x3003) (fun (t : Int) => t) (by
  rintro t K h
  · exact Eq.mp (by kernel_rfl) h))

def laws_FnCrossingsSum_n6_l (x3004 : Int) (x3012 : Int) (x3003 : List Int) := (link_seq (laws_FnCrossingsSum_n2_l x3004 x3012 x3003) (fun (t : Unit) => (laws_FnCrossingsSum_n5_l x3004 x3012 x3003)))

theorem laws_FnCrossingsSum_n7_l (x3004 : Int) (x3012 : Int) (x3024 : Int) (x3003 : List Int) : Link laws_FnCrossingsSum_ctx LL (cq [0,1,1,1,1,1,1,1,1,1,1] (bodyOf Try.f5)) (aq [0,1,1,1,1,1,1,1,1,1,1] laws_FnCrossingsSum_an) ⟨mkE 114 0 [(3, .slc 0), (4, dI x3004), (5, dI x3012), (6, dI x3024)], [some (sI x3003)]⟩ (laws_FnCrossingsSum_n7) (fun (t : Unit) => (Exit.normal, ⟨mkE 114 0 [(3, .slc 0), (4, dI x3004), (5, dI x3012), (6, dI x3024), (8, dI 0)], [some (sI x3003)]⟩)) := .of fun K h => by
  simp only [laws_FnCrossingsSum_n7, wpW] at h
  exact .of (by kernel_rfl) h

theorem laws_FnCrossingsSum_n8_l (x3004 : Int) (x3012 : Int) (x3024 : Int) (x3003 : List Int) : Link laws_FnCrossingsSum_ctx LL (cq [0,0,1,1,1,1,1,1,1,1,1,1,1] (bodyOf Try.f5)) (aq [0,0,1,1,1,1,1,1,1,1,1,1,1] laws_FnCrossingsSum_an) ⟨mkE 114 0 [(3, .slc 0), (4, dI x3004), (5, dI x3012), (6, dI x3024), (8, dI 0)], [some (sI x3003)]⟩ (laws_FnCrossingsSum_n8) (fun (t : Unit) => (Exit.normal, ⟨mkE 114 0 [(3, .slc 0), (4, dI x3004), (5, dI x3012), (6, dI x3024), (8, dI 0), (9, dI 0)], [some (sI x3003)]⟩)) := .of fun K h => by
  simp only [laws_FnCrossingsSum_n8, wpW] at h
  exact .of (by kernel_rfl) h

theorem laws_FnCrossingsSum_n9_l (x3004 : Int) (x3012 : Int) (x3024 : Int) (x3142 : Int) (x3143 : Int) (x3003 : List Int) : Link laws_FnCrossingsSum_ctx LL (cq [0,0,0,1,0,1,1,1,1,1,1,1,1,1,1,1] (bodyOf Try.f5)) (aq [0,0,0,1,0,1,1,1,1,1,1,1,1,1,1,1] laws_FnCrossingsSum_an) ⟨mkE 114 0 [(3, .slc 0), (4, dI x3004), (5, dI x3012), (6, dI x3024), (8, dI x3142), (9, dI x3143)], [some (sI x3003)]⟩ (laws_FnCrossingsSum_n9 x3024 x3142 x3143) (Sum.elim (fun (t : Unit) => (Exit.normal, ⟨mkE 114 0 [(3, .slc 0), (4, dI x3004), (5, dI x3012), (6, dI x3024), (8, dI x3142), (9, dI x3143)], [some (sI x3003)]⟩)) (fun (t : Int) => ((Exit.exit 2), ⟨mkE 114 0 [(4, dI x3004), (8, dI t)], []⟩))) := .of fun K h => by
  simp only [laws_FnCrossingsSum_n9, wpW] at h
  exact .of (by kernel_rfl) h

theorem laws_FnCrossingsSum_n10_l (x3004 : Int) (x3012 : Int) (x3024 : Int) (x3142 : Int) (x3143 : Int) (x3003 : List Int) : Link laws_FnCrossingsSum_ctx LL (Code.seq (cq [0,0,0,1,0,0,1,0,1,1,1,1,1,1,1,1,1,1,1] (bodyOf Try.f5)) (cq [0,1,0,0,1,0,0,1,0,1,1,1,1,1,1,1,1,1,1,1] (bodyOf Try.f5))) (Ann.seq (aq [0,0,0,1,0,0,1,0,1,1,1,1,1,1,1,1,1,1,1] laws_FnCrossingsSum_an) (aq [0,1,0,0,1,0,0,1,0,1,1,1,1,1,1,1,1,1,1,1] laws_FnCrossingsSum_an)) ⟨mkE 114 0 [(3, .slc 0), (4, dI x3004), (5, dI x3012), (6, dI x3024), (8, dI x3142), (9, dI x3143)], [some (sI x3003)]⟩ (laws_FnCrossingsSum_n10) (fun (t : Unit) => (Exit.normal, ⟨mkE 114 0 [(3, .slc 0), (4, dI x3004), (5, dI x3012), (6, dI x3024), (8, dI x3142), (9, dI x3143), (10, .slc 1), (11, dI x3143)], [some (sI x3003), some (sI ([] : List Int))]⟩)) := .of fun K h => by
  simp only [laws_FnCrossingsSum_n10, wpW] at h
  exact .of (by kernel_rfl) h

theorem laws_FnCrossingsSum_n11_l (x3004 : Int) (x3012 : Int) (x3024 : Int) (x3142 : Int) (x3143 : Int) (x3003 : List Int) : Link laws_FnCrossingsSum_ctx LL (cq [0,0,1,1,0,0,1,0,0,1,0,1,1,1,1,1,1,1,1,1,1,1] (bodyOf Try.f5)) (aq [0,0,1,1,0,0,1,0,0,1,0,1,1,1,1,1,1,1,1,1,1,1] laws_FnCrossingsSum_an) ⟨mkE 114 0 [(3, .slc 0), (4, dI x3004), (5, dI x3012), (6, dI x3024), (8, dI x3142), (9, dI x3143), (10, .slc 1), (11, dI x3143)], [some (sI x3003), some (sI ([] : List Int))]⟩ (laws_FnCrossingsSum_n11) (fun (t : Unit) => (Exit.normal, ⟨mkE 114 0 [(3, .slc 0), (4, dI x3004), (5, dI x3012), (6, dI x3024), (8, dI x3142), (9, dI x3143), (10, .slc 1), (11, dI x3143), (12, dI 1)], [some (sI x3003), some (sI ([] : List Int))]⟩)) := .of fun K h => by
  simp only [laws_FnCrossingsSum_n11, wpW] at h
  exact .of (by kernel_rfl) h

theorem laws_FnCrossingsSum_n12_l (x3004 : Int) (x3012 : Int) (x3024 : Int) (x3142 : Int) (x3143 : Int) (x3189 : Int) (x3190 : Int) (x3003 : List Int) (x3191 : List Int) : Link laws_FnCrossingsSum_ctx LL (cq [0,0,1,0,1,1,0,0,1,0,0,1,0,1,1,1,1,1,1,1,1,1,1,1] (bodyOf Try.f5)) (aq [0,0,1,0,1,1,0,0,1,0,0,1,0,1,1,1,1,1,1,1,1,1,1,1] laws_FnCrossingsSum_an) ⟨mkE 114 0 [(3, .slc 0), (4, dI x3004), (5, dI x3012), (6, dI x3024), (8, dI x3142), (9, dI x3143), (10, .slc 1), (11, dI x3189), (12, dI x3190)], [some (sI x3003), some (sI x3191)]⟩ (laws_FnCrossingsSum_n12 x3012 x3189 x3190 x3191) (Sum.elim (fun (t : Int × Int × (List Int)) => (Exit.normal, ⟨mkE 114 0 [(3, .slc 0), (4, dI x3004), (5, dI x3012), (6, dI x3024), (8, dI x3142), (9, dI x3143), (10, .slc 1), (11, dI t.1), (12, dI t.2.1)], [some (sI x3003), some (sI t.2.2)]⟩)) (fun (t : (List Int)) => ((Exit.exit 4), ⟨mkE 114 0 [(3, .slc 0), (4, dI x3004), (5, dI x3012), (6, dI x3024), (8, dI x3142), (9, dI x3143), (10, .slc 1)], [some (sI x3003), some (sI t)]⟩))) := .of fun K h => by
  simp only [laws_FnCrossingsSum_n12, wpW] at h
  exact .of (by kernel_rfl) h

def laws_FnCrossingsSum_n13_l (x3004 : Int) (x3012 : Int) (x3024 : Int) (x3142 : Int) (x3143 : Int) (x3003 : List Int) := (link_loop (mk := fun (s : Int × Int × (List Int)) => ⟨mkE 114 0 [(3, .slc 0), (4, dI x3004), (5, dI x3012), (6, dI x3024), (8, dI x3142), (9, dI x3143), (10, .slc 1), (11, dI s.1), (12, dI s.2.1)], [some (sI x3003), some (sI s.2.2)]⟩) (fin := (fun (t : (List Int)) => ((Exit.exit 4), ⟨mkE 114 0 [(3, .slc 0), (4, dI x3004), (5, dI x3012), (6, dI x3024), (8, dI x3142), (9, dI x3143), (10, .slc 1)], [some (sI x3003), some (sI t)]⟩))) (by
  rintro t f K h
  · exact h) (fun s => link_map (laws_FnCrossingsSum_n12_l x3004 x3012 x3024 x3142 x3143 s.1 s.2.1 x3003 s.2.2) (Sum.elim (fun (t : Int × Int × (List Int)) => Sum.inl (t.1, t.2.1, t.2.2)) (fun (t : (List Int)) => Sum.inr t)) (by
  rintro (t | t)
  · kernel_rfl
  · kernel_rfl)) (x3143, 1, ([] : List Int)))

def laws_FnCrossingsSum_n14_l (x3004 : Int) (x3012 : Int) (x3024 : Int) (x3142 : Int) (x3143 : Int) (x3003 : List Int) := (link_block (fin2 := (fun (t : (List Int)) => (Exit.normal, ⟨mkE 114 0 [(3, .slc 0), (4, dI x3004), (5, dI x3012), (6, dI x3024), (8, dI x3142), (9, dI x3143), (10, .slc 1)], [some (sI x3003), some (sI t)]⟩))) (id := 4) (laws_FnCrossingsSum_n13_l x3004 x3012 x3024 x3142 x3143 x3003) (fun (t : (List Int)) => t) (by
  rintro t K h
  · exact Eq.mp (by kernel_rfl) h))

def laws_FnCrossingsSum_n15_l (x3004 : Int) (x3012 : Int) (x3024 : Int) (x3142 : Int) (x3143 : Int) (x3003 : List Int) := (link_seq (laws_FnCrossingsSum_n11_l x3004 x3012 x3024 x3142 x3143 x3003) (fun (t : Unit) => (laws_FnCrossingsSum_n14_l x3004 x3012 x3024 x3142 x3143 x3003)))

theorem laws_FnCrossingsSum_n16_l (x3004 : Int) (x3012 : Int) (x3024 : Int) (x3142 : Int) (x3143 : Int) (x3003 : List Int) (x3191 : List Int) : Link laws_FnCrossingsSum_ctx LL (cq [1,1,1,0,0,1,0,0,1,0,1,1,1,1,1,1,1,1,1,1,1] (bodyOf Try.f5)) (aq [1,1,1,0,0,1,0,0,1,0,1,1,1,1,1,1,1,1,1,1,1] laws_FnCrossingsSum_an) ⟨mkE 114 0 [(3, .slc 0), (4, dI x3004), (5, dI x3012), (6, dI x3024), (8, dI x3142), (9, dI x3143), (10, .slc 1)], [some (sI x3003), some (sI x3191)]⟩ (laws_FnCrossingsSum_n16 x3004 x3142 x3003 x3191) (Sum.elim (fun (t : Int) => (Exit.normal, ⟨mkE 114 0 [(3, .slc 0), (4, dI x3004), (5, dI x3012), (6, dI x3024), (8, dI t), (9, dI x3143)], [some (sI x3003)]⟩)) (fun (t : Bool) => (Exit.ret, ⟨mkE 114 0 [(2, dB t)], []⟩))) := .of fun K h => by
  simp only [laws_FnCrossingsSum_n16, wpW] at h
  exact .of (by kernel_rfl) h

def laws_FnCrossingsSum_n17_l (x3004 : Int) (x3012 : Int) (x3024 : Int) (x3142 : Int) (x3143 : Int) (x3003 : List Int) := (link_seq (laws_FnCrossingsSum_n15_l x3004 x3012 x3024 x3142 x3143 x3003) (fun (t : (List Int)) => (laws_FnCrossingsSum_n16_l x3004 x3012 x3024 x3142 x3143 x3003 t)))

def laws_FnCrossingsSum_n18_l (x3004 : Int) (x3012 : Int) (x3024 : Int) (x3142 : Int) (x3143 : Int) (x3003 : List Int) := (link_group (c := (cq [0,1,0,0,1,0,0,1,0,1,1,1,1,1,1,1,1,1,1,1] (bodyOf Try.f5))) (a := (aq [0,1,0,0,1,0,0,1,0,1,1,1,1,1,1,1,1,1,1,1] laws_FnCrossingsSum_an)) [(cq [0,0,0,1,0,0,1,0,1,1,1,1,1,1,1,1,1,1,1] (bodyOf Try.f5))] [(aq [0,0,0,1,0,0,1,0,1,1,1,1,1,1,1,1,1,1,1] laws_FnCrossingsSum_an)] rfl (link_seq (laws_FnCrossingsSum_n10_l x3004 x3012 x3024 x3142 x3143 x3003) (fun (t : Unit) => (laws_FnCrossingsSum_n17_l x3004 x3012 x3024 x3142 x3143 x3003))))

def laws_FnCrossingsSum_n19_l (x3004 : Int) (x3012 : Int) (x3024 : Int) (x3142 : Int) (x3143 : Int) (x3003 : List Int) := (link_block (fin2 := (Sum.elim (fun (t : Int) => (Exit.normal, ⟨mkE 114 0 [(3, .slc 0), (4, dI x3004), (5, dI x3012), (6, dI x3024), (8, dI t), (9, dI x3143)], [some (sI x3003)]⟩)) (fun (t : Bool) => (Exit.ret, ⟨mkE 114 0 [(2, dB t)], []⟩)))) (id := 3) (laws_FnCrossingsSum_n18_l x3004 x3012 x3024 x3142 x3143 x3003) (Sum.elim (fun (t : Int) => (Sum.inl t)) (fun (t : Bool) => (Sum.inr t))) (by
  rintro (t | t) K h
  · exact Eq.mp (by kernel_rfl) h
  · exact Eq.mp (by kernel_rfl) h))

theorem laws_FnCrossingsSum_n20_l (x3004 : Int) (x3012 : Int) (x3024 : Int) (x3252 : Int) (x3143 : Int) (x3003 : List Int) : Link laws_FnCrossingsSum_ctx LL (cq [1,1,0,0,1,0,1,1,1,1,1,1,1,1,1,1,1] (bodyOf Try.f5)) (aq [1,1,0,0,1,0,1,1,1,1,1,1,1,1,1,1,1] laws_FnCrossingsSum_an) ⟨mkE 114 0 [(3, .slc 0), (4, dI x3004), (5, dI x3012), (6, dI x3024), (8, dI x3252), (9, dI x3143)], [some (sI x3003)]⟩ (laws_FnCrossingsSum_n20 x3143) (fun (t : Int) => (Exit.normal, ⟨mkE 114 0 [(3, .slc 0), (4, dI x3004), (5, dI x3012), (6, dI x3024), (8, dI x3252), (9, dI t)], [some (sI x3003)]⟩)) := .of fun K h => by
  simp only [laws_FnCrossingsSum_n20, wpW] at h
  exact .of (by kernel_rfl) h

def laws_FnCrossingsSum_n21_l (x3004 : Int) (x3012 : Int) (x3024 : Int) (x3142 : Int) (x3143 : Int) (x3003 : List Int) := (link_seq2 (laws_FnCrossingsSum_n19_l x3004 x3012 x3024 x3142 x3143 x3003) (fun (t : Int) => (link_map (fin2 := (Sum.elim (fun (t : Int × Int) => (Exit.normal, ⟨mkE 114 0 [(3, .slc 0), (4, dI x3004), (5, dI x3012), (6, dI x3024), (8, dI t.1), (9, dI t.2)], [some (sI x3003)]⟩)) (fun (t : Bool) => (Exit.ret, ⟨mkE 114 0 [(2, dB t)], []⟩)))) (laws_FnCrossingsSum_n20_l x3004 x3012 x3024 t x3143 x3003) (fun (u : Int) => (Sum.inl (t, u))) (by
  rintro t
  · kernel_rfl))) (fun (t : Bool) => (Sum.inr t)) (by
  rintro t
  · kernel_rfl) (by
  rintro t f K h
  · exact h))

def laws_FnCrossingsSum_n22_l (x3004 : Int) (x3012 : Int) (x3024 : Int) (x3142 : Int) (x3143 : Int) (x3003 : List Int) := (link_seq2 (laws_FnCrossingsSum_n9_l x3004 x3012 x3024 x3142 x3143 x3003) (fun (t : Unit) => (link_map (fin2 := (Sum.elim (fun (t : Int × Int) => (Exit.normal, ⟨mkE 114 0 [(3, .slc 0), (4, dI x3004), (5, dI x3012), (6, dI x3024), (8, dI t.1), (9, dI t.2)], [some (sI x3003)]⟩)) (Sum.elim (fun (t : Bool) => (Exit.ret, ⟨mkE 114 0 [(2, dB t)], []⟩)) (fun (t : Int) => ((Exit.exit 2), ⟨mkE 114 0 [(4, dI x3004), (8, dI t)], []⟩))))) (laws_FnCrossingsSum_n21_l x3004 x3012 x3024 x3142 x3143 x3003) (Sum.elim (fun (t : Int × Int) => (Sum.inl (t.1, t.2))) (fun (t : Bool) => (Sum.inr (Sum.inl t)))) (by
  rintro (t | t)
  · kernel_rfl
  · kernel_rfl))) (fun (t : Int) => (Sum.inr (Sum.inr t))) (by
  rintro t
  · kernel_rfl) (by
  rintro t f K h
  · exact h))

def laws_FnCrossingsSum_n23_l (x3004 : Int) (x3012 : Int) (x3024 : Int) (x3003 : List Int) := (link_loop (mk := fun (s : Int × Int) => ⟨mkE 114 0 [(3, .slc 0), (4, dI x3004), (5, dI x3012), (6, dI x3024), (8, dI s.1), (9, dI s.2)], [some (sI x3003)]⟩) (fin := (Sum.elim (fun (t : Bool) => (Exit.ret, ⟨mkE 114 0 [(2, dB t)], []⟩)) (fun (t : Int) => ((Exit.exit 2), ⟨mkE 114 0 [(4, dI x3004), (8, dI t)], []⟩)))) (by
  rintro (t | t) f K h
  · exact h
  · exact h) (fun s => link_map (laws_FnCrossingsSum_n22_l x3004 x3012 x3024 s.1 s.2 x3003) (Sum.elim (fun (t : Int × Int) => Sum.inl (t.1, t.2)) (Sum.elim (fun (t : Bool) => Sum.inr (Sum.inl t)) (fun (t : Int) => Sum.inr (Sum.inr t)))) (by
  rintro (t | t | t)
  · kernel_rfl
  · kernel_rfl
  · kernel_rfl)) (0, 0))

def laws_FnCrossingsSum_n24_l (x3004 : Int) (x3012 : Int) (x3024 : Int) (x3003 : List Int) := (link_block (fin2 := (Sum.elim (fun (t : Int) => (Exit.normal, ⟨mkE 114 0 [(4, dI x3004), (8, dI t)], []⟩)) (fun (t : Bool) => (Exit.ret, ⟨mkE 114 0 [(2, dB t)], []⟩)))) (id := 2) (laws_FnCrossingsSum_n23_l x3004 x3012 x3024 x3003) (Sum.elim (fun (t : Bool) => (Sum.inr t)) (fun (t : Int) => (Sum.inl t))) (by
  rintro (t | t) K h
  · exact Eq.mp (by kernel_rfl) h
  · exact Eq.mp (by kernel_rfl) h))

def laws_FnCrossingsSum_n25_l (x3004 : Int) (x3012 : Int) (x3024 : Int) (x3003 : List Int) := (link_seq (laws_FnCrossingsSum_n8_l x3004 x3012 x3024 x3003) (fun (t : Unit) => (laws_FnCrossingsSum_n24_l x3004 x3012 x3024 x3003)))

theorem laws_FnCrossingsSum_n26_l (x3004 : Int) (x3142 : Int) : Link laws_FnCrossingsSum_ctx LL (cq [1,1,1,1,1,1,1,1,1,1,1,1] (bodyOf Try.f5)) (aq [1,1,1,1,1,1,1,1,1,1,1,1] laws_FnCrossingsSum_an) ⟨mkE 114 0 [(4, dI x3004), (8, dI x3142)], []⟩ (laws_FnCrossingsSum_n26 x3004 x3142) (fun (t : Bool) => (Exit.ret, ⟨mkE 114 0 [(2, dB t)], []⟩)) := .of fun K h => by
  simp only [laws_FnCrossingsSum_n26, wpW] at h
  exact .of (by kernel_rfl) h

def laws_FnCrossingsSum_n27_l (x3004 : Int) (x3012 : Int) (x3024 : Int) (x3003 : List Int) := (link_seq2 (laws_FnCrossingsSum_n25_l x3004 x3012 x3024 x3003) (fun (t : Int) => (laws_FnCrossingsSum_n26_l x3004 t)) (fun (t : Bool) => t) (by
  rintro t
  · kernel_rfl) (by
  rintro t f K h
  · exact h))

def laws_FnCrossingsSum_n28_l (x3004 : Int) (x3012 : Int) (x3024 : Int) (x3003 : List Int) := (link_seq (laws_FnCrossingsSum_n7_l x3004 x3012 x3024 x3003) (fun (t : Unit) => (laws_FnCrossingsSum_n27_l x3004 x3012 x3024 x3003)))

def laws_FnCrossingsSum_n29_l (x3004 : Int) (x3012 : Int) (x3003 : List Int) := (link_seq (laws_FnCrossingsSum_n6_l x3004 x3012 x3003) (fun (t : Int) => (laws_FnCrossingsSum_n28_l x3004 x3012 t x3003)))

def laws_FnCrossingsSum_n30_l (x2870 : List Int) := (link_group (c := (cq [0,1,1,1,1,1,1,1,1] (bodyOf Try.f5))) (a := (aq [0,1,1,1,1,1,1,1,1] laws_FnCrossingsSum_an)) [(cq [0] (bodyOf Try.f5)), (cq [0,1] (bodyOf Try.f5)), (cq [0,1,1] (bodyOf Try.f5)), (cq [0,1,1,1] (bodyOf Try.f5)), (cq [0,1,1,1,1] (bodyOf Try.f5)), (cq [0,1,1,1,1,1] (bodyOf Try.f5)), (cq [0,1,1,1,1,1,1] (bodyOf Try.f5)), (cq [0,1,1,1,1,1,1,1] (bodyOf Try.f5))] [(aq [0] laws_FnCrossingsSum_an), (aq [0,1] laws_FnCrossingsSum_an), (aq [0,1,1] laws_FnCrossingsSum_an), (aq [0,1,1,1] laws_FnCrossingsSum_an), (aq [0,1,1,1,1] laws_FnCrossingsSum_an), (aq [0,1,1,1,1,1] laws_FnCrossingsSum_an), (aq [0,1,1,1,1,1,1] laws_FnCrossingsSum_an), (aq [0,1,1,1,1,1,1,1] laws_FnCrossingsSum_an)] rfl (link_seq2 (laws_FnCrossingsSum_n1_l x2870) (fun (t : Int × Int × (List Int)) => (laws_FnCrossingsSum_n29_l t.1 t.2.1 t.2.2)) (fun (t : Bool) => t) (by
  rintro t
  · kernel_rfl) (by
  rintro t f K h
  · exact h)))

theorem laws_FnCrossingsSum_e (x2870 : List Int) {r : AV} {H' : Heap} (h : (Ans.mk _ (laws_FnCrossingsSum x2870) (fun (t : Bool) => (dB t, [])) [] none).run = some (r, H')) : Awp laws_FnCrossingsSum_ctx LL (bodyOf Try.f5) laws_FnCrossingsSum_an ⟨mkE 114 0 [(0, dV x2870)], []⟩ (Ret (tlook tys) Try.f5.results.toList r H') :=
  ret_of' (Link.cast (by kernel_rfl) (by kernel_rfl) (laws_FnCrossingsSum_n30_l x2870)) (by unfold laws_FnCrossingsSum; kernel_rfl) (by
  intro t
  exact ret_mk [dB t] (by kernel_rfl) (by kernel_rfl) (by kernel_rfl) (by kernel_rfl)) h

def F_laws_FnCrossingsSum : Fun := fun avs H =>
  match avs, H with
  | [.dat (.list (.int .u8)) x2870], [] => ⟨_, laws_FnCrossingsSum x2870, fun (t : Bool) => (dB t, []), [], none⟩
  | _, _ => Ans.no

theorem laws_FnCrossingsSum_sound : Sound Try.prog 5 F_laws_FnCrossingsSum := by
  refine fn_sound' (C := laws_FnCrossingsSum_ctx) (c := bodyOf Try.f5) (cok_of tys_ok (allc spec_DrawCrossingsSum_sound (allc impl_CrossingsSum_sound (allc spec_CrossingsSum_sound (allc impl_TreeOk_sound (allc laws_alive_sound (allc impl_BackOf_sound (allc impl_PutInOrder_sound (allc impl_CrossingsOf_sound alln)))))))) (allc Try.call24 (allc Try.call25 (allc Try.call26 (allc Try.call16 (allc Try.call17 (allc Try.call18 (allc Try.call27 (allc Try.call22 alln)))))))) (by kernel_rfl)) Try.func5 (by kernel_rfl) LL laws_FnCrossingsSum_an ?_
  intro avs H r H' h
  unfold F_laws_FnCrossingsSum at h
  split at h
  · refine Awp.cast ?_ ?_ ?_ (laws_FnCrossingsSum_e _ h) <;> kernel_rfl
  · simp [Ans.no, Ans.run] at h


end Go.Rv
