/-
  The checked code answers as the plain functions do; written by program. Conditions: none.
-/
import Derived.Test.YtcidinfpacpdaaaGFnSidesFor
import Derived.Test.YtcidinfpacpdaaaProg
set_option linter.unusedVariables false
set_option linter.unusedSimpArgs false
set_option linter.defProp false
set_option maxRecDepth 100000
namespace Go.Rv
open Go.Proofs
theorem ty3 : TIOk Try.prog 3 ⟨.int .i64, 1, 8, some (.int .i64), [.int .i64 0], false⟩ := ⟨⟨infoOf (Try.prog.info? 3), by kernel_rfl, by kernel_rfl, by kernel_rfl, .int .i64 0, by kernel_rfl, by kernel_rfl⟩, (by kernel_rfl : Try.prog.underlying 3 = some (.int .i64)), no_eq⟩
theorem ty4 : TIOk Try.prog 4 ⟨.bool, 1, 1, some .bool, [.bool false], false⟩ := ⟨⟨infoOf (Try.prog.info? 4), by kernel_rfl, by kernel_rfl, by kernel_rfl, .bool false, by kernel_rfl, by kernel_rfl⟩, (by kernel_rfl : Try.prog.underlying 4 = some .bool), no_eq⟩
theorem ty5 : TIOk Try.prog 5 ⟨.int .u8, 1, 1, some (.int .u8), [.int .u8 0], false⟩ := ⟨⟨infoOf (Try.prog.info? 5), by kernel_rfl, by kernel_rfl, by kernel_rfl, .int .u8 0, by kernel_rfl, by kernel_rfl⟩, (by kernel_rfl : Try.prog.underlying 5 = some (.int .u8)), no_eq⟩
theorem ty22 : TIOk Try.prog 22 ⟨.slice 5, 1, 24, some (.list (.int .u8)), [.slice none 0 0], false⟩ := ⟨⟨infoOf (Try.prog.info? 22), by kernel_rfl, by kernel_rfl, by kernel_rfl, .slice none 0 0, by kernel_rfl, by kernel_rfl⟩, (by kernel_rfl : Try.prog.underlying 22 = some (.slice 5)), no_eq⟩
theorem ty23 : TIOk Try.prog 23 ⟨.slice 3, 1, 24, some (.list (.int .i64)), [.slice none 0 0], false⟩ := ⟨⟨infoOf (Try.prog.info? 23), by kernel_rfl, by kernel_rfl, by kernel_rfl, .slice none 0 0, by kernel_rfl, by kernel_rfl⟩, (by kernel_rfl : Try.prog.underlying 23 = some (.slice 3)), no_eq⟩
theorem ty40 : TIOk Try.prog 40 ⟨.arr 9 3, 9, 72, none, [.int .i64 0, .int .i64 0, .int .i64 0, .int .i64 0, .int .i64 0, .int .i64 0, .int .i64 0, .int .i64 0, .int .i64 0], false⟩ := ⟨⟨infoOf (Try.prog.info? 40), by kernel_rfl, by kernel_rfl, by kernel_rfl, .agg #[.int .i64 0, .int .i64 0, .int .i64 0, .int .i64 0, .int .i64 0, .int .i64 0, .int .i64 0, .int .i64 0, .int .i64 0], by kernel_rfl, by kernel_rfl⟩, (by kernel_rfl : Try.prog.underlying 40 = some (.array 9 3)), no_eq⟩
theorem ty42 : TIOk Try.prog 42 ⟨.slice 50, 1, 24, some (.list (.pair (.int .i64) (.pair (.int .i64) .unit))), [.slice none 0 0], false⟩ := ⟨⟨infoOf (Try.prog.info? 42), by kernel_rfl, by kernel_rfl, by kernel_rfl, .slice none 0 0, by kernel_rfl, by kernel_rfl⟩, (by kernel_rfl : Try.prog.underlying 42 = some (.slice 50)), no_eq⟩
theorem ty50 : TIOk Try.prog 50 ⟨.strct [(0, 3), (1, 3)], 2, 16, some (.pair (.int .i64) (.pair (.int .i64) .unit)), [.int .i64 0, .int .i64 0], false⟩ := ⟨⟨infoOf (Try.prog.info? 50), by kernel_rfl, by kernel_rfl, by kernel_rfl, .agg #[.int .i64 0, .int .i64 0], by kernel_rfl, by kernel_rfl⟩, ⟨fieldsOf (Try.prog.underlying 50), by kernel_rfl, by kernel_rfl⟩, no_eq⟩
theorem ty58 : TIOk Try.prog 58 ⟨.strct [(0, 42), (1, 23)], 2, 48, some (.pair (.list (.pair (.int .i64) (.pair (.int .i64) .unit))) (.pair (.list (.int .i64)) .unit)), [.slice none 0 0, .slice none 0 0], false⟩ := ⟨⟨infoOf (Try.prog.info? 58), by kernel_rfl, by kernel_rfl, by kernel_rfl, .agg #[.slice none 0 0, .slice none 0 0], by kernel_rfl, by kernel_rfl⟩, ⟨fieldsOf (Try.prog.underlying 58), by kernel_rfl, by kernel_rfl⟩, no_eq⟩
theorem ty60 : TIOk Try.prog 60 ⟨.slice 23, 1, 24, some (.list (.list (.int .i64))), [.slice none 0 0], false⟩ := ⟨⟨infoOf (Try.prog.info? 60), by kernel_rfl, by kernel_rfl, by kernel_rfl, .slice none 0 0, by kernel_rfl, by kernel_rfl⟩, (by kernel_rfl : Try.prog.underlying 60 = some (.slice 23)), no_eq⟩
theorem ty65 : TIOk Try.prog 65 ⟨.strct [(0, 22), (1, 3)], 2, 32, some (.pair (.list (.int .u8)) (.pair (.int .i64) .unit)), [.slice none 0 0, .int .i64 0], false⟩ := ⟨⟨infoOf (Try.prog.info? 65), by kernel_rfl, by kernel_rfl, by kernel_rfl, .agg #[.slice none 0 0, .int .i64 0], by kernel_rfl, by kernel_rfl⟩, ⟨fieldsOf (Try.prog.underlying 65), by kernel_rfl, by kernel_rfl⟩, no_eq⟩
theorem ty68 : TIOk Try.prog 68 ⟨.strct [(0, 23), (1, 3), (2, 3)], 3, 40, some (.pair (.list (.int .i64)) (.pair (.int .i64) (.pair (.int .i64) .unit))), [.slice none 0 0, .int .i64 0, .int .i64 0], false⟩ := ⟨⟨infoOf (Try.prog.info? 68), by kernel_rfl, by kernel_rfl, by kernel_rfl, .agg #[.slice none 0 0, .int .i64 0, .int .i64 0], by kernel_rfl, by kernel_rfl⟩, ⟨fieldsOf (Try.prog.underlying 68), by kernel_rfl, by kernel_rfl⟩, no_eq⟩
theorem ty70 : TIOk Try.prog 70 ⟨.arr 9 4, 9, 9, none, [.bool false, .bool false, .bool false, .bool false, .bool false, .bool false, .bool false, .bool false, .bool false], false⟩ := ⟨⟨infoOf (Try.prog.info? 70), by kernel_rfl, by kernel_rfl, by kernel_rfl, .agg #[.bool false, .bool false, .bool false, .bool false, .bool false, .bool false, .bool false, .bool false, .bool false], by kernel_rfl, by kernel_rfl⟩, (by kernel_rfl : Try.prog.underlying 70 = some (.array 9 4)), no_eq⟩
theorem ty75 : TIOk Try.prog 75 ⟨.int .u64, 1, 8, some (.int .u64), [.int .u64 0], false⟩ := ⟨⟨infoOf (Try.prog.info? 75), by kernel_rfl, by kernel_rfl, by kernel_rfl, .int .u64 0, by kernel_rfl, by kernel_rfl⟩, (by kernel_rfl : Try.prog.underlying 75 = some (.int .u64)), no_eq⟩
def tys : List (TypeId × TI) := [(3, ⟨.int .i64, 1, 8, some (.int .i64), [.int .i64 0], false⟩), (4, ⟨.bool, 1, 1, some .bool, [.bool false], false⟩), (5, ⟨.int .u8, 1, 1, some (.int .u8), [.int .u8 0], false⟩), (22, ⟨.slice 5, 1, 24, some (.list (.int .u8)), [.slice none 0 0], false⟩), (23, ⟨.slice 3, 1, 24, some (.list (.int .i64)), [.slice none 0 0], false⟩), (40, ⟨.arr 9 3, 9, 72, none, [.int .i64 0, .int .i64 0, .int .i64 0, .int .i64 0, .int .i64 0, .int .i64 0, .int .i64 0, .int .i64 0, .int .i64 0], false⟩), (42, ⟨.slice 50, 1, 24, some (.list (.pair (.int .i64) (.pair (.int .i64) .unit))), [.slice none 0 0], false⟩), (50, ⟨.strct [(0, 3), (1, 3)], 2, 16, some (.pair (.int .i64) (.pair (.int .i64) .unit)), [.int .i64 0, .int .i64 0], false⟩), (58, ⟨.strct [(0, 42), (1, 23)], 2, 48, some (.pair (.list (.pair (.int .i64) (.pair (.int .i64) .unit))) (.pair (.list (.int .i64)) .unit)), [.slice none 0 0, .slice none 0 0], false⟩), (60, ⟨.slice 23, 1, 24, some (.list (.list (.int .i64))), [.slice none 0 0], false⟩), (65, ⟨.strct [(0, 22), (1, 3)], 2, 32, some (.pair (.list (.int .u8)) (.pair (.int .i64) .unit)), [.slice none 0 0, .int .i64 0], false⟩), (68, ⟨.strct [(0, 23), (1, 3), (2, 3)], 3, 40, some (.pair (.list (.int .i64)) (.pair (.int .i64) (.pair (.int .i64) .unit))), [.slice none 0 0, .int .i64 0, .int .i64 0], false⟩), (70, ⟨.arr 9 4, 9, 9, none, [.bool false, .bool false, .bool false, .bool false, .bool false, .bool false, .bool false, .bool false, .bool false], false⟩), (75, ⟨.int .u64, 1, 8, some (.int .u64), [.int .u64 0], false⟩)]
theorem tys_ok : TOk Try.prog (tlook tys) := tok_of (allc ty3 (allc ty4 (allc ty5 (allc ty22 (allc ty23 (allc ty40 (allc ty42 (allc ty50 (allc ty58 (allc ty60 (allc ty65 (allc ty68 (allc ty70 (allc ty75 alln))))))))))))))
def ioF (f : FuncId) (i : Nat) : Bool := [(34, 0), (75, 1)].any fun (p : Nat × Nat) => Nat.beq p.1 f && Nat.beq p.2 i


/-! loop.example/headtrees/spec.l20Open -/

def spec_l20Open_an : Ann := (.seq (.leaf [0]) (.seq (.seq (.leaf [0, 5]) (.cond (.leaf [0]) (.leaf [0]))) (.seq (.leaf [2]) (.leaf [2]))))

noncomputable def spec_l20Open_ctx : Ctx := ⟨tlook tys, olook [], ioF, 0, false, []⟩

theorem spec_l20Open_n1_l (x12 : List Int) : Link spec_l20Open_ctx LL (bodyOf Try.f38) spec_l20Open_an ⟨mkE 11 0 [(0, dV x12)], []⟩ (spec_l20Open_n1 x12) (fun (t : (List Int)) => (Exit.ret, ⟨mkE 11 0 [(2, .ptr 0 0)], [some (.box [dV t, dI 0])]⟩)) := .of fun K h => by
  simp only [spec_l20Open_n1, wpW] at h
  exact .of (by kernel_rfl) h

theorem spec_l20Open_e (x12 : List Int) {r : AV} {H' : Heap} (h : (Ans.mk _ (spec_l20Open x12) (fun (t : (List Int)) => (.ptr 0 0, [some (.box [dV t, dI 0])])) [] none).run = some (r, H')) : Awp spec_l20Open_ctx LL (bodyOf Try.f38) spec_l20Open_an ⟨mkE 11 0 [(0, dV x12)], []⟩ (Ret (tlook tys) Try.f38.results.toList r H') :=
  ret_of' (spec_l20Open_n1_l x12) (by unfold spec_l20Open; kernel_rfl) (by
  intro t
  exact ret_mk [.ptr 0 0] (by kernel_rfl) (by kernel_rfl) (by kernel_rfl) (by kernel_rfl)) h

def F_spec_l20Open : Fun := fun avs H =>
  match avs, H with
  | [.dat (.list (.int .u8)) x12], [] => ⟨_, spec_l20Open x12, fun (t : (List Int)) => (.ptr 0 0, [some (.box [dV t, dI 0])]), [], none⟩
  | _, _ => Ans.no

theorem spec_l20Open_sound : Sound Try.prog 38 F_spec_l20Open := by
  refine fn_sound' (C := spec_l20Open_ctx) (c := bodyOf Try.f38) (cok_of tys_ok (alln) (alln) (by kernel_rfl)) Try.func38 (by kernel_rfl) LL spec_l20Open_an ?_
  intro avs H r H' h
  unfold F_spec_l20Open at h
  split at h
  · refine Awp.cast ?_ ?_ ?_ (spec_l20Open_e _ h) <;> kernel_rfl
  · simp [Ans.no, Ans.run] at h


/-! (*loop.example/headtrees/spec.l20Rd).pick -/

def spec_l20Rd_pick_an : Ann := (.seq (.leaf [0, 1]) (.seq (.leaf [0, 1]) (.seq (.seq (.leaf [0, 1, 24]) (.cond (.seq (.leaf [4]) (.leaf [4])) (.leaf [0, 1]))) (.seq (.leaf [0, 1, 5]) (.seq (.seq (.leaf [0, 1, 5, 36]) (.cond (.seq (.leaf [4]) (.leaf [4])) (.leaf [0, 1, 5]))) (.seq (.draw [] [0, 1, 2, 3, 4, 5, 6, 7, 8, 9, 10, 11, 12, 13, 14, 15, 16, 17, 18, 19, 20, 21, 22, 23, 24, 25, 26, 27, 28, 29, 30, 31, 32, 33, 34, 35, 36, 37, 38, 39, 40, 41, 42, 43, 44, 45] [] [1, 6]) (.seq (.leaf [1, 6]) (.seq (.leaf [4]) (.leaf [4])))))))))

noncomputable def spec_l20Rd_pick_ctx : Ctx := ⟨tlook tys, olook [], ioF, 1, false, []⟩

theorem spec_l20Rd_pick_n1_l (x41 : Int) (x42 : List Int) (x43 : Int) : Link spec_l20Rd_pick_ctx LL (bodyOf Try.f61) spec_l20Rd_pick_an ⟨mkE 99 0 [(0, .ptr 0 0), (1, dI x41)], [some (.box [dV x42, dI x43])]⟩ (spec_l20Rd_pick_n1 x41 x42 x43) (fun (t : Int × Int) => (Exit.ret, ⟨mkE 99 0 [(4, dI t.1)], [some (.box [dV x42, dI t.2])]⟩)) := .of fun K h => by
  simp only [spec_l20Rd_pick_n1, wpW] at h
  exact .of (by kernel_rfl) h

theorem spec_l20Rd_pick_e (x41 : Int) (x42 : List Int) (x43 : Int) {r : AV} {H' : Heap} (h : (Ans.mk _ (spec_l20Rd_pick x41 x42 x43) (fun (t : Int × Int) => (dI t.1, [some (.box [dV x42, dI t.2])])) [] none).run = some (r, H')) : Awp spec_l20Rd_pick_ctx LL (bodyOf Try.f61) spec_l20Rd_pick_an ⟨mkE 99 0 [(0, .ptr 0 0), (1, dI x41)], [some (.box [dV x42, dI x43])]⟩ (Ret (tlook tys) Try.f61.results.toList r H') :=
  ret_of' (spec_l20Rd_pick_n1_l x41 x42 x43) (by unfold spec_l20Rd_pick; kernel_rfl) (by
  intro t
  exact ret_mk [dI t.1] (by kernel_rfl) (by kernel_rfl) (by kernel_rfl) (by kernel_rfl)) h

def F_spec_l20Rd_pick : Fun := fun avs H =>
  match avs, H with
  | [.ptr 0 0, .dat (.int .i64) x41], [some (.box [.dat (.list (.int .u8)) x42, .dat (.int .i64) x43])] => ⟨_, spec_l20Rd_pick x41 x42 x43, fun (t : Int × Int) => (dI t.1, [some (.box [dV x42, dI t.2])]), [], none⟩
  | _, _ => Ans.no

theorem spec_l20Rd_pick_sound : Sound Try.prog 61 F_spec_l20Rd_pick := by
  refine fn_sound' (C := spec_l20Rd_pick_ctx) (c := bodyOf Try.f61) (cok_of tys_ok (alln) (alln) (by kernel_rfl)) Try.func61 (by kernel_rfl) LL spec_l20Rd_pick_an ?_
  intro avs H r H' h
  unfold F_spec_l20Rd_pick at h
  split at h
  · refine Awp.cast ?_ ?_ ?_ (spec_l20Rd_pick_e _ _ _ h) <;> kernel_rfl
  · simp [Ans.no, Ans.run] at h


/-! loop.example/headtrees/spec.l20Order -/

def spec_l20Order_an : Ann := (.seq (.leaf [0, 1]) (.seq (.leaf [0, 1, 5]) (.seq (.leaf [0, 1, 5, 6]) (.seq (.seq (.leaf [0, 1, 5, 6, 7]) (.block (.loop (.seq (.seq (.leaf [0, 1, 5, 6, 7, 15]) (.cond (.leaf [0, 1, 5, 6, 7]) (.leaf [5]))) (.seq (.block (.seq (.leaf [0, 1, 5, 6, 7, 8]) (.seq (.seq (.leaf [0, 1, 5, 6, 7, 8, 26]) (.cond (.leaf [0, 1, 5, 6, 7, 8]) (.leaf [0, 1, 5, 6, 7, 8]))) (.seq (.leaf [0, 1, 5, 6, 7, 8, 9]) (.seq (.leaf [0, 1, 5, 6, 7, 8, 9]) (.leaf [0, 1, 5, 6, 7])))))) (.leaf [0, 1, 5, 6, 7])))))) (.seq (.leaf [4]) (.leaf [4]))))))

noncomputable def spec_l20Order_ctx : Ctx := ⟨tlook tys, olook [(61, F_spec_l20Rd_pick)], ioF, 1, false, []⟩

theorem spec_l20Order_n1_l (x204 : Int) (x205 : List Int) (x206 : Int) : Link spec_l20Order_ctx LL (Code.seq (cq [0] (bodyOf Try.f63)) (Code.seq (cq [0,1] (bodyOf Try.f63)) (cq [0,1,1] (bodyOf Try.f63)))) (Ann.seq (aq [0] spec_l20Order_an) (Ann.seq (aq [0,1] spec_l20Order_an) (aq [0,1,1] spec_l20Order_an))) ⟨mkE 45 0 [(0, .ptr 0 0), (1, dI x204)], [some (.box [dV x205, dI x206])]⟩ (spec_l20Order_n1 x205 x206) (fun (t : Int × Int) => (Exit.normal, ⟨mkE 45 0 [(0, .ptr 0 0), (1, dI x204), (5, .slc 1), (6, dI t.1)], [some (.box [dV x205, dI t.2]), some (sI ([] : List Int))]⟩)) := .of fun K h => by
  simp only [spec_l20Order_n1, wpW] at h
  exact .of (by kernel_rfl) h

theorem spec_l20Order_n2_l (x204 : Int) (x209 : Int) (x205 : List Int) (x210 : Int) : Link spec_l20Order_ctx LL (cq [0,0,1,1,1] (bodyOf Try.f63)) (aq [0,0,1,1,1] spec_l20Order_an) ⟨mkE 45 0 [(0, .ptr 0 0), (1, dI x204), (5, .slc 1), (6, dI x209)], [some (.box [dV x205, dI x210]), some (sI ([] : List Int))]⟩ (spec_l20Order_n2) (fun (t : Unit) => (Exit.normal, ⟨mkE 45 0 [(0, .ptr 0 0), (1, dI x204), (5, .slc 1), (6, dI x209), (7, dI 1)], [some (.box [dV x205, dI x210]), some (sI ([] : List Int))]⟩)) := .of fun K h => by
  simp only [spec_l20Order_n2, wpW] at h
  exact .of (by kernel_rfl) h

theorem spec_l20Order_n3_l (x204 : Int) (x209 : Int) (x352 : Int) (x205 : List Int) (x353 : Int) (x354 : List Int) : Link spec_l20Order_ctx LL (cq [0,0,1,0,1,1,1] (bodyOf Try.f63)) (aq [0,0,1,0,1,1,1] spec_l20Order_an) ⟨mkE 45 0 [(0, .ptr 0 0), (1, dI x204), (5, .slc 1), (6, dI x209), (7, dI x352)], [some (.box [dV x205, dI x353]), some (sI x354)]⟩ (spec_l20Order_n3 x204 x209 x352 x205 x353 x354) (Sum.elim (fun (t : Int × Int × (List Int)) => (Exit.normal, ⟨mkE 45 0 [(0, .ptr 0 0), (1, dI x204), (5, .slc 1), (6, dI x209), (7, dI t.1)], [some (.box [dV x205, dI t.2.1]), some (sI t.2.2)]⟩)) (fun (t : Int × (List Int)) => ((Exit.exit 0), ⟨mkE 45 0 [(5, .slc 1)], [some (.box [dV x205, dI t.1]), some (sI t.2)]⟩))) := .of fun K h => by
  simp only [spec_l20Order_n3, wpW] at h
  exact .of (by kernel_rfl) h

def spec_l20Order_n4_l (x204 : Int) (x209 : Int) (x205 : List Int) (x210 : Int) := (link_loop (mk := fun (s : Int × Int × (List Int)) => ⟨mkE 45 0 [(0, .ptr 0 0), (1, dI x204), (5, .slc 1), (6, dI x209), (7, dI s.1)], [some (.box [dV x205, dI s.2.1]), some (sI s.2.2)]⟩) (fin := (fun (t : Int × (List Int)) => ((Exit.exit 0), ⟨mkE 45 0 [(5, .slc 1)], [some (.box [dV x205, dI t.1]), some (sI t.2)]⟩))) (by
  rintro t f K h
  · exact h) (fun s => link_map (spec_l20Order_n3_l x204 x209 s.1 x205 s.2.1 s.2.2) (Sum.elim (fun (t : Int × Int × (List Int)) => Sum.inl (t.1, t.2.1, t.2.2)) (fun (t : Int × (List Int)) => Sum.inr t)) (by
  rintro (t | t)
  · kernel_rfl
  · kernel_rfl)) (1, x210, ([] : List Int)))

def spec_l20Order_n5_l (x204 : Int) (x209 : Int) (x205 : List Int) (x210 : Int) := (link_block (fin2 := (fun (t : Int × (List Int)) => (Exit.normal, ⟨mkE 45 0 [(5, .slc 1)], [some (.box [dV x205, dI t.1]), some (sI t.2)]⟩))) (id := 0) (spec_l20Order_n4_l x204 x209 x205 x210) (fun (t : Int × (List Int)) => (t.1, t.2)) (by
  rintro t K h
  · exact Eq.mp (by kernel_rfl) h))

def spec_l20Order_n6_l (x204 : Int) (x209 : Int) (x205 : List Int) (x210 : Int) := (link_seq (spec_l20Order_n2_l x204 x209 x205 x210) (fun (t : Unit) => (spec_l20Order_n5_l x204 x209 x205 x210)))

theorem spec_l20Order_n7_l (x205 : List Int) (x353 : Int) (x354 : List Int) : Link spec_l20Order_ctx LL (cq [1,1,1,1] (bodyOf Try.f63)) (aq [1,1,1,1] spec_l20Order_an) ⟨mkE 45 0 [(5, .slc 1)], [some (.box [dV x205, dI x353]), some (sI x354)]⟩ (spec_l20Order_n7 x353 x354) (fun (t : Int × (List Int)) => (Exit.ret, ⟨mkE 45 0 [(4, .slc 1)], [some (.box [dV x205, dI t.1]), some (sI t.2)]⟩)) := .of fun K h => by
  simp only [spec_l20Order_n7, wpW] at h
  exact .of (by kernel_rfl) h

def spec_l20Order_n8_l (x204 : Int) (x209 : Int) (x205 : List Int) (x210 : Int) := (link_seq (spec_l20Order_n6_l x204 x209 x205 x210) (fun (t : Int × (List Int)) => (spec_l20Order_n7_l x205 t.1 t.2)))

def spec_l20Order_n9_l (x204 : Int) (x205 : List Int) (x206 : Int) := (link_group (c := (cq [0,1,1] (bodyOf Try.f63))) (a := (aq [0,1,1] spec_l20Order_an)) [(cq [0] (bodyOf Try.f63)), (cq [0,1] (bodyOf Try.f63))] [(aq [0] spec_l20Order_an), (aq [0,1] spec_l20Order_an)] rfl (link_seq (spec_l20Order_n1_l x204 x205 x206) (fun (t : Int × Int) => (spec_l20Order_n8_l x204 t.1 x205 t.2))))

theorem spec_l20Order_e (x204 : Int) (x205 : List Int) (x206 : Int) {r : AV} {H' : Heap} (h : (Ans.mk _ (spec_l20Order x204 x205 x206) (fun (t : Int × (List Int)) => (.slc 1, [some (.box [dV x205, dI t.1]), some (sI t.2)])) [] none).run = some (r, H')) : Awp spec_l20Order_ctx LL (bodyOf Try.f63) spec_l20Order_an ⟨mkE 45 0 [(0, .ptr 0 0), (1, dI x204)], [some (.box [dV x205, dI x206])]⟩ (Ret (tlook tys) Try.f63.results.toList r H') :=
  ret_of' (Link.cast (by kernel_rfl) (by kernel_rfl) (spec_l20Order_n9_l x204 x205 x206)) (by unfold spec_l20Order; kernel_rfl) (by
  intro t
  exact ret_mk [.slc 1] (by kernel_rfl) (by kernel_rfl) (by kernel_rfl) (by kernel_rfl)) h

def F_spec_l20Order : Fun := fun avs H =>
  match avs, H with
  | [.ptr 0 0, .dat (.int .i64) x204], [some (.box [.dat (.list (.int .u8)) x205, .dat (.int .i64) x206])] => ⟨_, spec_l20Order x204 x205 x206, fun (t : Int × (List Int)) => (.slc 1, [some (.box [dV x205, dI t.1]), some (sI t.2)]), [], none⟩
  | _, _ => Ans.no

theorem spec_l20Order_sound : Sound Try.prog 63 F_spec_l20Order := by
  refine fn_sound' (C := spec_l20Order_ctx) (c := bodyOf Try.f63) (cok_of tys_ok (allc spec_l20Rd_pick_sound alln) (allc Try.call61 alln) (by kernel_rfl)) Try.func63 (by kernel_rfl) LL spec_l20Order_an ?_
  intro avs H r H' h
  unfold F_spec_l20Order at h
  split at h
  · refine Awp.cast ?_ ?_ ?_ (spec_l20Order_e _ _ _ h) <;> kernel_rfl
  · simp [Ans.no, Ans.run] at h


/-! (*loop.example/headtrees/spec.l20Rd).odd -/

def spec_l20Rd_odd_an : Ann := (.seq (.leaf [0, 1]) (.seq (.leaf [4]) (.leaf [4])))

noncomputable def spec_l20Rd_odd_ctx : Ctx := ⟨tlook tys, olook [(61, F_spec_l20Rd_pick)], ioF, 1, false, []⟩

theorem spec_l20Rd_odd_n1_l (x661 : Int) (x662 : List Int) (x663 : Int) : Link spec_l20Rd_odd_ctx LL (bodyOf Try.f73) spec_l20Rd_odd_an ⟨mkE 15 0 [(0, .ptr 0 0), (1, dI x661)], [some (.box [dV x662, dI x663])]⟩ (spec_l20Rd_odd_n1 x661 x662 x663) (fun (t : Bool × Int) => (Exit.ret, ⟨mkE 15 0 [(4, dB t.1)], [some (.box [dV x662, dI t.2])]⟩)) := .of fun K h => by
  simp only [spec_l20Rd_odd_n1, wpW] at h
  exact .of (by kernel_rfl) h

theorem spec_l20Rd_odd_e (x661 : Int) (x662 : List Int) (x663 : Int) {r : AV} {H' : Heap} (h : (Ans.mk _ (spec_l20Rd_odd x661 x662 x663) (fun (t : Bool × Int) => (dB t.1, [some (.box [dV x662, dI t.2])])) [] none).run = some (r, H')) : Awp spec_l20Rd_odd_ctx LL (bodyOf Try.f73) spec_l20Rd_odd_an ⟨mkE 15 0 [(0, .ptr 0 0), (1, dI x661)], [some (.box [dV x662, dI x663])]⟩ (Ret (tlook tys) Try.f73.results.toList r H') :=
  ret_of' (spec_l20Rd_odd_n1_l x661 x662 x663) (by unfold spec_l20Rd_odd; kernel_rfl) (by
  intro t
  exact ret_mk [dB t.1] (by kernel_rfl) (by kernel_rfl) (by kernel_rfl) (by kernel_rfl)) h

def F_spec_l20Rd_odd : Fun := fun avs H =>
  match avs, H with
  | [.ptr 0 0, .dat (.int .i64) x661], [some (.box [.dat (.list (.int .u8)) x662, .dat (.int .i64) x663])] => ⟨_, spec_l20Rd_odd x661 x662 x663, fun (t : Bool × Int) => (dB t.1, [some (.box [dV x662, dI t.2])]), [], none⟩
  | _, _ => Ans.no

theorem spec_l20Rd_odd_sound : Sound Try.prog 73 F_spec_l20Rd_odd := by
  refine fn_sound' (C := spec_l20Rd_odd_ctx) (c := bodyOf Try.f73) (cok_of tys_ok (allc spec_l20Rd_pick_sound alln) (allc Try.call61 alln) (by kernel_rfl)) Try.func73 (by kernel_rfl) LL spec_l20Rd_odd_an ?_
  intro avs H r H' h
  unfold F_spec_l20Rd_odd at h
  split at h
  · refine Awp.cast ?_ ?_ ?_ (spec_l20Rd_odd_e _ _ _ h) <;> kernel_rfl
  · simp [Ans.no, Ans.run] at h


/-! loop.example/headtrees/spec.l20Tree -/

def spec_l20Tree_an : Ann := (.seq (.leaf [0, 1]) (.seq (.leaf [0, 1, 5]) (.seq (.leaf [0, 1, 5, 6]) (.seq (.leaf [0, 1, 5, 6, 7]) (.seq (.leaf [0, 1, 5, 6, 7, 8]) (.seq (.seq (.leaf [0, 1, 5, 6, 7, 8, 9]) (.block (.loop (.seq (.seq (.leaf [0, 1, 5, 6, 7, 8, 9, 23]) (.cond (.leaf [0, 1, 5, 6, 7, 8, 9]) (.leaf [0, 1, 5, 7]))) (.seq (.block (.seq (.leaf [0, 1, 5, 6, 7, 8, 9, 10]) (.seq (.seq (.leaf [0, 1, 5, 6, 7, 8, 9, 10, 35]) (.cond (.leaf [0, 1, 5, 6, 7, 8, 9, 10]) (.leaf [0, 1, 5, 6, 7, 8, 9, 10]))) (.draw [] [0, 1, 2, 3, 4, 5, 6, 7, 8, 9, 10, 11] [] [0, 1, 5, 6, 7, 8, 9])))) (.leaf [0, 1, 5, 6, 7, 8, 9])))))) (.seq (.seq (.leaf [0, 5, 7, 51]) (.cond (.seq (.leaf [0, 5, 7, 53]) (.block (.seq (.leaf [0, 5, 7, 53, 63]) (.cond (.seq (.leaf [4]) (.leaf [4])) (.seq (.leaf [0, 5, 7, 53, 66]) (.cond (.seq (.leaf [4]) (.leaf [4])) (.seq (.leaf [0, 5, 7, 69]) (.cond (.seq (.leaf [7]) (.seq (.leaf [4]) (.leaf [4]))) (.leaf [7]))))))))) (.leaf [7]))) (.seq (.leaf [4]) (.leaf [4])))))))))

noncomputable def spec_l20Tree_ctx : Ctx := ⟨tlook tys, olook [(61, F_spec_l20Rd_pick), (63, F_spec_l20Order), (73, F_spec_l20Rd_odd)], ioF, 1, false, []⟩

theorem spec_l20Tree_n1_l (x37 : Int) (x38 : List Int) (x39 : Int) : Link spec_l20Tree_ctx LL (Code.seq (cq [0] (bodyOf Try.f60)) (Code.seq (cq [0,1] (bodyOf Try.f60)) (Code.seq (cq [0,1,1] (bodyOf Try.f60)) (Code.seq (cq [0,1,1,1] (bodyOf Try.f60)) (cq [0,1,1,1,1] (bodyOf Try.f60)))))) (Ann.seq (aq [0] spec_l20Tree_an) (Ann.seq (aq [0,1] spec_l20Tree_an) (Ann.seq (aq [0,1,1] spec_l20Tree_an) (Ann.seq (aq [0,1,1,1] spec_l20Tree_an) (aq [0,1,1,1,1] spec_l20Tree_an))))) ⟨mkE 80 0 [(0, .ptr 0 0), (1, dI x37)], [some (.box [dV x38, dI x39])]⟩ (spec_l20Tree_n1 x38 x39) (fun (t : Int × Int × Int × (List Int) × (List Int)) => (Exit.normal, ⟨mkE 80 0 [(0, .ptr 0 0), (1, dI x37), (5, dI t.1), (6, .slc 1), (7, .slc 2), (8, dI t.2.1)], [some (.box [dV x38, dI t.2.2.1]), some (sI t.2.2.2.1), some (sI t.2.2.2.2)]⟩)) := .of fun K h => by
  simp only [spec_l20Tree_n1, wpW] at h
  exact .of (by kernel_rfl) h

theorem spec_l20Tree_n2_l (x37 : Int) (x511 : Int) (x518 : Int) (x38 : List Int) (x519 : Int) (x514 : List Int) (x516 : List Int) : Link spec_l20Tree_ctx LL (cq [0,0,1,1,1,1,1] (bodyOf Try.f60)) (aq [0,0,1,1,1,1,1] spec_l20Tree_an) ⟨mkE 80 0 [(0, .ptr 0 0), (1, dI x37), (5, dI x511), (6, .slc 1), (7, .slc 2), (8, dI x518)], [some (.box [dV x38, dI x519]), some (sI x514), some (sI x516)]⟩ (spec_l20Tree_n2) (fun (t : Unit) => (Exit.normal, ⟨mkE 80 0 [(0, .ptr 0 0), (1, dI x37), (5, dI x511), (6, .slc 1), (7, .slc 2), (8, dI x518), (9, dI 1)], [some (.box [dV x38, dI x519]), some (sI x514), some (sI x516)]⟩)) := .of fun K h => by
  simp only [spec_l20Tree_n2, wpW] at h
  exact .of (by kernel_rfl) h

theorem spec_l20Tree_n3_l (x37 : Int) (x511 : Int) (x518 : Int) (x589 : Int) (x38 : List Int) (x590 : Int) (x514 : List Int) (x591 : List Int) : Link spec_l20Tree_ctx LL (cq [0,0,1,0,1,1,1,1,1] (bodyOf Try.f60)) (aq [0,0,1,0,1,1,1,1,1] spec_l20Tree_an) ⟨mkE 80 0 [(0, .ptr 0 0), (1, dI x37), (5, dI x511), (6, .slc 1), (7, .slc 2), (8, dI x518), (9, dI x589)], [some (.box [dV x38, dI x590]), some (sI x514), some (sI x591)]⟩ (spec_l20Tree_n3 x511 x518 x589 x38 x590 x514 x591) (Sum.elim (fun (t : Int × Int × (List Int)) => (Exit.normal, ⟨mkE 80 0 [(0, .ptr 0 0), (1, dI x37), (5, dI x511), (6, .slc 1), (7, .slc 2), (8, dI x518), (9, dI t.1)], [some (.box [dV x38, dI t.2.1]), some (sI x514), some (sI t.2.2)]⟩)) (fun (t : Int × (List Int)) => ((Exit.exit 0), ⟨mkE 80 0 [(0, .ptr 0 0), (1, dI x37), (5, dI x511), (7, .slc 1)], [some (.box [dV x38, dI t.1]), some (sI t.2)]⟩))) := .of fun K h => by
  simp only [spec_l20Tree_n3, wpW] at h
  exact .of (by kernel_rfl) h

def spec_l20Tree_n4_l (x37 : Int) (x511 : Int) (x518 : Int) (x38 : List Int) (x519 : Int) (x514 : List Int) (x516 : List Int) := (link_loop (mk := fun (s : Int × Int × (List Int)) => ⟨mkE 80 0 [(0, .ptr 0 0), (1, dI x37), (5, dI x511), (6, .slc 1), (7, .slc 2), (8, dI x518), (9, dI s.1)], [some (.box [dV x38, dI s.2.1]), some (sI x514), some (sI s.2.2)]⟩) (fin := (fun (t : Int × (List Int)) => ((Exit.exit 0), ⟨mkE 80 0 [(0, .ptr 0 0), (1, dI x37), (5, dI x511), (7, .slc 1)], [some (.box [dV x38, dI t.1]), some (sI t.2)]⟩))) (by
  rintro t f K h
  · exact h) (fun s => link_map (spec_l20Tree_n3_l x37 x511 x518 s.1 x38 s.2.1 x514 s.2.2) (Sum.elim (fun (t : Int × Int × (List Int)) => Sum.inl (t.1, t.2.1, t.2.2)) (fun (t : Int × (List Int)) => Sum.inr t)) (by
  rintro (t | t)
  · kernel_rfl
  · kernel_rfl)) (1, x519, x516))

def spec_l20Tree_n5_l (x37 : Int) (x511 : Int) (x518 : Int) (x38 : List Int) (x519 : Int) (x514 : List Int) (x516 : List Int) := (link_block (fin2 := (fun (t : Int × (List Int)) => (Exit.normal, ⟨mkE 80 0 [(0, .ptr 0 0), (1, dI x37), (5, dI x511), (7, .slc 1)], [some (.box [dV x38, dI t.1]), some (sI t.2)]⟩))) (id := 0) (spec_l20Tree_n4_l x37 x511 x518 x38 x519 x514 x516) (fun (t : Int × (List Int)) => (t.1, t.2)) (by
  rintro t K h
  · exact Eq.mp (by kernel_rfl) h))

def spec_l20Tree_n6_l (x37 : Int) (x511 : Int) (x518 : Int) (x38 : List Int) (x519 : Int) (x514 : List Int) (x516 : List Int) := (link_seq (spec_l20Tree_n2_l x37 x511 x518 x38 x519 x514 x516) (fun (t : Unit) => (spec_l20Tree_n5_l x37 x511 x518 x38 x519 x514 x516)))

theorem spec_l20Tree_n7_l (x37 : Int) (x511 : Int) (x38 : List Int) (x590 : Int) (x591 : List Int) : Link spec_l20Tree_ctx LL (cq [1,1,1,1,1,1] (bodyOf Try.f60)) (aq [1,1,1,1,1,1] spec_l20Tree_an) ⟨mkE 80 0 [(0, .ptr 0 0), (1, dI x37), (5, dI x511), (7, .slc 1)], [some (.box [dV x38, dI x590]), some (sI x591)]⟩ (spec_l20Tree_n7 x37 x511 x38 x590 x591) (fun (t : Int × (List Int)) => (Exit.ret, ⟨mkE 80 0 [(4, .slc 1)], [some (.box [dV x38, dI t.1]), some (sI t.2)]⟩)) := .of fun K h => by
  simp only [spec_l20Tree_n7, wpW] at h
  exact .of (by kernel_rfl) h

def spec_l20Tree_n8_l (x37 : Int) (x511 : Int) (x518 : Int) (x38 : List Int) (x519 : Int) (x514 : List Int) (x516 : List Int) := (link_seq (spec_l20Tree_n6_l x37 x511 x518 x38 x519 x514 x516) (fun (t : Int × (List Int)) => (spec_l20Tree_n7_l x37 x511 x38 t.1 t.2)))

def spec_l20Tree_n9_l (x37 : Int) (x38 : List Int) (x39 : Int) := (link_group (c := (cq [0,1,1,1,1] (bodyOf Try.f60))) (a := (aq [0,1,1,1,1] spec_l20Tree_an)) [(cq [0] (bodyOf Try.f60)), (cq [0,1] (bodyOf Try.f60)), (cq [0,1,1] (bodyOf Try.f60)), (cq [0,1,1,1] (bodyOf Try.f60))] [(aq [0] spec_l20Tree_an), (aq [0,1] spec_l20Tree_an), (aq [0,1,1] spec_l20Tree_an), (aq [0,1,1,1] spec_l20Tree_an)] rfl (link_seq (spec_l20Tree_n1_l x37 x38 x39) (fun (t : Int × Int × Int × (List Int) × (List Int)) => (spec_l20Tree_n8_l x37 t.1 t.2.1 x38 t.2.2.1 t.2.2.2.1 t.2.2.2.2))))

theorem spec_l20Tree_e (x37 : Int) (x38 : List Int) (x39 : Int) {r : AV} {H' : Heap} (h : (Ans.mk _ (spec_l20Tree x37 x38 x39) (fun (t : Int × (List Int)) => (.slc 1, [some (.box [dV x38, dI t.1]), some (sI t.2)])) [] none).run = some (r, H')) : Awp spec_l20Tree_ctx LL (bodyOf Try.f60) spec_l20Tree_an ⟨mkE 80 0 [(0, .ptr 0 0), (1, dI x37)], [some (.box [dV x38, dI x39])]⟩ (Ret (tlook tys) Try.f60.results.toList r H') :=
  ret_of' (Link.cast (by kernel_rfl) (by kernel_rfl) (spec_l20Tree_n9_l x37 x38 x39)) (by unfold spec_l20Tree; kernel_rfl) (by
  intro t
  exact ret_mk [.slc 1] (by kernel_rfl) (by kernel_rfl) (by kernel_rfl) (by kernel_rfl)) h

def F_spec_l20Tree : Fun := fun avs H =>
  match avs, H with
  | [.ptr 0 0, .dat (.int .i64) x37], [some (.box [.dat (.list (.int .u8)) x38, .dat (.int .i64) x39])] => ⟨_, spec_l20Tree x37 x38 x39, fun (t : Int × (List Int)) => (.slc 1, [some (.box [dV x38, dI t.1]), some (sI t.2)]), [], none⟩
  | _, _ => Ans.no

theorem spec_l20Tree_sound : Sound Try.prog 60 F_spec_l20Tree := by
  refine fn_sound' (C := spec_l20Tree_ctx) (c := bodyOf Try.f60) (cok_of tys_ok (allc spec_l20Rd_pick_sound (allc spec_l20Order_sound (allc spec_l20Rd_odd_sound alln))) (allc Try.call61 (allc Try.call63 (allc Try.call73 alln))) (by kernel_rfl)) Try.func60 (by kernel_rfl) LL spec_l20Tree_an ?_
  intro avs H r H' h
  unfold F_spec_l20Tree at h
  split at h
  · refine Awp.cast ?_ ?_ ?_ (spec_l20Tree_e _ _ _ h) <;> kernel_rfl
  · simp [Ans.no, Ans.run] at h


/-! loop.example/headtrees/spec.l1In -/

def spec_l1In_an : Ann := (.seq (.leaf [0, 1, 2]) (.seq (.leaf [6]) (.leaf [6])))

noncomputable def spec_l1In_ctx : Ctx := ⟨tlook tys, olook [], ioF, 0, false, []⟩

theorem spec_l1In_n1_l (x780 : Int) (x781 : Int) (x782 : Int) : Link spec_l1In_ctx LL (bodyOf Try.f65) spec_l1In_an ⟨mkE 15 0 [(0, dI x780), (1, dI x781), (2, dI x782)], []⟩ (spec_l1In_n1 x780 x781 x782) (fun (t : Bool) => (Exit.ret, ⟨mkE 15 0 [(6, dB t)], []⟩)) := .of fun K h => by
  simp only [spec_l1In_n1, wpW] at h
  exact .of (by kernel_rfl) h

theorem spec_l1In_e (x780 : Int) (x781 : Int) (x782 : Int) {r : AV} {H' : Heap} (h : (Ans.mk _ (spec_l1In x780 x781 x782) (fun (t : Bool) => (dB t, [])) [] none).run = some (r, H')) : Awp spec_l1In_ctx LL (bodyOf Try.f65) spec_l1In_an ⟨mkE 15 0 [(0, dI x780), (1, dI x781), (2, dI x782)], []⟩ (Ret (tlook tys) Try.f65.results.toList r H') :=
  ret_of' (spec_l1In_n1_l x780 x781 x782) (by unfold spec_l1In; kernel_rfl) (by
  intro t
  exact ret_mk [dB t] (by kernel_rfl) (by kernel_rfl) (by kernel_rfl) (by kernel_rfl)) h

def F_spec_l1In : Fun := fun avs H =>
  match avs, H with
  | [.dat (.int .i64) x780, .dat (.int .i64) x781, .dat (.int .i64) x782], [] => ⟨_, spec_l1In x780 x781 x782, fun (t : Bool) => (dB t, []), [], none⟩
  | _, _ => Ans.no

theorem spec_l1In_sound : Sound Try.prog 65 F_spec_l1In := by
  refine fn_sound' (C := spec_l1In_ctx) (c := bodyOf Try.f65) (cok_of tys_ok (alln) (alln) (by kernel_rfl)) Try.func65 (by kernel_rfl) LL spec_l1In_an ?_
  intro avs H r H' h
  unfold F_spec_l1In at h
  split at h
  · refine Awp.cast ?_ ?_ ?_ (spec_l1In_e _ _ _ h) <;> kernel_rfl
  · simp [Ans.no, Ans.run] at h


/-! loop.example/headtrees/spec.TreeOk -/

def spec_TreeOk_an : Ann := (.seq (.leaf [0]) (.seq (.leaf [0, 3]) (.seq (.seq (.leaf [0, 3, 12]) (.cond (.seq (.leaf [2]) (.leaf [2])) (.leaf [0, 3]))) (.seq (.leaf [0, 3, 4]) (.seq (.seq (.leaf [0, 3, 4, 5]) (.block (.loop (.seq (.seq (.leaf [0, 3, 4, 5, 15]) (.cond (.leaf [0, 3, 4, 5]) (.leaf [4]))) (.seq (.block (.seq (.seq (.leaf [0, 3, 4, 5, 33]) (.cond (.seq (.leaf [2]) (.leaf [2])) (.leaf [0, 3, 4, 5]))) (.seq (.seq (.leaf [0, 3, 4, 5, 38]) (.cond (.leaf [0, 3, 4, 5]) (.leaf [0, 3, 4, 5]))) (.seq (.leaf [0, 3, 4, 5, 6]) (.seq (.seq (.leaf [0, 3, 4, 5, 6, 7]) (.block (.loop (.seq (.seq (.leaf [0, 3, 4, 5, 6, 7, 49]) (.cond (.leaf [0, 3, 4, 5, 6, 7]) (.leaf [0, 3, 4, 5, 6]))) (.seq (.block (.seq (.leaf [0, 3, 4, 5, 6, 7]) (.seq (.leaf [0, 3, 4, 5, 6, 7, 60]) (.cond (.seq (.leaf [2]) (.leaf [2])) (.leaf [0, 3, 4, 5, 6, 7]))))) (.leaf [0, 3, 4, 5, 6, 7])))))) (.seq (.leaf [0, 3, 4, 5, 62]) (.cond (.seq (.leaf [2]) (.leaf [2])) (.leaf [0, 3, 4, 5])))))))) (.leaf [0, 3, 4, 5])))))) (.seq (.leaf [2]) (.leaf [2])))))))

noncomputable def spec_TreeOk_ctx : Ctx := ⟨tlook tys, olook [(65, F_spec_l1In)], ioF, 0, false, []⟩

theorem spec_TreeOk_n1_l (x776 : List Int) : Link spec_TreeOk_ctx LL (Code.seq (cq [0] (bodyOf Try.f42)) (Code.seq (cq [0,1] (bodyOf Try.f42)) (Code.seq (cq [0,1,1] (bodyOf Try.f42)) (cq [0,1,1,1] (bodyOf Try.f42))))) (Ann.seq (aq [0] spec_TreeOk_an) (Ann.seq (aq [0,1] spec_TreeOk_an) (Ann.seq (aq [0,1,1] spec_TreeOk_an) (aq [0,1,1,1] spec_TreeOk_an)))) ⟨mkE 65 0 [(0, dL x776)], []⟩ (spec_TreeOk_n1 x776) (Sum.elim (fun (t : Int) => (Exit.normal, ⟨mkE 65 0 [(0, dL x776), (3, dI t), (4, dI 0)], []⟩)) (fun (t : Bool) => (Exit.ret, ⟨mkE 65 0 [(2, dB t)], []⟩))) := .of fun K h => by
  simp only [spec_TreeOk_n1, wpW] at h
  exact .of (by kernel_rfl) h

theorem spec_TreeOk_n2_l (x776 : List Int) (x790 : Int) : Link spec_TreeOk_ctx LL (cq [0,0,1,1,1,1] (bodyOf Try.f42)) (aq [0,0,1,1,1,1] spec_TreeOk_an) ⟨mkE 65 0 [(0, dL x776), (3, dI x790), (4, dI 0)], []⟩ (spec_TreeOk_n2) (fun (t : Unit) => (Exit.normal, ⟨mkE 65 0 [(0, dL x776), (3, dI x790), (4, dI 0), (5, dI 0)], []⟩)) := .of fun K h => by
  simp only [spec_TreeOk_n2, wpW] at h
  exact .of (by kernel_rfl) h

theorem spec_TreeOk_n3_l (x776 : List Int) (x790 : Int) (x857 : Int) (x858 : Int) : Link spec_TreeOk_ctx LL (cq [0,0,0,1,0,1,1,1,1] (bodyOf Try.f42)) (aq [0,0,0,1,0,1,1,1,1] spec_TreeOk_an) ⟨mkE 65 0 [(0, dL x776), (3, dI x790), (4, dI x857), (5, dI x858)], []⟩ (spec_TreeOk_n3 x790 x857 x858) (Sum.elim (fun (t : Unit) => (Exit.normal, ⟨mkE 65 0 [(0, dL x776), (3, dI x790), (4, dI x857), (5, dI x858)], []⟩)) (fun (t : Int) => ((Exit.exit 0), ⟨mkE 65 0 [(4, dI t)], []⟩))) := .of fun K h => by
  simp only [spec_TreeOk_n3, wpW] at h
  exact .of (by kernel_rfl) h

theorem spec_TreeOk_n4_l (x776 : List Int) (x790 : Int) (x857 : Int) (x858 : Int) : Link spec_TreeOk_ctx LL (Code.seq (cq [0,0,0,1,0,0,1,0,1,1,1,1] (bodyOf Try.f42)) (Code.seq (cq [0,1,0,0,1,0,0,1,0,1,1,1,1] (bodyOf Try.f42)) (cq [0,1,1,0,0,1,0,0,1,0,1,1,1,1] (bodyOf Try.f42)))) (Ann.seq (aq [0,0,0,1,0,0,1,0,1,1,1,1] spec_TreeOk_an) (Ann.seq (aq [0,1,0,0,1,0,0,1,0,1,1,1,1] spec_TreeOk_an) (aq [0,1,1,0,0,1,0,0,1,0,1,1,1,1] spec_TreeOk_an))) ⟨mkE 65 0 [(0, dL x776), (3, dI x790), (4, dI x857), (5, dI x858)], []⟩ (spec_TreeOk_n4 x776 x790 x857 x858) (Sum.elim (fun (t : Int × Int) => (Exit.normal, ⟨mkE 65 0 [(0, dL x776), (3, dI x790), (4, dI t.1), (5, dI x858), (6, dI t.2)], []⟩)) (fun (t : Bool) => (Exit.ret, ⟨mkE 65 0 [(2, dB t)], []⟩))) := .of fun K h => by
  simp only [spec_TreeOk_n4, wpW] at h
  exact .of (by kernel_rfl) h

theorem spec_TreeOk_n5_l (x776 : List Int) (x790 : Int) (x886 : Int) (x858 : Int) (x887 : Int) : Link spec_TreeOk_ctx LL (cq [0,0,1,1,1,0,0,1,0,0,1,0,1,1,1,1] (bodyOf Try.f42)) (aq [0,0,1,1,1,0,0,1,0,0,1,0,1,1,1,1] spec_TreeOk_an) ⟨mkE 65 0 [(0, dL x776), (3, dI x790), (4, dI x886), (5, dI x858), (6, dI x887)], []⟩ (spec_TreeOk_n5) (fun (t : Unit) => (Exit.normal, ⟨mkE 65 0 [(0, dL x776), (3, dI x790), (4, dI x886), (5, dI x858), (6, dI x887), (7, dI 0)], []⟩)) := .of fun K h => by
  simp only [spec_TreeOk_n5, wpW] at h
  exact .of (by kernel_rfl) h

theorem spec_TreeOk_n6_l (x776 : List Int) (x790 : Int) (x886 : Int) (x858 : Int) (x903 : Int) (x904 : Int) : Link spec_TreeOk_ctx LL (cq [0,0,1,0,1,1,1,0,0,1,0,0,1,0,1,1,1,1] (bodyOf Try.f42)) (aq [0,0,1,0,1,1,1,0,0,1,0,0,1,0,1,1,1,1] spec_TreeOk_an) ⟨mkE 65 0 [(0, dL x776), (3, dI x790), (4, dI x886), (5, dI x858), (6, dI x903), (7, dI x904)], []⟩ (spec_TreeOk_n6 x776 x790 x903 x904) (Sum.elim (fun (t : Int × Int) => (Exit.normal, ⟨mkE 65 0 [(0, dL x776), (3, dI x790), (4, dI x886), (5, dI x858), (6, dI t.1), (7, dI t.2)], []⟩)) (Sum.elim (fun (t : Bool) => (Exit.ret, ⟨mkE 65 0 [(2, dB t)], []⟩)) (fun (t : Int) => ((Exit.exit 2), ⟨mkE 65 0 [(0, dL x776), (3, dI x790), (4, dI x886), (5, dI x858), (6, dI t)], []⟩)))) := .of fun K h => by
  simp only [spec_TreeOk_n6, wpW] at h
  exact .of (by kernel_rfl) h

def spec_TreeOk_n7_l (x776 : List Int) (x790 : Int) (x886 : Int) (x858 : Int) (x887 : Int) := (link_loop (mk := fun (s : Int × Int) => ⟨mkE 65 0 [(0, dL x776), (3, dI x790), (4, dI x886), (5, dI x858), (6, dI s.1), (7, dI s.2)], []⟩) (fin := (Sum.elim (fun (t : Bool) => (Exit.ret, ⟨mkE 65 0 [(2, dB t)], []⟩)) (fun (t : Int) => ((Exit.exit 2), ⟨mkE 65 0 [(0, dL x776), (3, dI x790), (4, dI x886), (5, dI x858), (6, dI t)], []⟩)))) (by
  rintro (t | t) f K h
  · exact h
  · exact h) (fun s => link_map (spec_TreeOk_n6_l x776 x790 x886 x858 s.1 s.2) (Sum.elim (fun (t : Int × Int) => Sum.inl (t.1, t.2)) (Sum.elim (fun (t : Bool) => Sum.inr (Sum.inl t)) (fun (t : Int) => Sum.inr (Sum.inr t)))) (by
  rintro (t | t | t)
  · kernel_rfl
  · kernel_rfl
  · kernel_rfl)) (x887, 0))

def spec_TreeOk_n8_l (x776 : List Int) (x790 : Int) (x886 : Int) (x858 : Int) (x887 : Int) := (link_block (fin2 := (Sum.elim (fun (t : Int) => (Exit.normal, ⟨mkE 65 0 [(0, dL x776), (3, dI x790), (4, dI x886), (5, dI x858), (6, dI t)], []⟩)) (fun (t : Bool) => (Exit.ret, ⟨mkE 65 0 [(2, dB t)], []⟩)))) (id := 2) (spec_TreeOk_n7_l x776 x790 x886 x858 x887) (Sum.elim (fun (t : Bool) => (Sum.inr t)) (fun (t : Int) => (Sum.inl t))) (by
  rintro (t | t) K h
  · exact Eq.mp (by kernel_rfl) h
  · exact Eq.mp (by kernel_rfl) h))

def spec_TreeOk_n9_l (x776 : List Int) (x790 : Int) (x886 : Int) (x858 : Int) (x887 : Int) := (link_seq (spec_TreeOk_n5_l x776 x790 x886 x858 x887) (fun (t : Unit) => (spec_TreeOk_n8_l x776 x790 x886 x858 x887)))

theorem spec_TreeOk_n10_l (x776 : List Int) (x790 : Int) (x886 : Int) (x858 : Int) (x903 : Int) : Link spec_TreeOk_ctx LL (cq [1,1,1,1,0,0,1,0,0,1,0,1,1,1,1] (bodyOf Try.f42)) (aq [1,1,1,1,0,0,1,0,0,1,0,1,1,1,1] spec_TreeOk_an) ⟨mkE 65 0 [(0, dL x776), (3, dI x790), (4, dI x886), (5, dI x858), (6, dI x903)], []⟩ (spec_TreeOk_n10 x903) (Sum.elim (fun (t : Unit) => (Exit.normal, ⟨mkE 65 0 [(0, dL x776), (3, dI x790), (4, dI x886), (5, dI x858)], []⟩)) (fun (t : Bool) => (Exit.ret, ⟨mkE 65 0 [(2, dB t)], []⟩))) := .of fun K h => by
  simp only [spec_TreeOk_n10, wpW] at h
  exact .of (by kernel_rfl) h

def spec_TreeOk_n11_l (x776 : List Int) (x790 : Int) (x886 : Int) (x858 : Int) (x887 : Int) := (link_seq2 (spec_TreeOk_n9_l x776 x790 x886 x858 x887) (fun (t : Int) => (spec_TreeOk_n10_l x776 x790 x886 x858 t)) (fun (t : Bool) => (Sum.inr t)) (by
  rintro t
  · kernel_rfl) (by
  rintro t f K h
  · exact h))

def spec_TreeOk_n12_l (x776 : List Int) (x790 : Int) (x857 : Int) (x858 : Int) := (link_group (c := (cq [0,1,1,0,0,1,0,0,1,0,1,1,1,1] (bodyOf Try.f42))) (a := (aq [0,1,1,0,0,1,0,0,1,0,1,1,1,1] spec_TreeOk_an)) [(cq [0,0,0,1,0,0,1,0,1,1,1,1] (bodyOf Try.f42)), (cq [0,1,0,0,1,0,0,1,0,1,1,1,1] (bodyOf Try.f42))] [(aq [0,0,0,1,0,0,1,0,1,1,1,1] spec_TreeOk_an), (aq [0,1,0,0,1,0,0,1,0,1,1,1,1] spec_TreeOk_an)] rfl (link_seq2 (spec_TreeOk_n4_l x776 x790 x857 x858) (fun (t : Int × Int) => (link_map (fin2 := (Sum.elim (fun (t : Int) => (Exit.normal, ⟨mkE 65 0 [(0, dL x776), (3, dI x790), (4, dI t), (5, dI x858)], []⟩)) (fun (t : Bool) => (Exit.ret, ⟨mkE 65 0 [(2, dB t)], []⟩)))) (spec_TreeOk_n11_l x776 x790 t.1 x858 t.2) (Sum.elim (fun (u : Unit) => (Sum.inl t.1)) (fun (u : Bool) => (Sum.inr u))) (by
  rintro (t | t)
  · kernel_rfl
  · kernel_rfl))) (fun (t : Bool) => (Sum.inr t)) (by
  rintro t
  · kernel_rfl) (by
  rintro t f K h
  · exact h)))

def spec_TreeOk_n13_l (x776 : List Int) (x790 : Int) (x857 : Int) (x858 : Int) := (link_block (fin2 := (Sum.elim (fun (t : Int) => (Exit.normal, ⟨mkE 65 0 [(0, dL x776), (3, dI x790), (4, dI t), (5, dI x858)], []⟩)) (fun (t : Bool) => (Exit.ret, ⟨mkE 65 0 [(2, dB t)], []⟩)))) (id := 1) (spec_TreeOk_n12_l x776 x790 x857 x858) (Sum.elim (fun (t : Int) => (Sum.inl t)) (fun (t : Bool) => (Sum.inr t))) (by
  rintro (t | t) K h
  · exact Eq.mp (by kernel_rfl) h
  · exact Eq.mp (by kernel_rfl) h))

theorem spec_TreeOk_n14_l (x776 : List Int) (x790 : Int) (x886 : Int) (x858 : Int) : Link spec_TreeOk_ctx LL (cq [1,1,0,0,1,0,1,1,1,1] (bodyOf Try.f42)) (aq [1,1,0,0,1,0,1,1,1,1] spec_TreeOk_an) ⟨mkE 65 0 [(0, dL x776), (3, dI x790), (4, dI x886), (5, dI x858)], []⟩ (spec_TreeOk_n14 x858) (fun (t : Int) => (Exit.normal, ⟨mkE 65 0 [(0, dL x776), (3, dI x790), (4, dI x886), (5, dI t)], []⟩)) := .of fun K h => by
  simp only [spec_TreeOk_n14, wpW] at h
  exact .of (by kernel_rfl) h

def spec_TreeOk_n15_l (x776 : List Int) (x790 : Int) (x857 : Int) (x858 : Int) := (link_seq2 (spec_TreeOk_n13_l x776 x790 x857 x858) (fun (t : Int) => (link_map (fin2 := (Sum.elim (fun (t : Int × Int) => (Exit.normal, ⟨mkE 65 0 [(0, dL x776), (3, dI x790), (4, dI t.1), (5, dI t.2)], []⟩)) (fun (t : Bool) => (Exit.ret, ⟨mkE 65 0 [(2, dB t)], []⟩)))) (spec_TreeOk_n14_l x776 x790 t x858) (fun (u : Int) => (Sum.inl (t, u))) (by
  rintro t
  · kernel_rfl))) (fun (t : Bool) => (Sum.inr t)) (by
  rintro t
  · kernel_rfl) (by
  rintro t f K h
  · exact h))

def spec_TreeOk_n16_l (x776 : List Int) (x790 : Int) (x857 : Int) (x858 : Int) := (link_seq2 (spec_TreeOk_n3_l x776 x790 x857 x858) (fun (t : Unit) => (link_map (fin2 := (Sum.elim (fun (t : Int × Int) => (Exit.normal, ⟨mkE 65 0 [(0, dL x776), (3, dI x790), (4, dI t.1), (5, dI t.2)], []⟩)) (Sum.elim (fun (t : Bool) => (Exit.ret, ⟨mkE 65 0 [(2, dB t)], []⟩)) (fun (t : Int) => ((Exit.exit 0), ⟨mkE 65 0 [(4, dI t)], []⟩))))) (spec_TreeOk_n15_l x776 x790 x857 x858) (Sum.elim (fun (t : Int × Int) => (Sum.inl (t.1, t.2))) (fun (t : Bool) => (Sum.inr (Sum.inl t)))) (by
  rintro (t | t)
  · kernel_rfl
  · kernel_rfl))) (fun (t : Int) => (Sum.inr (Sum.inr t))) (by
  rintro t
  · kernel_rfl) (by
  rintro t f K h
  · exact h))

def spec_TreeOk_n17_l (x776 : List Int) (x790 : Int) := (link_loop (mk := fun (s : Int × Int) => ⟨mkE 65 0 [(0, dL x776), (3, dI x790), (4, dI s.1), (5, dI s.2)], []⟩) (fin := (Sum.elim (fun (t : Bool) => (Exit.ret, ⟨mkE 65 0 [(2, dB t)], []⟩)) (fun (t : Int) => ((Exit.exit 0), ⟨mkE 65 0 [(4, dI t)], []⟩)))) (by
  rintro (t | t) f K h
  · exact h
  · exact h) (fun s => link_map (spec_TreeOk_n16_l x776 x790 s.1 s.2) (Sum.elim (fun (t : Int × Int) => Sum.inl (t.1, t.2)) (Sum.elim (fun (t : Bool) => Sum.inr (Sum.inl t)) (fun (t : Int) => Sum.inr (Sum.inr t)))) (by
  rintro (t | t | t)
  · kernel_rfl
  · kernel_rfl
  · kernel_rfl)) (0, 0))

def spec_TreeOk_n18_l (x776 : List Int) (x790 : Int) := (link_block (fin2 := (Sum.elim (fun (t : Int) => (Exit.normal, ⟨mkE 65 0 [(4, dI t)], []⟩)) (fun (t : Bool) => (Exit.ret, ⟨mkE 65 0 [(2, dB t)], []⟩)))) (id := 0) (spec_TreeOk_n17_l x776 x790) (Sum.elim (fun (t : Bool) => (Sum.inr t)) (fun (t : Int) => (Sum.inl t))) (by
  rintro (t | t) K h
  · exact Eq.mp (by kernel_rfl) h
  · exact Eq.mp (by kernel_rfl) h))

def spec_TreeOk_n19_l (x776 : List Int) (x790 : Int) := (link_seq (spec_TreeOk_n2_l x776 x790) (fun (t : Unit) => (spec_TreeOk_n18_l x776 x790)))

theorem spec_TreeOk_n20_l (x857 : Int) : Link spec_TreeOk_ctx LL (cq [1,1,1,1,1] (bodyOf Try.f42)) (aq [1,1,1,1,1] spec_TreeOk_an) ⟨mkE 65 0 [(4, dI x857)], []⟩ (spec_TreeOk_n20 x857) (fun (t : Bool) => (Exit.ret, ⟨mkE 65 0 [(2, dB t)], []⟩)) := .of fun K h => by
  simp only [spec_TreeOk_n20, wpW] at h
  exact .of (by kernel_rfl) h

def spec_TreeOk_n21_l (x776 : List Int) (x790 : Int) := (link_seq2 (spec_TreeOk_n19_l x776 x790) (fun (t : Int) => (spec_TreeOk_n20_l t)) (fun (t : Bool) => t) (by
  rintro t
  · kernel_rfl) (by
  rintro t f K h
  · exact h))

def spec_TreeOk_n22_l (x776 : List Int) := (link_group (c := (cq [0,1,1,1] (bodyOf Try.f42))) (a := (aq [0,1,1,1] spec_TreeOk_an)) [(cq [0] (bodyOf Try.f42)), (cq [0,1] (bodyOf Try.f42)), (cq [0,1,1] (bodyOf Try.f42))] [(aq [0] spec_TreeOk_an), (aq [0,1] spec_TreeOk_an), (aq [0,1,1] spec_TreeOk_an)] rfl (link_seq2 (spec_TreeOk_n1_l x776) (fun (t : Int) => (spec_TreeOk_n21_l x776 t)) (fun (t : Bool) => t) (by
  rintro t
  · kernel_rfl) (by
  rintro t f K h
  · exact h)))

theorem spec_TreeOk_e (x776 : List Int) {r : AV} {H' : Heap} (h : (Ans.mk _ (spec_TreeOk x776) (fun (t : Bool) => (dB t, [])) [] none).run = some (r, H')) : Awp spec_TreeOk_ctx LL (bodyOf Try.f42) spec_TreeOk_an ⟨mkE 65 0 [(0, dL x776)], []⟩ (Ret (tlook tys) Try.f42.results.toList r H') :=
  ret_of' (Link.cast (by kernel_rfl) (by kernel_rfl) (spec_TreeOk_n22_l x776)) (by unfold spec_TreeOk; kernel_rfl) (by
  intro t
  exact ret_mk [dB t] (by kernel_rfl) (by kernel_rfl) (by kernel_rfl) (by kernel_rfl)) h

def F_spec_TreeOk : Fun := fun avs H =>
  match avs, H with
  | [.dat (.list (.int .i64)) x776], [] => ⟨_, spec_TreeOk x776, fun (t : Bool) => (dB t, []), [], none⟩
  | _, _ => Ans.no

theorem spec_TreeOk_sound : Sound Try.prog 42 F_spec_TreeOk := by
  refine fn_sound' (C := spec_TreeOk_ctx) (c := bodyOf Try.f42) (cok_of tys_ok (allc spec_l1In_sound alln) (allc Try.call65 alln) (by kernel_rfl)) Try.func42 (by kernel_rfl) LL spec_TreeOk_an ?_
  intro avs H r H' h
  unfold F_spec_TreeOk at h
  split at h
  · refine Awp.cast ?_ ?_ ?_ (spec_TreeOk_e _ h) <;> kernel_rfl
  · simp [Ans.no, Ans.run] at h


/-! loop.example/headtrees/spec.OrderOk -/

def spec_OrderOk_an : Ann := (.seq (.leaf [0, 1]) (.seq (.seq (.leaf [0, 1, 5]) (.block (.loop (.seq (.seq (.leaf [0, 1, 5, 10]) (.cond (.leaf [0, 1, 5]) (.leaf [0, 1]))) (.seq (.block (.seq (.seq (.leaf [0, 1, 5, 19]) (.cond (.seq (.leaf [4]) (.leaf [4])) (.leaf [0, 1, 5]))) (.seq (.leaf [0, 1, 5, 6]) (.block (.loop (.seq (.seq (.leaf [0, 1, 5, 6, 22]) (.cond (.leaf [0, 1, 5, 6]) (.leaf [0, 1, 5]))) (.seq (.block (.seq (.draw [] [0, 1, 2, 3, 4, 5, 6, 7, 8] [] [0, 1, 5, 6, 33]) (.cond (.seq (.leaf [4]) (.leaf [4])) (.leaf [0, 1, 5, 6])))) (.leaf [0, 1, 5, 6])))))))) (.leaf [0, 1, 5])))))) (.seq (.leaf [4]) (.leaf [4]))))

noncomputable def spec_OrderOk_ctx : Ctx := ⟨tlook tys, olook [(65, F_spec_l1In)], ioF, 0, false, []⟩

theorem spec_OrderOk_n1_l (x936 : List Int) (x937 : Int) : Link spec_OrderOk_ctx LL (cq [0] (bodyOf Try.f74)) (aq [0] spec_OrderOk_an) ⟨mkE 42 0 [(0, dL x936), (1, dI x937)], []⟩ (spec_OrderOk_n1) (fun (t : Unit) => (Exit.normal, ⟨mkE 42 0 [(0, dL x936), (1, dI x937)], []⟩)) := .of fun K h => by
  simp only [spec_OrderOk_n1, wpW] at h
  exact .of (by kernel_rfl) h

theorem spec_OrderOk_n2_l (x936 : List Int) (x937 : Int) : Link spec_OrderOk_ctx LL (cq [0,0,1] (bodyOf Try.f74)) (aq [0,0,1] spec_OrderOk_an) ⟨mkE 42 0 [(0, dL x936), (1, dI x937)], []⟩ (spec_OrderOk_n2) (fun (t : Unit) => (Exit.normal, ⟨mkE 42 0 [(0, dL x936), (1, dI x937), (5, dI 0)], []⟩)) := .of fun K h => by
  simp only [spec_OrderOk_n2, wpW] at h
  exact .of (by kernel_rfl) h

theorem spec_OrderOk_n3_l (x936 : List Int) (x937 : Int) (x968 : Int) : Link spec_OrderOk_ctx LL (cq [0,0,0,1,0,1] (bodyOf Try.f74)) (aq [0,0,0,1,0,1] spec_OrderOk_an) ⟨mkE 42 0 [(0, dL x936), (1, dI x937), (5, dI x968)], []⟩ (spec_OrderOk_n3 x936 x968) (Sum.elim (fun (t : Unit) => (Exit.normal, ⟨mkE 42 0 [(0, dL x936), (1, dI x937), (5, dI x968)], []⟩)) (fun (t : Unit) => ((Exit.exit 0), ⟨mkE 42 0 [(0, dL x936), (1, dI x937)], []⟩))) := .of fun K h => by
  simp only [spec_OrderOk_n3, wpW] at h
  exact .of (by kernel_rfl) h

theorem spec_OrderOk_n4_l (x936 : List Int) (x937 : Int) (x968 : Int) : Link spec_OrderOk_ctx LL (Code.seq (cq [0,0,0,1,0,0,1,0,1] (bodyOf Try.f74)) (cq [0,1,0,0,1,0,0,1,0,1] (bodyOf Try.f74))) (Ann.seq (aq [0,0,0,1,0,0,1,0,1] spec_OrderOk_an) (aq [0,1,0,0,1,0,0,1,0,1] spec_OrderOk_an)) ⟨mkE 42 0 [(0, dL x936), (1, dI x937), (5, dI x968)], []⟩ (spec_OrderOk_n4 x936 x937 x968) (Sum.elim (fun (t : Unit) => (Exit.normal, ⟨mkE 42 0 [(0, dL x936), (1, dI x937), (5, dI x968), (6, dI 0)], []⟩)) (fun (t : Bool) => (Exit.ret, ⟨mkE 42 0 [(4, dB t)], []⟩))) := .of fun K h => by
  simp only [spec_OrderOk_n4, wpW] at h
  exact .of (by kernel_rfl) h

theorem spec_OrderOk_n5_l (x936 : List Int) (x937 : Int) (x968 : Int) (x987 : Int) : Link spec_OrderOk_ctx LL (cq [0,0,1,1,0,0,1,0,0,1,0,1] (bodyOf Try.f74)) (aq [0,0,1,1,0,0,1,0,0,1,0,1] spec_OrderOk_an) ⟨mkE 42 0 [(0, dL x936), (1, dI x937), (5, dI x968), (6, dI x987)], []⟩ (spec_OrderOk_n5 x936 x968 x987) (Sum.elim (fun (t : Int) => (Exit.normal, ⟨mkE 42 0 [(0, dL x936), (1, dI x937), (5, dI x968), (6, dI t)], []⟩)) (Sum.elim (fun (t : Bool) => (Exit.ret, ⟨mkE 42 0 [(4, dB t)], []⟩)) (fun (t : Unit) => ((Exit.exit 2), ⟨mkE 42 0 [(0, dL x936), (1, dI x937), (5, dI x968)], []⟩)))) := .of fun K h => by
  simp only [spec_OrderOk_n5, wpW] at h
  exact .of (by kernel_rfl) h

def spec_OrderOk_n6_l (x936 : List Int) (x937 : Int) (x968 : Int) := (link_loop (mk := fun (s : Int) => ⟨mkE 42 0 [(0, dL x936), (1, dI x937), (5, dI x968), (6, dI s)], []⟩) (fin := (Sum.elim (fun (t : Bool) => (Exit.ret, ⟨mkE 42 0 [(4, dB t)], []⟩)) (fun (t : Unit) => ((Exit.exit 2), ⟨mkE 42 0 [(0, dL x936), (1, dI x937), (5, dI x968)], []⟩)))) (by
  rintro (t | t) f K h
  · exact h
  · exact h) (fun s => link_map (spec_OrderOk_n5_l x936 x937 x968 s) (Sum.elim (fun (t : Int) => Sum.inl t) (Sum.elim (fun (t : Bool) => Sum.inr (Sum.inl t)) (fun (t : Unit) => Sum.inr (Sum.inr t)))) (by
  rintro (t | t | t)
  · kernel_rfl
  · kernel_rfl
  · kernel_rfl)) 0)

def spec_OrderOk_n7_l (x936 : List Int) (x937 : Int) (x968 : Int) := (link_block (fin2 := (Sum.elim (fun (t : Unit) => (Exit.normal, ⟨mkE 42 0 [(0, dL x936), (1, dI x937), (5, dI x968)], []⟩)) (fun (t : Bool) => (Exit.ret, ⟨mkE 42 0 [(4, dB t)], []⟩)))) (id := 2) (spec_OrderOk_n6_l x936 x937 x968) (Sum.elim (fun (t : Bool) => (Sum.inr t)) (fun (t : Unit) => (Sum.inl ()))) (by
  rintro (t | t) K h
  · exact Eq.mp (by kernel_rfl) h
  · exact Eq.mp (by kernel_rfl) h))

def spec_OrderOk_n8_l (x936 : List Int) (x937 : Int) (x968 : Int) := (link_group (c := (cq [0,1,0,0,1,0,0,1,0,1] (bodyOf Try.f74))) (a := (aq [0,1,0,0,1,0,0,1,0,1] spec_OrderOk_an)) [(cq [0,0,0,1,0,0,1,0,1] (bodyOf Try.f74))] [(aq [0,0,0,1,0,0,1,0,1] spec_OrderOk_an)] rfl (link_seq2 (spec_OrderOk_n4_l x936 x937 x968) (fun (t : Unit) => (spec_OrderOk_n7_l x936 x937 x968)) (fun (t : Bool) => (Sum.inr t)) (by
  rintro t
  · kernel_rfl) (by
  rintro t f K h
  · exact h)))

def spec_OrderOk_n9_l (x936 : List Int) (x937 : Int) (x968 : Int) := (link_block (fin2 := (Sum.elim (fun (t : Unit) => (Exit.normal, ⟨mkE 42 0 [(0, dL x936), (1, dI x937), (5, dI x968)], []⟩)) (fun (t : Bool) => (Exit.ret, ⟨mkE 42 0 [(4, dB t)], []⟩)))) (id := 1) (spec_OrderOk_n8_l x936 x937 x968) (Sum.elim (fun (t : Unit) => (Sum.inl ())) (fun (t : Bool) => (Sum.inr t))) (by
  rintro (t | t) K h
  · exact Eq.mp (by kernel_rfl) h
  · exact Eq.mp (by kernel_rfl) h))

theorem spec_OrderOk_n10_l (x936 : List Int) (x937 : Int) (x968 : Int) : Link spec_OrderOk_ctx LL (cq [1,1,0,0,1,0,1] (bodyOf Try.f74)) (aq [1,1,0,0,1,0,1] spec_OrderOk_an) ⟨mkE 42 0 [(0, dL x936), (1, dI x937), (5, dI x968)], []⟩ (spec_OrderOk_n10 x968) (fun (t : Int) => (Exit.normal, ⟨mkE 42 0 [(0, dL x936), (1, dI x937), (5, dI t)], []⟩)) := .of fun K h => by
  simp only [spec_OrderOk_n10, wpW] at h
  exact .of (by kernel_rfl) h

def spec_OrderOk_n11_l (x936 : List Int) (x937 : Int) (x968 : Int) := (link_seq2 (spec_OrderOk_n9_l x936 x937 x968) (fun (t : Unit) => (link_map (fin2 := (Sum.elim (fun (t : Int) => (Exit.normal, ⟨mkE 42 0 [(0, dL x936), (1, dI x937), (5, dI t)], []⟩)) (fun (t : Bool) => (Exit.ret, ⟨mkE 42 0 [(4, dB t)], []⟩)))) (spec_OrderOk_n10_l x936 x937 x968) (fun (t : Int) => (Sum.inl t)) (by
  rintro t
  · kernel_rfl))) (fun (t : Bool) => (Sum.inr t)) (by
  rintro t
  · kernel_rfl) (by
  rintro t f K h
  · exact h))

def spec_OrderOk_n12_l (x936 : List Int) (x937 : Int) (x968 : Int) := (link_seq2 (spec_OrderOk_n3_l x936 x937 x968) (fun (t : Unit) => (link_map (fin2 := (Sum.elim (fun (t : Int) => (Exit.normal, ⟨mkE 42 0 [(0, dL x936), (1, dI x937), (5, dI t)], []⟩)) (Sum.elim (fun (t : Bool) => (Exit.ret, ⟨mkE 42 0 [(4, dB t)], []⟩)) (fun (t : Unit) => ((Exit.exit 0), ⟨mkE 42 0 [(0, dL x936), (1, dI x937)], []⟩))))) (spec_OrderOk_n11_l x936 x937 x968) (Sum.elim (fun (t : Int) => (Sum.inl t)) (fun (t : Bool) => (Sum.inr (Sum.inl t)))) (by
  rintro (t | t)
  · kernel_rfl
  · kernel_rfl))) (fun (t : Unit) => (Sum.inr (Sum.inr t))) (by
  rintro t
  · kernel_rfl) (by
  rintro t f K h
  · exact h))

def spec_OrderOk_n13_l (x936 : List Int) (x937 : Int) := (link_loop (mk := fun (s : Int) => ⟨mkE 42 0 [(0, dL x936), (1, dI x937), (5, dI s)], []⟩) (fin := (Sum.elim (fun (t : Bool) => (Exit.ret, ⟨mkE 42 0 [(4, dB t)], []⟩)) (fun (t : Unit) => ((Exit.exit 0), ⟨mkE 42 0 [(0, dL x936), (1, dI x937)], []⟩)))) (by
  rintro (t | t) f K h
  · exact h
  · exact h) (fun s => link_map (spec_OrderOk_n12_l x936 x937 s) (Sum.elim (fun (t : Int) => Sum.inl t) (Sum.elim (fun (t : Bool) => Sum.inr (Sum.inl t)) (fun (t : Unit) => Sum.inr (Sum.inr t)))) (by
  rintro (t | t | t)
  · kernel_rfl
  · kernel_rfl
  · kernel_rfl)) 0)

def spec_OrderOk_n14_l (x936 : List Int) (x937 : Int) := (link_block (fin2 := (Sum.elim (fun (t : Unit) => (Exit.normal, ⟨mkE 42 0 [(0, dL x936), (1, dI x937)], []⟩)) (fun (t : Bool) => (Exit.ret, ⟨mkE 42 0 [(4, dB t)], []⟩)))) (id := 0) (spec_OrderOk_n13_l x936 x937) (Sum.elim (fun (t : Bool) => (Sum.inr t)) (fun (t : Unit) => (Sum.inl ()))) (by
  rintro (t | t) K h
  · exact Eq.mp (by kernel_rfl) h
  · exact Eq.mp (by kernel_rfl) h))

def spec_OrderOk_n15_l (x936 : List Int) (x937 : Int) := (link_seq (spec_OrderOk_n2_l x936 x937) (fun (t : Unit) => (spec_OrderOk_n14_l x936 x937)))

theorem spec_OrderOk_n16_l (x936 : List Int) (x937 : Int) : Link spec_OrderOk_ctx LL (cq [1,1] (bodyOf Try.f74)) (aq [1,1] spec_OrderOk_an) ⟨mkE 42 0 [(0, dL x936), (1, dI x937)], []⟩ (spec_OrderOk_n16 x936 x937) (fun (t : Bool) => (Exit.ret, ⟨mkE 42 0 [(4, dB t)], []⟩)) := .of fun K h => by
  simp only [spec_OrderOk_n16, wpW] at h
  exact .of (by kernel_rfl) h

def spec_OrderOk_n17_l (x936 : List Int) (x937 : Int) := (link_seq2 (spec_OrderOk_n15_l x936 x937) (fun (t : Unit) => (spec_OrderOk_n16_l x936 x937)) (fun (t : Bool) => t) (by
  rintro t
  · kernel_rfl) (by
  rintro t f K h
  · exact h))

def spec_OrderOk_n18_l (x936 : List Int) (x937 : Int) := (link_seq (spec_OrderOk_n1_l x936 x937) (fun (t : Unit) => (spec_OrderOk_n17_l x936 x937)))

theorem spec_OrderOk_e (x936 : List Int) (x937 : Int) {r : AV} {H' : Heap} (h : (Ans.mk _ (spec_OrderOk x936 x937) (fun (t : Bool) => (dB t, [])) [] none).run = some (r, H')) : Awp spec_OrderOk_ctx LL (bodyOf Try.f74) spec_OrderOk_an ⟨mkE 42 0 [(0, dL x936), (1, dI x937)], []⟩ (Ret (tlook tys) Try.f74.results.toList r H') :=
  ret_of' (Link.cast (by kernel_rfl) (by kernel_rfl) (spec_OrderOk_n18_l x936 x937)) (by unfold spec_OrderOk; kernel_rfl) (by
  intro t
  exact ret_mk [dB t] (by kernel_rfl) (by kernel_rfl) (by kernel_rfl) (by kernel_rfl)) h

def F_spec_OrderOk : Fun := fun avs H =>
  match avs, H with
  | [.dat (.list (.int .i64)) x936, .dat (.int .i64) x937], [] => ⟨_, spec_OrderOk x936 x937, fun (t : Bool) => (dB t, []), [], none⟩
  | _, _ => Ans.no

theorem spec_OrderOk_sound : Sound Try.prog 74 F_spec_OrderOk := by
  refine fn_sound' (C := spec_OrderOk_ctx) (c := bodyOf Try.f74) (cok_of tys_ok (allc spec_l1In_sound alln) (allc Try.call65 alln) (by kernel_rfl)) Try.func74 (by kernel_rfl) LL spec_OrderOk_an ?_
  intro avs H r H' h
  unfold F_spec_OrderOk at h
  split at h
  · refine Awp.cast ?_ ?_ ?_ (spec_OrderOk_e _ _ h) <;> kernel_rfl
  · simp [Ans.no, Ans.run] at h


/-! loop.example/headtrees/spec.PutInOrder -/

def spec_PutInOrder_an : Ann := (.seq (.leaf [0, 1]) (.seq (.seq (.leaf [0, 1, 19]) (.cond (.seq (.leaf [4, 5]) (.leaf [4, 5])) (.leaf [0, 1]))) (.seq (.leaf [0, 1, 6]) (.seq (.seq (.leaf [0, 1, 6, 7]) (.block (.loop (.seq (.seq (.leaf [0, 1, 6, 7, 28]) (.cond (.leaf [0, 1, 6, 7]) (.leaf [0, 1, 6]))) (.seq (.block (.leaf [0, 1, 6, 7])) (.leaf [0, 1, 6, 7])))))) (.seq (.leaf [0, 1, 6, 8]) (.seq (.seq (.leaf [0, 1, 6, 8, 9]) (.block (.loop (.seq (.seq (.leaf [0, 1, 6, 8, 9, 43]) (.cond (.leaf [0, 1, 6, 8, 9]) (.leaf [8]))) (.seq (.block (.leaf [0, 1, 6, 8, 9])) (.leaf [0, 1, 6, 8, 9])))))) (.seq (.leaf [4, 5]) (.leaf [4, 5]))))))))

noncomputable def spec_PutInOrder_ctx : Ctx := ⟨tlook tys, olook [(42, F_spec_TreeOk), (74, F_spec_OrderOk)], ioF, 0, false, []⟩

theorem spec_PutInOrder_n1_l (x931 : List Int) (x932 : List Int) : Link spec_PutInOrder_ctx LL (Code.seq (cq [0] (bodyOf Try.f62)) (Code.seq (cq [0,1] (bodyOf Try.f62)) (cq [0,1,1] (bodyOf Try.f62)))) (Ann.seq (aq [0] spec_PutInOrder_an) (Ann.seq (aq [0,1] spec_PutInOrder_an) (aq [0,1,1] spec_PutInOrder_an))) ⟨mkE 61 0 [(0, dL x931), (1, dL x932)], []⟩ (spec_PutInOrder_n1 x931 x932) (Sum.elim (fun (t : (List Int)) => (Exit.normal, ⟨mkE 61 0 [(0, dL x931), (1, dL x932), (6, .slc 0)], [some (sI t)]⟩)) (fun (t : Bool × (List Int)) => (Exit.ret, ⟨mkE 61 0 [(4, .slc 0), (5, dB t.1)], [some (sI t.2)]⟩))) := .of fun K h => by
  simp only [spec_PutInOrder_n1, wpW] at h
  exact .of (by kernel_rfl) h

theorem spec_PutInOrder_n2_l (x931 : List Int) (x932 : List Int) (x1016 : List Int) : Link spec_PutInOrder_ctx LL (cq [0,0,1,1,1] (bodyOf Try.f62)) (aq [0,0,1,1,1] spec_PutInOrder_an) ⟨mkE 61 0 [(0, dL x931), (1, dL x932), (6, .slc 0)], [some (sI x1016)]⟩ (spec_PutInOrder_n2) (fun (t : Unit) => (Exit.normal, ⟨mkE 61 0 [(0, dL x931), (1, dL x932), (6, .slc 0), (7, dI 0)], [some (sI x1016)]⟩)) := .of fun K h => by
  simp only [spec_PutInOrder_n2, wpW] at h
  exact .of (by kernel_rfl) h

theorem spec_PutInOrder_n3_l (x931 : List Int) (x932 : List Int) (x1032 : Int) (x1033 : List Int) : Link spec_PutInOrder_ctx LL (cq [0,0,1,0,1,1,1] (bodyOf Try.f62)) (aq [0,0,1,0,1,1,1] spec_PutInOrder_an) ⟨mkE 61 0 [(0, dL x931), (1, dL x932), (6, .slc 0), (7, dI x1032)], [some (sI x1033)]⟩ (spec_PutInOrder_n3 x932 x1032 x1033) (Sum.elim (fun (t : Int × (List Int)) => (Exit.normal, ⟨mkE 61 0 [(0, dL x931), (1, dL x932), (6, .slc 0), (7, dI t.1)], [some (sI t.2)]⟩)) (fun (t : (List Int)) => ((Exit.exit 0), ⟨mkE 61 0 [(0, dL x931), (1, dL x932), (6, .slc 0)], [some (sI t)]⟩))) := .of fun K h => by
  simp only [spec_PutInOrder_n3, wpW] at h
  exact .of (by kernel_rfl) h

def spec_PutInOrder_n4_l (x931 : List Int) (x932 : List Int) (x1016 : List Int) := (link_loop (mk := fun (s : Int × (List Int)) => ⟨mkE 61 0 [(0, dL x931), (1, dL x932), (6, .slc 0), (7, dI s.1)], [some (sI s.2)]⟩) (fin := (fun (t : (List Int)) => ((Exit.exit 0), ⟨mkE 61 0 [(0, dL x931), (1, dL x932), (6, .slc 0)], [some (sI t)]⟩))) (by
  rintro t f K h
  · exact h) (fun s => link_map (spec_PutInOrder_n3_l x931 x932 s.1 s.2) (Sum.elim (fun (t : Int × (List Int)) => Sum.inl (t.1, t.2)) (fun (t : (List Int)) => Sum.inr t)) (by
  rintro (t | t)
  · kernel_rfl
  · kernel_rfl)) (0, x1016))

def spec_PutInOrder_n5_l (x931 : List Int) (x932 : List Int) (x1016 : List Int) := (link_block (fin2 := (fun (t : (List Int)) => (Exit.normal, ⟨mkE 61 0 [(0, dL x931), (1, dL x932), (6, .slc 0)], [some (sI t)]⟩))) (id := 0) (spec_PutInOrder_n4_l x931 x932 x1016) (fun (t : (List Int)) => t) (by
  rintro t K h
  · exact Eq.mp (by kernel_rfl) h))

def spec_PutInOrder_n6_l (x931 : List Int) (x932 : List Int) (x1016 : List Int) := (link_seq (spec_PutInOrder_n2_l x931 x932 x1016) (fun (t : Unit) => (spec_PutInOrder_n5_l x931 x932 x1016)))

theorem spec_PutInOrder_n7_l (x931 : List Int) (x932 : List Int) (x1033 : List Int) : Link spec_PutInOrder_ctx LL (cq [0,1,1,1,1] (bodyOf Try.f62)) (aq [0,1,1,1,1] spec_PutInOrder_an) ⟨mkE 61 0 [(0, dL x931), (1, dL x932), (6, .slc 0)], [some (sI x1033)]⟩ (spec_PutInOrder_n7) (fun (t : Unit) => (Exit.normal, ⟨mkE 61 0 [(0, dL x931), (1, dL x932), (6, .slc 0), (8, .slc 1)], [some (sI x1033), some (sI ([] : List Int))]⟩)) := .of fun K h => by
  simp only [spec_PutInOrder_n7, wpW] at h
  exact .of (by kernel_rfl) h

theorem spec_PutInOrder_n8_l (x931 : List Int) (x932 : List Int) (x1033 : List Int) : Link spec_PutInOrder_ctx LL (cq [0,0,1,1,1,1,1] (bodyOf Try.f62)) (aq [0,0,1,1,1,1,1] spec_PutInOrder_an) ⟨mkE 61 0 [(0, dL x931), (1, dL x932), (6, .slc 0), (8, .slc 1)], [some (sI x1033), some (sI ([] : List Int))]⟩ (spec_PutInOrder_n8) (fun (t : Unit) => (Exit.normal, ⟨mkE 61 0 [(0, dL x931), (1, dL x932), (6, .slc 0), (8, .slc 1), (9, dI 0)], [some (sI x1033), some (sI ([] : List Int))]⟩)) := .of fun K h => by
  simp only [spec_PutInOrder_n8, wpW] at h
  exact .of (by kernel_rfl) h

theorem spec_PutInOrder_n9_l (x931 : List Int) (x932 : List Int) (x1074 : Int) (x1033 : List Int) (x1075 : List Int) : Link spec_PutInOrder_ctx LL (cq [0,0,1,0,1,1,1,1,1] (bodyOf Try.f62)) (aq [0,0,1,0,1,1,1,1,1] spec_PutInOrder_an) ⟨mkE 61 0 [(0, dL x931), (1, dL x932), (6, .slc 0), (8, .slc 1), (9, dI x1074)], [some (sI x1033), some (sI x1075)]⟩ (spec_PutInOrder_n9 x931 x932 x1074 x1033 x1075) (Sum.elim (fun (t : Int × (List Int)) => (Exit.normal, ⟨mkE 61 0 [(0, dL x931), (1, dL x932), (6, .slc 0), (8, .slc 1), (9, dI t.1)], [some (sI x1033), some (sI t.2)]⟩)) (fun (t : (List Int)) => ((Exit.exit 2), ⟨mkE 61 0 [(8, .slc 0)], [some (sI t)]⟩))) := .of fun K h => by
  simp only [spec_PutInOrder_n9, wpW] at h
  exact .of (by kernel_rfl) h

def spec_PutInOrder_n10_l (x931 : List Int) (x932 : List Int) (x1033 : List Int) := (link_loop (mk := fun (s : Int × (List Int)) => ⟨mkE 61 0 [(0, dL x931), (1, dL x932), (6, .slc 0), (8, .slc 1), (9, dI s.1)], [some (sI x1033), some (sI s.2)]⟩) (fin := (fun (t : (List Int)) => ((Exit.exit 2), ⟨mkE 61 0 [(8, .slc 0)], [some (sI t)]⟩))) (by
  rintro t f K h
  · exact h) (fun s => link_map (spec_PutInOrder_n9_l x931 x932 s.1 x1033 s.2) (Sum.elim (fun (t : Int × (List Int)) => Sum.inl (t.1, t.2)) (fun (t : (List Int)) => Sum.inr t)) (by
  rintro (t | t)
  · kernel_rfl
  · kernel_rfl)) (0, ([] : List Int)))

def spec_PutInOrder_n11_l (x931 : List Int) (x932 : List Int) (x1033 : List Int) := (link_block (fin2 := (fun (t : (List Int)) => (Exit.normal, ⟨mkE 61 0 [(8, .slc 0)], [some (sI t)]⟩))) (id := 2) (spec_PutInOrder_n10_l x931 x932 x1033) (fun (t : (List Int)) => t) (by
  rintro t K h
  · exact Eq.mp (by kernel_rfl) h))

def spec_PutInOrder_n12_l (x931 : List Int) (x932 : List Int) (x1033 : List Int) := (link_seq (spec_PutInOrder_n8_l x931 x932 x1033) (fun (t : Unit) => (spec_PutInOrder_n11_l x931 x932 x1033)))

theorem spec_PutInOrder_n13_l (x1075 : List Int) : Link spec_PutInOrder_ctx LL (cq [1,1,1,1,1,1] (bodyOf Try.f62)) (aq [1,1,1,1,1,1] spec_PutInOrder_an) ⟨mkE 61 0 [(8, .slc 0)], [some (sI x1075)]⟩ (spec_PutInOrder_n13 x1075) (fun (t : Bool × (List Int)) => (Exit.ret, ⟨mkE 61 0 [(4, .slc 0), (5, dB t.1)], [some (sI t.2)]⟩)) := .of fun K h => by
  simp only [spec_PutInOrder_n13, wpW] at h
  exact .of (by kernel_rfl) h

def spec_PutInOrder_n14_l (x931 : List Int) (x932 : List Int) (x1033 : List Int) := (link_seq (spec_PutInOrder_n12_l x931 x932 x1033) (fun (t : (List Int)) => (spec_PutInOrder_n13_l t)))

def spec_PutInOrder_n15_l (x931 : List Int) (x932 : List Int) (x1033 : List Int) := (link_seq (spec_PutInOrder_n7_l x931 x932 x1033) (fun (t : Unit) => (spec_PutInOrder_n14_l x931 x932 x1033)))

def spec_PutInOrder_n16_l (x931 : List Int) (x932 : List Int) (x1016 : List Int) := (link_seq (spec_PutInOrder_n6_l x931 x932 x1016) (fun (t : (List Int)) => (spec_PutInOrder_n15_l x931 x932 t)))

def spec_PutInOrder_n17_l (x931 : List Int) (x932 : List Int) := (link_group (c := (cq [0,1,1] (bodyOf Try.f62))) (a := (aq [0,1,1] spec_PutInOrder_an)) [(cq [0] (bodyOf Try.f62)), (cq [0,1] (bodyOf Try.f62))] [(aq [0] spec_PutInOrder_an), (aq [0,1] spec_PutInOrder_an)] rfl (link_seq2 (spec_PutInOrder_n1_l x931 x932) (fun (t : (List Int)) => (spec_PutInOrder_n16_l x931 x932 t)) (fun (t : Bool × (List Int)) => t) (by
  rintro t
  · kernel_rfl) (by
  rintro t f K h
  · exact h)))

theorem spec_PutInOrder_e (x931 : List Int) (x932 : List Int) {r : AV} {H' : Heap} (h : (Ans.mk _ (spec_PutInOrder x931 x932) (fun (t : Bool × (List Int)) => (.tup [.slc 0, dB t.1], [some (sI t.2)])) [] none).run = some (r, H')) : Awp spec_PutInOrder_ctx LL (bodyOf Try.f62) spec_PutInOrder_an ⟨mkE 61 0 [(0, dL x931), (1, dL x932)], []⟩ (Ret (tlook tys) Try.f62.results.toList r H') :=
  ret_of' (Link.cast (by kernel_rfl) (by kernel_rfl) (spec_PutInOrder_n17_l x931 x932)) (by unfold spec_PutInOrder; kernel_rfl) (by
  intro t
  exact ret_mk [.slc 0, dB t.1] (by kernel_rfl) (by kernel_rfl) (by kernel_rfl) (by kernel_rfl)) h

def F_spec_PutInOrder : Fun := fun avs H =>
  match avs, H with
  | [.dat (.list (.int .i64)) x931, .dat (.list (.int .i64)) x932], [] => ⟨_, spec_PutInOrder x931 x932, fun (t : Bool × (List Int)) => (.tup [.slc 0, dB t.1], [some (sI t.2)]), [], none⟩
  | _, _ => Ans.no

theorem spec_PutInOrder_sound : Sound Try.prog 62 F_spec_PutInOrder := by
  refine fn_sound' (C := spec_PutInOrder_ctx) (c := bodyOf Try.f62) (cok_of tys_ok (allc spec_TreeOk_sound (allc spec_OrderOk_sound alln)) (allc Try.call42 (allc Try.call74 alln)) (by kernel_rfl)) Try.func62 (by kernel_rfl) LL spec_PutInOrder_an ?_
  intro avs H r H' h
  unfold F_spec_PutInOrder at h
  split at h
  · refine Awp.cast ?_ ?_ ?_ (spec_PutInOrder_e _ _ h) <;> kernel_rfl
  · simp [Ans.no, Ans.run] at h


/-! loop.example/headtrees/spec.l20Fill -/

def spec_l20Fill_an : Ann := (.seq (.seq (.leaf [0, 1, 2, 3, 4, 16]) (.cond (.leaf []) (.leaf [0, 1, 2, 3, 4]))) (.seq (.leaf [0, 1, 2, 3, 4, 10]) (.seq (.leaf [0, 1, 2, 3, 10]) (.seq (.leaf [0, 1, 3, 10, 11]) (.seq (.block (.loop (.seq (.seq (.leaf [0, 1, 3, 10, 11, 33]) (.cond (.leaf [0, 1, 3, 10, 11]) (.leaf [0, 1, 3, 10]))) (.block (.seq (.leaf [0, 1, 3, 10, 11, 12]) (.seq (.leaf [0, 1, 3, 10, 12]) (.leaf [0, 1, 3, 10, 11]))))))) (.seq (.leaf [0, 1, 3, 10, 11]) (.block (.loop (.seq (.seq (.leaf [0, 1, 3, 10, 11, 53]) (.cond (.leaf [0, 1, 3, 10, 11]) (.leaf []))) (.block (.seq (.leaf [0, 1, 3, 10, 11, 13]) (.seq (.leaf [0, 1, 3, 10, 13]) (.leaf [0, 1, 3, 10, 11])))))))))))))

def F_spec_l20Fill_fuel (n : Nat) : Fun := fun avs H =>
  match avs, H with
  | [.ptr 0 0, .slc 1, .dat (.int .i64) x1172, .dat (.int .i64) x1173, .dat (.int .i64) x1174], [some (.box [.dat (.list (.int .u8)) x1175, .dat (.int .i64) x1176]), some (.seq (.int .i64) x1177)] => ⟨_, spec_l20Fill_fuel n x1172 x1173 x1174 x1175 x1176 x1177, fun (t : Int × (List Int)) => (.tup [], [some (.box [dV x1175, dI t.1]), some (sI t.2)]), [], none⟩
  | _, _ => Ans.no

noncomputable def spec_l20Fill_ctx (n : Nat) : Ctx := ⟨tlook tys, olook [(61, F_spec_l20Rd_pick), (75, F_spec_l20Fill_fuel n)], ioF, 2, false, []⟩

theorem spec_l20Fill_n1_l (n : Nat) (x1172 : Int) (x1173 : Int) (x1174 : Int) (x1175 : List Int) (x1176 : Int) (x1177 : List Int) : Link (spec_l20Fill_ctx n) LL (Code.seq (cq [0] (bodyOf Try.f75)) (Code.seq (cq [0,1] (bodyOf Try.f75)) (Code.seq (cq [0,1,1] (bodyOf Try.f75)) (cq [0,1,1,1] (bodyOf Try.f75))))) (Ann.seq (aq [0] spec_l20Fill_an) (Ann.seq (aq [0,1] spec_l20Fill_an) (Ann.seq (aq [0,1,1] spec_l20Fill_an) (aq [0,1,1,1] spec_l20Fill_an)))) ⟨mkE 70 0 [(0, .ptr 0 0), (1, .slc 1), (2, dI x1172), (3, dI x1173), (4, dI x1174)], [some (.box [dV x1175, dI x1176]), some (sI x1177)]⟩ (spec_l20Fill_n1 (spec_l20Fill_fuel n) x1172 x1173 x1174 x1175 x1176 x1177) (Sum.elim (fun (t : Int × Int × (List Int)) => (Exit.normal, ⟨mkE 70 0 [(0, .ptr 0 0), (1, .slc 1), (3, dI x1173), (10, dI t.1), (11, dI x1172)], [some (.box [dV x1175, dI t.2.1]), some (sI t.2.2)]⟩)) (fun (t : Int × (List Int)) => (Exit.ret, ⟨mkE 70 0 [], [some (.box [dV x1175, dI t.1]), some (sI t.2)]⟩))) := .of fun K h => by
  simp only [spec_l20Fill_n1, wpW] at h
  exact .of (by kernel_rfl) h

theorem spec_l20Fill_n2_l (n : Nat) (x1173 : Int) (x1248 : Int) (x1263 : Int) (x1175 : List Int) (x1264 : Int) (x1265 : List Int) : Link (spec_l20Fill_ctx n) LL (cq [0,0,0,1,1,1,1] (bodyOf Try.f75)) (aq [0,0,0,1,1,1,1] spec_l20Fill_an) ⟨mkE 70 0 [(0, .ptr 0 0), (1, .slc 1), (3, dI x1173), (10, dI x1248), (11, dI x1263)], [some (.box [dV x1175, dI x1264]), some (sI x1265)]⟩ (spec_l20Fill_n2 (spec_l20Fill_fuel n) x1248 x1263 x1175 x1264 x1265) (Sum.elim (fun (t : Int × Int × (List Int)) => (Exit.normal, ⟨mkE 70 0 [(0, .ptr 0 0), (1, .slc 1), (3, dI x1173), (10, dI x1248), (11, dI t.1)], [some (.box [dV x1175, dI t.2.1]), some (sI t.2.2)]⟩)) (fun (t : Int × (List Int)) => ((Exit.exit 0), ⟨mkE 70 0 [(0, .ptr 0 0), (1, .slc 1), (3, dI x1173), (10, dI x1248)], [some (.box [dV x1175, dI t.1]), some (sI t.2)]⟩))) := .of fun K h => by
  simp only [spec_l20Fill_n2, wpW] at h
  exact .of (by kernel_rfl) h

def spec_l20Fill_n3_l (n : Nat) (x1173 : Int) (x1248 : Int) (x1172 : Int) (x1175 : List Int) (x1247 : Int) (x1251 : List Int) := (link_loop (mk := fun (s : Int × Int × (List Int)) => ⟨mkE 70 0 [(0, .ptr 0 0), (1, .slc 1), (3, dI x1173), (10, dI x1248), (11, dI s.1)], [some (.box [dV x1175, dI s.2.1]), some (sI s.2.2)]⟩) (fin := (fun (t : Int × (List Int)) => ((Exit.exit 0), ⟨mkE 70 0 [(0, .ptr 0 0), (1, .slc 1), (3, dI x1173), (10, dI x1248)], [some (.box [dV x1175, dI t.1]), some (sI t.2)]⟩))) (by
  rintro t f K h
  · exact h) (fun s => link_map (spec_l20Fill_n2_l n x1173 x1248 s.1 x1175 s.2.1 s.2.2) (Sum.elim (fun (t : Int × Int × (List Int)) => Sum.inl (t.1, t.2.1, t.2.2)) (fun (t : Int × (List Int)) => Sum.inr t)) (by
  rintro (t | t)
  · kernel_rfl
  · kernel_rfl)) (x1172, x1247, x1251))

def spec_l20Fill_n4_l (n : Nat) (x1173 : Int) (x1248 : Int) (x1172 : Int) (x1175 : List Int) (x1247 : Int) (x1251 : List Int) := (link_block (fin2 := (fun (t : Int × (List Int)) => (Exit.normal, ⟨mkE 70 0 [(0, .ptr 0 0), (1, .slc 1), (3, dI x1173), (10, dI x1248)], [some (.box [dV x1175, dI t.1]), some (sI t.2)]⟩))) (id := 0) (spec_l20Fill_n3_l n x1173 x1248 x1172 x1175 x1247 x1251) (fun (t : Int × (List Int)) => (t.1, t.2)) (by
  rintro t K h
  · exact Eq.mp (by kernel_rfl) h))

theorem spec_l20Fill_n5_l (n : Nat) (x1173 : Int) (x1248 : Int) (x1175 : List Int) (x1264 : Int) (x1265 : List Int) : Link (spec_l20Fill_ctx n) LL (cq [0,1,1,1,1,1] (bodyOf Try.f75)) (aq [0,1,1,1,1,1] spec_l20Fill_an) ⟨mkE 70 0 [(0, .ptr 0 0), (1, .slc 1), (3, dI x1173), (10, dI x1248)], [some (.box [dV x1175, dI x1264]), some (sI x1265)]⟩ (spec_l20Fill_n5 (spec_l20Fill_fuel n) x1248) (fun (t : Int) => (Exit.normal, ⟨mkE 70 0 [(0, .ptr 0 0), (1, .slc 1), (3, dI x1173), (10, dI x1248), (11, dI t)], [some (.box [dV x1175, dI x1264]), some (sI x1265)]⟩)) := .of fun K h => by
  simp only [spec_l20Fill_n5, wpW] at h
  exact .of (by kernel_rfl) h

theorem spec_l20Fill_n6_l (n : Nat) (x1173 : Int) (x1248 : Int) (x1290 : Int) (x1175 : List Int) (x1291 : Int) (x1292 : List Int) : Link (spec_l20Fill_ctx n) LL (cq [0,0,1,1,1,1,1,1] (bodyOf Try.f75)) (aq [0,0,1,1,1,1,1,1] spec_l20Fill_an) ⟨mkE 70 0 [(0, .ptr 0 0), (1, .slc 1), (3, dI x1173), (10, dI x1248), (11, dI x1290)], [some (.box [dV x1175, dI x1291]), some (sI x1292)]⟩ (spec_l20Fill_n6 (spec_l20Fill_fuel n) x1173 x1248 x1290 x1175 x1291 x1292) (Sum.elim (fun (t : Int × Int × (List Int)) => (Exit.normal, ⟨mkE 70 0 [(0, .ptr 0 0), (1, .slc 1), (3, dI x1173), (10, dI x1248), (11, dI t.1)], [some (.box [dV x1175, dI t.2.1]), some (sI t.2.2)]⟩)) (fun (t : Int × (List Int)) => ((Exit.exit 2), ⟨mkE 70 0 [], [some (.box [dV x1175, dI t.1]), some (sI t.2)]⟩))) := .of fun K h => by
  simp only [spec_l20Fill_n6, wpW] at h
  exact .of (by kernel_rfl) h

def spec_l20Fill_n7_l (n : Nat) (x1173 : Int) (x1248 : Int) (x1277 : Int) (x1175 : List Int) (x1264 : Int) (x1265 : List Int) := (link_loop (mk := fun (s : Int × Int × (List Int)) => ⟨mkE 70 0 [(0, .ptr 0 0), (1, .slc 1), (3, dI x1173), (10, dI x1248), (11, dI s.1)], [some (.box [dV x1175, dI s.2.1]), some (sI s.2.2)]⟩) (fin := (fun (t : Int × (List Int)) => ((Exit.exit 2), ⟨mkE 70 0 [], [some (.box [dV x1175, dI t.1]), some (sI t.2)]⟩))) (by
  rintro t f K h
  · exact h) (fun s => link_map (spec_l20Fill_n6_l n x1173 x1248 s.1 x1175 s.2.1 s.2.2) (Sum.elim (fun (t : Int × Int × (List Int)) => Sum.inl (t.1, t.2.1, t.2.2)) (fun (t : Int × (List Int)) => Sum.inr t)) (by
  rintro (t | t)
  · kernel_rfl
  · kernel_rfl)) (x1277, x1264, x1265))

def spec_l20Fill_n8_l (n : Nat) (x1173 : Int) (x1248 : Int) (x1277 : Int) (x1175 : List Int) (x1264 : Int) (x1265 : List Int) := (link_block (fin2 := (fun (t : Int × (List Int)) => (Exit.normal, ⟨mkE 70 0 [], [some (.box [dV x1175, dI t.1]), some (sI t.2)]⟩))) (id := 2) (spec_l20Fill_n7_l n x1173 x1248 x1277 x1175 x1264 x1265) (fun (t : Int × (List Int)) => (t.1, t.2)) (by
  rintro t K h
  · exact Eq.mp (by kernel_rfl) h))

def spec_l20Fill_n9_l (n : Nat) (x1173 : Int) (x1248 : Int) (x1175 : List Int) (x1264 : Int) (x1265 : List Int) := (link_seq (spec_l20Fill_n5_l n x1173 x1248 x1175 x1264 x1265) (fun (t : Int) => (spec_l20Fill_n8_l n x1173 x1248 t x1175 x1264 x1265)))

def spec_l20Fill_n10_l (n : Nat) (x1173 : Int) (x1248 : Int) (x1172 : Int) (x1175 : List Int) (x1247 : Int) (x1251 : List Int) := (link_seq (spec_l20Fill_n4_l n x1173 x1248 x1172 x1175 x1247 x1251) (fun (t : Int × (List Int)) => (spec_l20Fill_n9_l n x1173 x1248 x1175 t.1 t.2)))

def spec_l20Fill_n11_l (n : Nat) (x1172 : Int) (x1173 : Int) (x1174 : Int) (x1175 : List Int) (x1176 : Int) (x1177 : List Int) := (link_group (c := (cq [0,1,1,1] (bodyOf Try.f75))) (a := (aq [0,1,1,1] spec_l20Fill_an)) [(cq [0] (bodyOf Try.f75)), (cq [0,1] (bodyOf Try.f75)), (cq [0,1,1] (bodyOf Try.f75))] [(aq [0] spec_l20Fill_an), (aq [0,1] spec_l20Fill_an), (aq [0,1,1] spec_l20Fill_an)] rfl (link_seq2 (spec_l20Fill_n1_l n x1172 x1173 x1174 x1175 x1176 x1177) (fun (t : Int × Int × (List Int)) => (link_map (fin2 := (Sum.elim (fun (t : Int × (List Int)) => (Exit.normal, ⟨mkE 70 0 [], [some (.box [dV x1175, dI t.1]), some (sI t.2)]⟩)) (fun (t : Int × (List Int)) => (Exit.ret, ⟨mkE 70 0 [], [some (.box [dV x1175, dI t.1]), some (sI t.2)]⟩)))) (spec_l20Fill_n10_l n x1173 t.1 x1172 x1175 t.2.1 t.2.2) (fun (u : Int × (List Int)) => (Sum.inl (u.1, u.2))) (by
  rintro t
  · kernel_rfl))) (fun (t : Int × (List Int)) => (Sum.inr t)) (by
  rintro t
  · kernel_rfl) (by
  rintro t f K h
  · exact h)))

theorem spec_l20Fill_e (n : Nat) (x1172 : Int) (x1173 : Int) (x1174 : Int) (x1175 : List Int) (x1176 : Int) (x1177 : List Int) {r : AV} {H' : Heap} (h : (Ans.mk _ (spec_l20Fill_fuel (n + 1) x1172 x1173 x1174 x1175 x1176 x1177) (fun (t : Int × (List Int)) => (.tup [], [some (.box [dV x1175, dI t.1]), some (sI t.2)])) [] none).run = some (r, H')) : Awp (spec_l20Fill_ctx n) LL (bodyOf Try.f75) spec_l20Fill_an ⟨mkE 70 0 [(0, .ptr 0 0), (1, .slc 1), (2, dI x1172), (3, dI x1173), (4, dI x1174)], [some (.box [dV x1175, dI x1176]), some (sI x1177)]⟩ (Ret (tlook tys) Try.f75.results.toList r H') :=
  ret_of (Link.cast (by kernel_rfl) (by kernel_rfl) (spec_l20Fill_n11_l n x1172 x1173 x1174 x1175 x1176 x1177)) (Sum.elim (fun (t : Int × (List Int)) => (t.1, t.2)) (fun (t : Int × (List Int)) => t)) (by (show _ = _); kernel_rfl) (by
  rintro (t | t)
  · exact ret_mk [] (by kernel_rfl) (by kernel_rfl) (by kernel_rfl) (by kernel_rfl)
  · exact ret_mk [] (by kernel_rfl) (by kernel_rfl) (by kernel_rfl) (by kernel_rfl)) h

theorem spec_l20Fill_step (n : Nat) (h75 : Sound Try.prog 75 (F_spec_l20Fill_fuel n)) : Sound Try.prog 75 (F_spec_l20Fill_fuel (n + 1)) := by
  refine fn_sound' (C := spec_l20Fill_ctx n) (c := bodyOf Try.f75) (cok_of tys_ok (allc spec_l20Rd_pick_sound (allc h75 alln)) (allc Try.call61 (allc Try.call75 alln)) (by kernel_rfl)) Try.func75 (by kernel_rfl) LL spec_l20Fill_an ?_
  intro avs H r H' h
  unfold F_spec_l20Fill_fuel at h
  split at h
  · refine Awp.cast ?_ ?_ ?_ (spec_l20Fill_e n _ _ _ _ _ _ h) <;> kernel_rfl
  · simp [Ans.no, Ans.run] at h

theorem spec_l20Fill_null : Sound Try.prog 75 (F_spec_l20Fill_fuel 0) := by
  intro avs H r H' h
  unfold F_spec_l20Fill_fuel at h
  split at h
  · simp [spec_l20Fill_fuel, spec_l20Fill_knot, Ans.run] at h
  · simp [Ans.no, Ans.run] at h

theorem spec_l20Fill_knot_all : ∀ n, Sound Try.prog 75 (F_spec_l20Fill_fuel n)
  | 0 => spec_l20Fill_null
  | n + 1 => by
    have h75 := spec_l20Fill_knot_all n
    exact spec_l20Fill_step n h75

def F_spec_l20Fill : Fun := fun avs H =>
  match avs, H with
  | [.ptr 0 0, .slc 1, .dat (.int .i64) x1172, .dat (.int .i64) x1173, .dat (.int .i64) x1174], [some (.box [.dat (.list (.int .u8)) x1175, .dat (.int .i64) x1176]), some (.seq (.int .i64) x1177)] => ⟨_, spec_l20Fill x1172 x1173 x1174 x1175 x1176 x1177, fun (t : Int × (List Int)) => (.tup [], [some (.box [dV x1175, dI t.1]), some (sI t.2)]), [], none⟩
  | _, _ => Ans.no

theorem spec_l20Fill_sound : Sound Try.prog 75 F_spec_l20Fill := by
  have e : F_spec_l20Fill = F_spec_l20Fill_fuel RR := by
    funext avs H
    unfold F_spec_l20Fill F_spec_l20Fill_fuel
    split <;> first | rfl | (simp only [spec_l20Fill])
  rw [e]
  exact (spec_l20Fill_knot_all RR)


/-! loop.example/headtrees/spec.l20Flat -/

def spec_l20Flat_an : Ann := (.seq (.leaf [0, 1]) (.seq (.seq (.leaf [0, 1, 9]) (.cond (.seq (.leaf [4]) (.leaf [4])) (.leaf [0]))) (.seq (.leaf [0, 5]) (.seq (.leaf [0, 5, 6]) (.seq (.leaf [6]) (.seq (.leaf [4]) (.leaf [4])))))))

noncomputable def spec_l20Flat_ctx : Ctx := ⟨tlook tys, olook [(61, F_spec_l20Rd_pick), (60, F_spec_l20Tree), (75, F_spec_l20Fill)], ioF, 1, false, []⟩

theorem spec_l20Flat_n1_l (x1125 : Int) (x1126 : List Int) (x1127 : Int) : Link spec_l20Flat_ctx LL (bodyOf Try.f64) spec_l20Flat_an ⟨mkE 23 0 [(0, .ptr 0 0), (1, dI x1125)], [some (.box [dV x1126, dI x1127])]⟩ (spec_l20Flat_n1 x1125 x1126 x1127) (fun (t : Int × (List Int)) => (Exit.ret, ⟨mkE 23 0 [(4, .slc 1)], [some (.box [dV x1126, dI t.1]), some (sI t.2)]⟩)) := .of fun K h => by
  simp only [spec_l20Flat_n1, wpW] at h
  exact .of (by kernel_rfl) h

theorem spec_l20Flat_e (x1125 : Int) (x1126 : List Int) (x1127 : Int) {r : AV} {H' : Heap} (h : (Ans.mk _ (spec_l20Flat x1125 x1126 x1127) (fun (t : Int × (List Int)) => (.slc 1, [some (.box [dV x1126, dI t.1]), some (sI t.2)])) [] none).run = some (r, H')) : Awp spec_l20Flat_ctx LL (bodyOf Try.f64) spec_l20Flat_an ⟨mkE 23 0 [(0, .ptr 0 0), (1, dI x1125)], [some (.box [dV x1126, dI x1127])]⟩ (Ret (tlook tys) Try.f64.results.toList r H') :=
  ret_of' (spec_l20Flat_n1_l x1125 x1126 x1127) (by unfold spec_l20Flat; kernel_rfl) (by
  intro t
  exact ret_mk [.slc 1] (by kernel_rfl) (by kernel_rfl) (by kernel_rfl) (by kernel_rfl)) h

def F_spec_l20Flat : Fun := fun avs H =>
  match avs, H with
  | [.ptr 0 0, .dat (.int .i64) x1125], [some (.box [.dat (.list (.int .u8)) x1126, .dat (.int .i64) x1127])] => ⟨_, spec_l20Flat x1125 x1126 x1127, fun (t : Int × (List Int)) => (.slc 1, [some (.box [dV x1126, dI t.1]), some (sI t.2)]), [], none⟩
  | _, _ => Ans.no

theorem spec_l20Flat_sound : Sound Try.prog 64 F_spec_l20Flat := by
  refine fn_sound' (C := spec_l20Flat_ctx) (c := bodyOf Try.f64) (cok_of tys_ok (allc spec_l20Rd_pick_sound (allc spec_l20Tree_sound (allc spec_l20Fill_sound alln))) (allc Try.call61 (allc Try.call60 (allc Try.call75 alln))) (by kernel_rfl)) Try.func64 (by kernel_rfl) LL spec_l20Flat_an ?_
  intro avs H r H' h
  unfold F_spec_l20Flat at h
  split at h
  · refine Awp.cast ?_ ?_ ?_ (spec_l20Flat_e _ _ _ h) <;> kernel_rfl
  · simp [Ans.no, Ans.run] at h


/-! loop.example/headtrees/spec.l20Wild -/

def spec_l20Wild_an : Ann := (.seq (.leaf [0, 1]) (.seq (.leaf [0, 1, 5]) (.seq (.seq (.leaf [0, 1, 5, 17]) (.cond (.seq (.leaf [6]) (.seq (.leaf [4]) (.leaf [4]))) (.leaf [0, 1, 5]))) (.seq (.seq (.leaf [0, 1, 5, 30]) (.cond (.seq (.leaf [4]) (.leaf [4])) (.leaf [5]))) (.seq (.leaf [4]) (.leaf [4]))))))

noncomputable def spec_l20Wild_ctx : Ctx := ⟨tlook tys, olook [(60, F_spec_l20Tree), (61, F_spec_l20Rd_pick), (42, F_spec_TreeOk), (63, F_spec_l20Order), (62, F_spec_PutInOrder), (64, F_spec_l20Flat)], ioF, 1, false, []⟩

theorem spec_l20Wild_n1_l (x34 : Int) (x35 : List Int) (x36 : Int) : Link spec_l20Wild_ctx LL (bodyOf Try.f37) spec_l20Wild_an ⟨mkE 35 0 [(0, .ptr 0 0), (1, dI x34)], [some (.box [dV x35, dI x36])]⟩ (spec_l20Wild_n1 x34 x35 x36) (fun (t : Int × (List Int)) => (Exit.ret, ⟨mkE 35 0 [(4, .slc 1)], [some (.box [dV x35, dI t.1]), some (sI t.2)]⟩)) := .of fun K h => by
  simp only [spec_l20Wild_n1, wpW] at h
  exact .of (by kernel_rfl) h

theorem spec_l20Wild_e (x34 : Int) (x35 : List Int) (x36 : Int) {r : AV} {H' : Heap} (h : (Ans.mk _ (spec_l20Wild x34 x35 x36) (fun (t : Int × (List Int)) => (.slc 1, [some (.box [dV x35, dI t.1]), some (sI t.2)])) [] none).run = some (r, H')) : Awp spec_l20Wild_ctx LL (bodyOf Try.f37) spec_l20Wild_an ⟨mkE 35 0 [(0, .ptr 0 0), (1, dI x34)], [some (.box [dV x35, dI x36])]⟩ (Ret (tlook tys) Try.f37.results.toList r H') :=
  ret_of' (spec_l20Wild_n1_l x34 x35 x36) (by unfold spec_l20Wild; kernel_rfl) (by
  intro t
  exact ret_mk [.slc 1] (by kernel_rfl) (by kernel_rfl) (by kernel_rfl) (by kernel_rfl)) h

def F_spec_l20Wild : Fun := fun avs H =>
  match avs, H with
  | [.ptr 0 0, .dat (.int .i64) x34], [some (.box [.dat (.list (.int .u8)) x35, .dat (.int .i64) x36])] => ⟨_, spec_l20Wild x34 x35 x36, fun (t : Int × (List Int)) => (.slc 1, [some (.box [dV x35, dI t.1]), some (sI t.2)]), [], none⟩
  | _, _ => Ans.no

theorem spec_l20Wild_sound : Sound Try.prog 37 F_spec_l20Wild := by
  refine fn_sound' (C := spec_l20Wild_ctx) (c := bodyOf Try.f37) (cok_of tys_ok (allc spec_l20Tree_sound (allc spec_l20Rd_pick_sound (allc spec_TreeOk_sound (allc spec_l20Order_sound (allc spec_PutInOrder_sound (allc spec_l20Flat_sound alln)))))) (allc Try.call60 (allc Try.call61 (allc Try.call42 (allc Try.call63 (allc Try.call62 (allc Try.call64 alln)))))) (by kernel_rfl)) Try.func37 (by kernel_rfl) LL spec_l20Wild_an ?_
  intro avs H r H' h
  unfold F_spec_l20Wild at h
  split at h
  · refine Awp.cast ?_ ?_ ?_ (spec_l20Wild_e _ _ _ h) <;> kernel_rfl
  · simp [Ans.no, Ans.run] at h


/-! loop.example/headtrees/impl.oneRoot -/

def impl_oneRoot_an : Ann := (.seq (.leaf [0]) (.seq (.leaf [0, 3]) (.seq (.seq (.leaf [0, 3, 6, 7, 8]) (.block (.loop (.seq (.leaf [0, 3, 6, 7, 8, 9]) (.seq (.cond (.leaf [0, 3, 6, 7, 8]) (.leaf [3])) (.seq (.block (.seq (.leaf [0, 3, 5, 6, 7, 8]) (.seq (.seq (.leaf [0, 3, 5, 6, 7, 8, 19]) (.cond (.seq (.leaf [2]) (.leaf [2])) (.leaf [0, 3, 5, 6, 7, 8]))) (.seq (.leaf [0, 3, 6, 7, 8, 21]) (.cond (.leaf [0, 3, 6, 7, 8]) (.leaf [0, 3, 6, 7, 8])))))) (.leaf [0, 3, 6, 7, 8]))))))) (.seq (.leaf [2]) (.leaf [2])))))

noncomputable def impl_oneRoot_ctx : Ctx := ⟨tlook tys, olook [], ioF, 0, false, []⟩

theorem impl_oneRoot_n1_l (x1431 : List Int) : Link impl_oneRoot_ctx LL (Code.seq (cq [0] (bodyOf Try.f43)) (cq [0,1] (bodyOf Try.f43))) (Ann.seq (aq [0] impl_oneRoot_an) (aq [0,1] impl_oneRoot_an)) ⟨mkE 27 0 [(0, dL x1431)], []⟩ (impl_oneRoot_n1) (fun (t : Unit) => (Exit.normal, ⟨mkE 27 0 [(0, dL x1431), (3, dI 0)], []⟩)) := .of fun K h => by
  simp only [impl_oneRoot_n1, wpW] at h
  exact .of (by kernel_rfl) h

theorem impl_oneRoot_n2_l (x1431 : List Int) : Link impl_oneRoot_ctx LL (cq [0,0,1,1] (bodyOf Try.f43)) (aq [0,0,1,1] impl_oneRoot_an) ⟨mkE 27 0 [(0, dL x1431), (3, dI 0)], []⟩ (impl_oneRoot_n2 x1431) (fun (t : Int) => (Exit.normal, ⟨mkE 27 0 [(0, dL x1431), (3, dI 0), (6, dL x1431), (7, dI t), (8, dI 0)], []⟩)) := .of fun K h => by
  simp only [impl_oneRoot_n2, wpW] at h
  exact .of (by kernel_rfl) h

theorem impl_oneRoot_n3_l (x1431 : List Int) (x1453 : Int) (x1432 : Int) (x1454 : Int) : Link impl_oneRoot_ctx LL (cq [0,0,1,0,1,1] (bodyOf Try.f43)) (aq [0,0,1,0,1,1] impl_oneRoot_an) ⟨mkE 27 0 [(0, dL x1431), (3, dI x1453), (6, dL x1431), (7, dI x1432), (8, dI x1454)], []⟩ (impl_oneRoot_n3 x1431 x1453 x1432 x1454) (Sum.elim (fun (t : Int × Int) => (Exit.normal, ⟨mkE 27 0 [(0, dL x1431), (3, dI t.1), (6, dL x1431), (7, dI x1432), (8, dI t.2)], []⟩)) (Sum.elim (fun (t : Bool) => (Exit.ret, ⟨mkE 27 0 [(2, dB t)], []⟩)) (fun (t : Int) => ((Exit.exit 0), ⟨mkE 27 0 [(3, dI t)], []⟩)))) := .of fun K h => by
  simp only [impl_oneRoot_n3, wpW] at h
  exact .of (by kernel_rfl) h

def impl_oneRoot_n4_l (x1431 : List Int) (x1432 : Int) := (link_loop (mk := fun (s : Int × Int) => ⟨mkE 27 0 [(0, dL x1431), (3, dI s.1), (6, dL x1431), (7, dI x1432), (8, dI s.2)], []⟩) (fin := (Sum.elim (fun (t : Bool) => (Exit.ret, ⟨mkE 27 0 [(2, dB t)], []⟩)) (fun (t : Int) => ((Exit.exit 0), ⟨mkE 27 0 [(3, dI t)], []⟩)))) (by
  rintro (t | t) f K h
  · exact h
  · exact h) (fun s => link_map (impl_oneRoot_n3_l x1431 s.1 x1432 s.2) (Sum.elim (fun (t : Int × Int) => Sum.inl (t.1, t.2)) (Sum.elim (fun (t : Bool) => Sum.inr (Sum.inl t)) (fun (t : Int) => Sum.inr (Sum.inr t)))) (by
  rintro (t | t | t)
  · kernel_rfl
  · kernel_rfl
  · kernel_rfl)) (0, 0))

def impl_oneRoot_n5_l (x1431 : List Int) (x1432 : Int) := (link_block (fin2 := (Sum.elim (fun (t : Int) => (Exit.normal, ⟨mkE 27 0 [(3, dI t)], []⟩)) (fun (t : Bool) => (Exit.ret, ⟨mkE 27 0 [(2, dB t)], []⟩)))) (id := 0) (impl_oneRoot_n4_l x1431 x1432) (Sum.elim (fun (t : Bool) => (Sum.inr t)) (fun (t : Int) => (Sum.inl t))) (by
  rintro (t | t) K h
  · exact Eq.mp (by kernel_rfl) h
  · exact Eq.mp (by kernel_rfl) h))

def impl_oneRoot_n6_l (x1431 : List Int) := (link_seq (impl_oneRoot_n2_l x1431) (fun (t : Int) => (impl_oneRoot_n5_l x1431 t)))

theorem impl_oneRoot_n7_l (x1453 : Int) : Link impl_oneRoot_ctx LL (cq [1,1,1] (bodyOf Try.f43)) (aq [1,1,1] impl_oneRoot_an) ⟨mkE 27 0 [(3, dI x1453)], []⟩ (impl_oneRoot_n7 x1453) (fun (t : Bool) => (Exit.ret, ⟨mkE 27 0 [(2, dB t)], []⟩)) := .of fun K h => by
  simp only [impl_oneRoot_n7, wpW] at h
  exact .of (by kernel_rfl) h

def impl_oneRoot_n8_l (x1431 : List Int) := (link_seq2 (impl_oneRoot_n6_l x1431) (fun (t : Int) => (impl_oneRoot_n7_l t)) (fun (t : Bool) => t) (by
  rintro t
  · kernel_rfl) (by
  rintro t f K h
  · exact h))

def impl_oneRoot_n9_l (x1431 : List Int) := (link_group (c := (cq [0,1] (bodyOf Try.f43))) (a := (aq [0,1] impl_oneRoot_an)) [(cq [0] (bodyOf Try.f43))] [(aq [0] impl_oneRoot_an)] rfl (link_seq (impl_oneRoot_n1_l x1431) (fun (t : Unit) => (impl_oneRoot_n8_l x1431))))

theorem impl_oneRoot_e (x1431 : List Int) {r : AV} {H' : Heap} (h : (Ans.mk _ (impl_oneRoot x1431) (fun (t : Bool) => (dB t, [])) [] none).run = some (r, H')) : Awp impl_oneRoot_ctx LL (bodyOf Try.f43) impl_oneRoot_an ⟨mkE 27 0 [(0, dL x1431)], []⟩ (Ret (tlook tys) Try.f43.results.toList r H') :=
  ret_of' (Link.cast (by kernel_rfl) (by kernel_rfl) (impl_oneRoot_n9_l x1431)) (by unfold impl_oneRoot; kernel_rfl) (by
  intro t
  exact ret_mk [dB t] (by kernel_rfl) (by kernel_rfl) (by kernel_rfl) (by kernel_rfl)) h

def F_impl_oneRoot : Fun := fun avs H =>
  match avs, H with
  | [.dat (.list (.int .i64)) x1431], [] => ⟨_, impl_oneRoot x1431, fun (t : Bool) => (dB t, []), [], none⟩
  | _, _ => Ans.no

theorem impl_oneRoot_sound : Sound Try.prog 43 F_impl_oneRoot := by
  refine fn_sound' (C := impl_oneRoot_ctx) (c := bodyOf Try.f43) (cok_of tys_ok (alln) (alln) (by kernel_rfl)) Try.func43 (by kernel_rfl) LL impl_oneRoot_an ?_
  intro avs H r H' h
  unfold F_impl_oneRoot at h
  split at h
  · refine Awp.cast ?_ ?_ ?_ (impl_oneRoot_e _ h) <;> kernel_rfl
  · simp [Ans.no, Ans.run] at h


/-! (*loop.example/headtrees/impl.walker).up -/

def impl_walker_up_an : Ann := (.seq (.leaf [0]) (.seq (.draw [] [0, 1, 2, 3, 4, 5, 6, 7, 8, 9, 10, 11] [] [0, 3]) (.seq (.seq (.leaf [0, 3, 16]) (.cond (.seq (.leaf [2]) (.leaf [2])) (.leaf [0, 3]))) (.seq (.leaf [0]) (.seq (.leaf []) (.seq (.leaf [2]) (.leaf [2])))))))

noncomputable def impl_walker_up_ctx : Ctx := ⟨tlook tys, olook [], ioF, 1, false, []⟩

theorem impl_walker_up_n1_l (x1487 : List Int) (x1488 : Int) (x1489 : Int) : Link impl_walker_up_ctx LL (bodyOf Try.f66) impl_walker_up_an ⟨mkE 28 0 [(0, .ptr 0 0)], [some (.box [dL x1487, dI x1488, dI x1489])]⟩ (impl_walker_up_n1 x1487 x1488 x1489) (fun (t : Bool × Int × Int) => (Exit.ret, ⟨mkE 28 0 [(2, dB t.1)], [some (.box [dL x1487, dI t.2.1, dI t.2.2])]⟩)) := .of fun K h => by
  simp only [impl_walker_up_n1, wpW] at h
  exact .of (by kernel_rfl) h

theorem impl_walker_up_e (x1487 : List Int) (x1488 : Int) (x1489 : Int) {r : AV} {H' : Heap} (h : (Ans.mk _ (impl_walker_up x1487 x1488 x1489) (fun (t : Bool × Int × Int) => (dB t.1, [some (.box [dL x1487, dI t.2.1, dI t.2.2])])) [] none).run = some (r, H')) : Awp impl_walker_up_ctx LL (bodyOf Try.f66) impl_walker_up_an ⟨mkE 28 0 [(0, .ptr 0 0)], [some (.box [dL x1487, dI x1488, dI x1489])]⟩ (Ret (tlook tys) Try.f66.results.toList r H') :=
  ret_of' (impl_walker_up_n1_l x1487 x1488 x1489) (by unfold impl_walker_up; kernel_rfl) (by
  intro t
  exact ret_mk [dB t.1] (by kernel_rfl) (by kernel_rfl) (by kernel_rfl) (by kernel_rfl)) h

def F_impl_walker_up : Fun := fun avs H =>
  match avs, H with
  | [.ptr 0 0], [some (.box [.dat (.list (.int .i64)) x1487, .dat (.int .i64) x1488, .dat (.int .i64) x1489])] => ⟨_, impl_walker_up x1487 x1488 x1489, fun (t : Bool × Int × Int) => (dB t.1, [some (.box [dL x1487, dI t.2.1, dI t.2.2])]), [], none⟩
  | _, _ => Ans.no

theorem impl_walker_up_sound : Sound Try.prog 66 F_impl_walker_up := by
  refine fn_sound' (C := impl_walker_up_ctx) (c := bodyOf Try.f66) (cok_of tys_ok (alln) (alln) (by kernel_rfl)) Try.func66 (by kernel_rfl) LL impl_walker_up_an ?_
  intro avs H r H' h
  unfold F_impl_walker_up at h
  split at h
  · refine Awp.cast ?_ ?_ ?_ (impl_walker_up_e _ _ _ h) <;> kernel_rfl
  · simp [Ans.no, Ans.run] at h


/-! loop.example/headtrees/impl.stepsToRoot -/

def impl_stepsToRoot_an : Ann := (.seq (.leaf [0, 1]) (.seq (.leaf [0, 6]) (.seq (.block (.loop (.seq (.seq (.leaf [0, 6, 10]) (.cond (.leaf [0, 6]) (.leaf [6]))) (.block (.seq (.leaf [0, 6, 15]) (.cond (.seq (.leaf [4, 5]) (.leaf [4, 5])) (.leaf [0, 6]))))))) (.seq (.leaf [4, 5]) (.leaf [4, 5])))))

noncomputable def impl_stepsToRoot_ctx : Ctx := ⟨tlook tys, olook [(66, F_impl_walker_up)], ioF, 0, false, []⟩

theorem impl_stepsToRoot_n1_l (x1485 : List Int) (x1486 : Int) : Link impl_stepsToRoot_ctx LL (Code.seq (cq [0] (bodyOf Try.f44)) (cq [0,1] (bodyOf Try.f44))) (Ann.seq (aq [0] impl_stepsToRoot_an) (aq [0,1] impl_stepsToRoot_an)) ⟨mkE 18 0 [(0, dL x1485), (1, dI x1486)], []⟩ (impl_stepsToRoot_n1) (fun (t : Unit) => (Exit.normal, ⟨mkE 18 0 [(0, dL x1485), (6, .ptr 0 0)], [some (.box [dL x1485, dI x1486, dI 0])]⟩)) := .of fun K h => by
  simp only [impl_stepsToRoot_n1, wpW] at h
  exact .of (by kernel_rfl) h

theorem impl_stepsToRoot_n2_l (x1485 : List Int) (x1523 : Int) (x1524 : Int) : Link impl_stepsToRoot_ctx LL (cq [0,0,0,1,1] (bodyOf Try.f44)) (aq [0,0,0,1,1] impl_stepsToRoot_an) ⟨mkE 18 0 [(0, dL x1485), (6, .ptr 0 0)], [some (.box [dL x1485, dI x1523, dI x1524])]⟩ (impl_stepsToRoot_n2 x1485 x1523 x1524) (Sum.elim (fun (t : Int × Int) => (Exit.normal, ⟨mkE 18 0 [(0, dL x1485), (6, .ptr 0 0)], [some (.box [dL x1485, dI t.1, dI t.2])]⟩)) (Sum.elim (fun (t : Int × Bool) => (Exit.ret, ⟨mkE 18 0 [(4, dI t.1), (5, dB t.2)], []⟩)) (fun (t : Int × Int) => ((Exit.exit 0), ⟨mkE 18 0 [(6, .ptr 0 0)], [some (.box [dL x1485, dI t.1, dI t.2])]⟩)))) := .of fun K h => by
  simp only [impl_stepsToRoot_n2, wpW] at h
  exact .of (by kernel_rfl) h

def impl_stepsToRoot_n3_l (x1485 : List Int) (x1486 : Int) := (link_loop (mk := fun (s : Int × Int) => ⟨mkE 18 0 [(0, dL x1485), (6, .ptr 0 0)], [some (.box [dL x1485, dI s.1, dI s.2])]⟩) (fin := (Sum.elim (fun (t : Int × Bool) => (Exit.ret, ⟨mkE 18 0 [(4, dI t.1), (5, dB t.2)], []⟩)) (fun (t : Int × Int) => ((Exit.exit 0), ⟨mkE 18 0 [(6, .ptr 0 0)], [some (.box [dL x1485, dI t.1, dI t.2])]⟩)))) (by
  rintro (t | t) f K h
  · exact h
  · exact h) (fun s => link_map (impl_stepsToRoot_n2_l x1485 s.1 s.2) (Sum.elim (fun (t : Int × Int) => Sum.inl (t.1, t.2)) (Sum.elim (fun (t : Int × Bool) => Sum.inr (Sum.inl t)) (fun (t : Int × Int) => Sum.inr (Sum.inr t)))) (by
  rintro (t | t | t)
  · kernel_rfl
  · kernel_rfl
  · kernel_rfl)) (x1486, 0))

def impl_stepsToRoot_n4_l (x1485 : List Int) (x1486 : Int) := (link_block (fin2 := (Sum.elim (fun (t : Int × Int) => (Exit.normal, ⟨mkE 18 0 [(6, .ptr 0 0)], [some (.box [dL x1485, dI t.1, dI t.2])]⟩)) (fun (t : Int × Bool) => (Exit.ret, ⟨mkE 18 0 [(4, dI t.1), (5, dB t.2)], []⟩)))) (id := 0) (impl_stepsToRoot_n3_l x1485 x1486) (Sum.elim (fun (t : Int × Bool) => (Sum.inr t)) (fun (t : Int × Int) => (Sum.inl (t.1, t.2)))) (by
  rintro (t | t) K h
  · exact Eq.mp (by kernel_rfl) h
  · exact Eq.mp (by kernel_rfl) h))

theorem impl_stepsToRoot_n5_l (x1485 : List Int) (x1531 : Int) (x1532 : Int) : Link impl_stepsToRoot_ctx LL (cq [1,1,1] (bodyOf Try.f44)) (aq [1,1,1] impl_stepsToRoot_an) ⟨mkE 18 0 [(6, .ptr 0 0)], [some (.box [dL x1485, dI x1531, dI x1532])]⟩ (impl_stepsToRoot_n5 x1532) (fun (t : Int × Bool) => (Exit.ret, ⟨mkE 18 0 [(4, dI t.1), (5, dB t.2)], []⟩)) := .of fun K h => by
  simp only [impl_stepsToRoot_n5, wpW] at h
  exact .of (by kernel_rfl) h

def impl_stepsToRoot_n6_l (x1485 : List Int) (x1486 : Int) := (link_seq2 (impl_stepsToRoot_n4_l x1485 x1486) (fun (t : Int × Int) => (impl_stepsToRoot_n5_l x1485 t.1 t.2)) (fun (t : Int × Bool) => t) (by
  rintro t
  · kernel_rfl) (by
  rintro t f K h
  · exact h))

def impl_stepsToRoot_n7_l (x1485 : List Int) (x1486 : Int) := (link_group (c := (cq [0,1] (bodyOf Try.f44))) (a := (aq [0,1] impl_stepsToRoot_an)) [(cq [0] (bodyOf Try.f44))] [(aq [0] impl_stepsToRoot_an)] rfl (link_seq (impl_stepsToRoot_n1_l x1485 x1486) (fun (t : Unit) => (impl_stepsToRoot_n6_l x1485 x1486))))

theorem impl_stepsToRoot_e (x1485 : List Int) (x1486 : Int) {r : AV} {H' : Heap} (h : (Ans.mk _ (impl_stepsToRoot x1485 x1486) (fun (t : Int × Bool) => (.tup [dI t.1, dB t.2], [])) [] none).run = some (r, H')) : Awp impl_stepsToRoot_ctx LL (bodyOf Try.f44) impl_stepsToRoot_an ⟨mkE 18 0 [(0, dL x1485), (1, dI x1486)], []⟩ (Ret (tlook tys) Try.f44.results.toList r H') :=
  ret_of' (Link.cast (by kernel_rfl) (by kernel_rfl) (impl_stepsToRoot_n7_l x1485 x1486)) (by unfold impl_stepsToRoot; kernel_rfl) (by
  intro t
  exact ret_mk [dI t.1, dB t.2] (by kernel_rfl) (by kernel_rfl) (by kernel_rfl) (by kernel_rfl)) h

def F_impl_stepsToRoot : Fun := fun avs H =>
  match avs, H with
  | [.dat (.list (.int .i64)) x1485, .dat (.int .i64) x1486], [] => ⟨_, impl_stepsToRoot x1485 x1486, fun (t : Int × Bool) => (.tup [dI t.1, dB t.2], []), [], none⟩
  | _, _ => Ans.no

theorem impl_stepsToRoot_sound : Sound Try.prog 44 F_impl_stepsToRoot := by
  refine fn_sound' (C := impl_stepsToRoot_ctx) (c := bodyOf Try.f44) (cok_of tys_ok (allc impl_walker_up_sound alln) (allc Try.call66 alln) (by kernel_rfl)) Try.func44 (by kernel_rfl) LL impl_stepsToRoot_an ?_
  intro avs H r H' h
  unfold F_impl_stepsToRoot at h
  split at h
  · refine Awp.cast ?_ ?_ ?_ (impl_stepsToRoot_e _ _ h) <;> kernel_rfl
  · simp [Ans.no, Ans.run] at h


/-! loop.example/headtrees/impl.TreeOk -/

def impl_TreeOk_an : Ann := (.seq (.leaf [0]) (.seq (.seq (.leaf [0, 18]) (.cond (.seq (.leaf [2]) (.leaf [2])) (.leaf [0]))) (.seq (.seq (.leaf [0, 20, 21]) (.block (.loop (.seq (.leaf [0, 20, 21, 22]) (.seq (.cond (.leaf [0, 20, 21]) (.leaf [])) (.seq (.block (.seq (.leaf [0, 3, 20, 21]) (.seq (.leaf [0, 5, 20, 21]) (.seq (.leaf [0, 20, 21, 32]) (.cond (.seq (.leaf [2]) (.leaf [2])) (.leaf [0, 20, 21])))))) (.leaf [0, 20, 21]))))))) (.seq (.leaf [2]) (.leaf [2])))))

noncomputable def impl_TreeOk_ctx : Ctx := ⟨tlook tys, olook [(43, F_impl_oneRoot), (44, F_impl_stepsToRoot)], ioF, 0, false, []⟩

theorem impl_TreeOk_n1_l (x1426 : List Int) : Link impl_TreeOk_ctx LL (Code.seq (cq [0] (bodyOf Try.f16)) (cq [0,1] (bodyOf Try.f16))) (Ann.seq (aq [0] impl_TreeOk_an) (aq [0,1] impl_TreeOk_an)) ⟨mkE 34 0 [(0, dL x1426)], []⟩ (impl_TreeOk_n1 x1426) (Sum.elim (fun (t : Unit) => (Exit.normal, ⟨mkE 34 0 [(0, dL x1426)], []⟩)) (fun (t : Bool) => (Exit.ret, ⟨mkE 34 0 [(2, dB t)], []⟩))) := .of fun K h => by
  simp only [impl_TreeOk_n1, wpW] at h
  exact .of (by kernel_rfl) h

theorem impl_TreeOk_n2_l (x1426 : List Int) : Link impl_TreeOk_ctx LL (cq [0,0,1,1] (bodyOf Try.f16)) (aq [0,0,1,1] impl_TreeOk_an) ⟨mkE 34 0 [(0, dL x1426)], []⟩ (impl_TreeOk_n2 x1426) (fun (t : Int) => (Exit.normal, ⟨mkE 34 0 [(0, dL x1426), (20, dI t), (21, dI 0)], []⟩)) := .of fun K h => by
  simp only [impl_TreeOk_n2, wpW] at h
  exact .of (by kernel_rfl) h

theorem impl_TreeOk_n3_l (x1426 : List Int) (x1480 : Int) (x1548 : Int) : Link impl_TreeOk_ctx LL (cq [0,0,1,0,1,1] (bodyOf Try.f16)) (aq [0,0,1,0,1,1] impl_TreeOk_an) ⟨mkE 34 0 [(0, dL x1426), (20, dI x1480), (21, dI x1548)], []⟩ (impl_TreeOk_n3 x1426 x1480 x1548) (Sum.elim (fun (t : Int) => (Exit.normal, ⟨mkE 34 0 [(0, dL x1426), (20, dI x1480), (21, dI t)], []⟩)) (Sum.elim (fun (t : Bool) => (Exit.ret, ⟨mkE 34 0 [(2, dB t)], []⟩)) (fun (t : Unit) => ((Exit.exit 0), ⟨mkE 34 0 [], []⟩)))) := .of fun K h => by
  simp only [impl_TreeOk_n3, wpW] at h
  exact .of (by kernel_rfl) h

def impl_TreeOk_n4_l (x1426 : List Int) (x1480 : Int) := (link_loop (mk := fun (s : Int) => ⟨mkE 34 0 [(0, dL x1426), (20, dI x1480), (21, dI s)], []⟩) (fin := (Sum.elim (fun (t : Bool) => (Exit.ret, ⟨mkE 34 0 [(2, dB t)], []⟩)) (fun (t : Unit) => ((Exit.exit 0), ⟨mkE 34 0 [], []⟩)))) (by
  rintro (t | t) f K h
  · exact h
  · exact h) (fun s => link_map (impl_TreeOk_n3_l x1426 x1480 s) (Sum.elim (fun (t : Int) => Sum.inl t) (Sum.elim (fun (t : Bool) => Sum.inr (Sum.inl t)) (fun (t : Unit) => Sum.inr (Sum.inr t)))) (by
  rintro (t | t | t)
  · kernel_rfl
  · kernel_rfl
  · kernel_rfl)) 0)

def impl_TreeOk_n5_l (x1426 : List Int) (x1480 : Int) := (link_block (fin2 := (Sum.elim (fun (t : Unit) => (Exit.normal, ⟨mkE 34 0 [], []⟩)) (fun (t : Bool) => (Exit.ret, ⟨mkE 34 0 [(2, dB t)], []⟩)))) (id := 0) (impl_TreeOk_n4_l x1426 x1480) (Sum.elim (fun (t : Bool) => (Sum.inr t)) (fun (t : Unit) => (Sum.inl ()))) (by
  rintro (t | t) K h
  · exact Eq.mp (by kernel_rfl) h
  · exact Eq.mp (by kernel_rfl) h))

def impl_TreeOk_n6_l (x1426 : List Int) := (link_seq (impl_TreeOk_n2_l x1426) (fun (t : Int) => (impl_TreeOk_n5_l x1426 t)))

theorem impl_TreeOk_n7_l : Link impl_TreeOk_ctx LL (cq [1,1,1] (bodyOf Try.f16)) (aq [1,1,1] impl_TreeOk_an) ⟨mkE 34 0 [], []⟩ (impl_TreeOk_n7) (fun (t : Bool) => (Exit.ret, ⟨mkE 34 0 [(2, dB t)], []⟩)) := .of fun K h => by
  simp only [impl_TreeOk_n7, wpW] at h
  exact .of (by kernel_rfl) h

def impl_TreeOk_n8_l (x1426 : List Int) := (link_seq2 (impl_TreeOk_n6_l x1426) (fun (t : Unit) => (impl_TreeOk_n7_l)) (fun (t : Bool) => t) (by
  rintro t
  · kernel_rfl) (by
  rintro t f K h
  · exact h))

def impl_TreeOk_n9_l (x1426 : List Int) := (link_group (c := (cq [0,1] (bodyOf Try.f16))) (a := (aq [0,1] impl_TreeOk_an)) [(cq [0] (bodyOf Try.f16))] [(aq [0] impl_TreeOk_an)] rfl (link_seq2 (impl_TreeOk_n1_l x1426) (fun (t : Unit) => (impl_TreeOk_n8_l x1426)) (fun (t : Bool) => t) (by
  rintro t
  · kernel_rfl) (by
  rintro t f K h
  · exact h)))

theorem impl_TreeOk_e (x1426 : List Int) {r : AV} {H' : Heap} (h : (Ans.mk _ (impl_TreeOk x1426) (fun (t : Bool) => (dB t, [])) [] none).run = some (r, H')) : Awp impl_TreeOk_ctx LL (bodyOf Try.f16) impl_TreeOk_an ⟨mkE 34 0 [(0, dL x1426)], []⟩ (Ret (tlook tys) Try.f16.results.toList r H') :=
  ret_of' (Link.cast (by kernel_rfl) (by kernel_rfl) (impl_TreeOk_n9_l x1426)) (by unfold impl_TreeOk; kernel_rfl) (by
  intro t
  exact ret_mk [dB t] (by kernel_rfl) (by kernel_rfl) (by kernel_rfl) (by kernel_rfl)) h

def F_impl_TreeOk : Fun := fun avs H =>
  match avs, H with
  | [.dat (.list (.int .i64)) x1426], [] => ⟨_, impl_TreeOk x1426, fun (t : Bool) => (dB t, []), [], none⟩
  | _, _ => Ans.no

theorem impl_TreeOk_sound : Sound Try.prog 16 F_impl_TreeOk := by
  refine fn_sound' (C := impl_TreeOk_ctx) (c := bodyOf Try.f16) (cok_of tys_ok (allc impl_oneRoot_sound (allc impl_stepsToRoot_sound alln)) (allc Try.call43 (allc Try.call44 alln)) (by kernel_rfl)) Try.func16 (by kernel_rfl) LL impl_TreeOk_an ?_
  intro avs H r H' h
  unfold F_impl_TreeOk at h
  split at h
  · refine Awp.cast ?_ ?_ ?_ (impl_TreeOk_e _ h) <;> kernel_rfl
  · simp [Ans.no, Ans.run] at h


/-! loop.example/headtrees/impl.arcBetween -/

def impl_arcBetween_an : Ann := (.seq (.leaf [0, 1, 4]) (.seq (.seq (.leaf [0, 1, 4, 16]) (.cond (.seq (.leaf [4, 5]) (.leaf [4, 5])) (.leaf [0, 1, 4]))) (.seq (.leaf [4, 5]) (.leaf [4, 5]))))

noncomputable def impl_arcBetween_ctx : Ctx := ⟨tlook tys, olook [], ioF, 0, false, []⟩

theorem impl_arcBetween_n1_l (x1580 : Int) (x1581 : Int) : Link impl_arcBetween_ctx LL (bodyOf Try.f59) impl_arcBetween_an ⟨mkE 25 0 [(0, dI x1580), (1, dI x1581)], []⟩ (impl_arcBetween_n1 x1580 x1581) (fun (t : Bool × Int × Int) => (Exit.ret, ⟨mkE 25 0 [(4, .ptr 0 0), (5, dB t.1)], [some (.box [dI t.2.1, dI t.2.2])]⟩)) := .of fun K h => by
  simp only [impl_arcBetween_n1, wpW] at h
  exact .of (by kernel_rfl) h

theorem impl_arcBetween_e (x1580 : Int) (x1581 : Int) {r : AV} {H' : Heap} (h : (Ans.mk _ (impl_arcBetween x1580 x1581) (fun (t : Bool × Int × Int) => (.tup [.agg [dI t.2.1, dI t.2.2], dB t.1], [some (.box [dI t.2.1, dI t.2.2])])) [] none).run = some (r, H')) : Awp impl_arcBetween_ctx LL (bodyOf Try.f59) impl_arcBetween_an ⟨mkE 25 0 [(0, dI x1580), (1, dI x1581)], []⟩ (Ret (tlook tys) Try.f59.results.toList r H') :=
  ret_of' (impl_arcBetween_n1_l x1580 x1581) (by unfold impl_arcBetween; kernel_rfl) (by
  intro t
  exact ret_mk [.agg [dI t.2.1, dI t.2.2], dB t.1] (by kernel_rfl) (by kernel_rfl) (by kernel_rfl) (by kernel_rfl)) h

def F_impl_arcBetween : Fun := fun avs H =>
  match avs, H with
  | [.dat (.int .i64) x1580, .dat (.int .i64) x1581], [] => ⟨_, impl_arcBetween x1580 x1581, fun (t : Bool × Int × Int) => (.tup [.agg [dI t.2.1, dI t.2.2], dB t.1], [some (.box [dI t.2.1, dI t.2.2])]), [], none⟩
  | _, _ => Ans.no

theorem impl_arcBetween_sound : Sound Try.prog 59 F_impl_arcBetween := by
  refine fn_sound' (C := impl_arcBetween_ctx) (c := bodyOf Try.f59) (cok_of tys_ok (alln) (alln) (by kernel_rfl)) Try.func59 (by kernel_rfl) LL impl_arcBetween_an ?_
  intro avs H r H' h
  unfold F_impl_arcBetween at h
  split at h
  · refine Awp.cast ?_ ?_ ?_ (impl_arcBetween_e _ _ h) <;> kernel_rfl
  · simp [Ans.no, Ans.run] at h


/-! loop.example/headtrees/impl.arcsOf -/

def impl_arcsOf_an : Ann := (.seq (.leaf [0]) (.seq (.leaf [0, 3]) (.seq (.seq (.leaf [3, 11, 12, 13]) (.block (.loop (.seq (.leaf [3, 11, 12, 13, 14]) (.seq (.cond (.leaf [3, 11, 12, 13]) (.leaf [3])) (.seq (.block (.seq (.leaf [3, 4, 5, 11, 12, 13]) (.seq (.leaf [3, 6, 7, 11, 12, 13]) (.seq (.leaf [3, 6, 11, 12, 13, 25]) (.cond (.leaf [3, 11, 12, 13]) (.leaf [3, 11, 12, 13])))))) (.leaf [3, 11, 12, 13]))))))) (.seq (.leaf [2]) (.leaf [2])))))

noncomputable def impl_arcsOf_ctx : Ctx := ⟨tlook tys, olook [(59, F_impl_arcBetween)], ioF, 0, false, []⟩

theorem impl_arcsOf_n1_l (x1569 : List Int) : Link impl_arcsOf_ctx LL (Code.seq (cq [0] (bodyOf Try.f40)) (cq [0,1] (bodyOf Try.f40))) (Ann.seq (aq [0] impl_arcsOf_an) (aq [0,1] impl_arcsOf_an)) ⟨mkE 32 0 [(0, dL x1569)], []⟩ (impl_arcsOf_n1 x1569) (fun (t : (List (Int × Int × Unit))) => (Exit.normal, ⟨mkE 32 0 [(0, dL x1569), (3, .slc 0)], [some (.seq (.pair (.int .i64) (.pair (.int .i64) .unit)) t)]⟩)) := .of fun K h => by
  simp only [impl_arcsOf_n1, wpW] at h
  exact .of (by kernel_rfl) h

theorem impl_arcsOf_n2_l (x1569 : List Int) (x1573 : List (Int × Int × Unit)) : Link impl_arcsOf_ctx LL (cq [0,0,1,1] (bodyOf Try.f40)) (aq [0,0,1,1] impl_arcsOf_an) ⟨mkE 32 0 [(0, dL x1569), (3, .slc 0)], [some (.seq (.pair (.int .i64) (.pair (.int .i64) .unit)) x1573)]⟩ (impl_arcsOf_n2 x1569) (fun (t : Int) => (Exit.normal, ⟨mkE 32 0 [(3, .slc 0), (11, dL x1569), (12, dI t), (13, dI 0)], [some (.seq (.pair (.int .i64) (.pair (.int .i64) .unit)) x1573)]⟩)) := .of fun K h => by
  simp only [impl_arcsOf_n2, wpW] at h
  exact .of (by kernel_rfl) h

theorem impl_arcsOf_n3_l (x1569 : List Int) (x1574 : Int) (x1626 : Int) (x1627 : List (Int × Int × Unit)) : Link impl_arcsOf_ctx LL (cq [0,0,1,0,1,1] (bodyOf Try.f40)) (aq [0,0,1,0,1,1] impl_arcsOf_an) ⟨mkE 32 0 [(3, .slc 0), (11, dL x1569), (12, dI x1574), (13, dI x1626)], [some (.seq (.pair (.int .i64) (.pair (.int .i64) .unit)) x1627)]⟩ (impl_arcsOf_n3 x1569 x1574 x1626 x1627) (Sum.elim (fun (t : Int × (List (Int × Int × Unit))) => (Exit.normal, ⟨mkE 32 0 [(3, .slc 0), (11, dL x1569), (12, dI x1574), (13, dI t.1)], [some (.seq (.pair (.int .i64) (.pair (.int .i64) .unit)) t.2)]⟩)) (fun (t : (List (Int × Int × Unit))) => ((Exit.exit 0), ⟨mkE 32 0 [(3, .slc 0)], [some (.seq (.pair (.int .i64) (.pair (.int .i64) .unit)) t)]⟩))) := .of fun K h => by
  simp only [impl_arcsOf_n3, wpW] at h
  exact .of (by kernel_rfl) h

def impl_arcsOf_n4_l (x1569 : List Int) (x1574 : Int) (x1573 : List (Int × Int × Unit)) := (link_loop (mk := fun (s : Int × (List (Int × Int × Unit))) => ⟨mkE 32 0 [(3, .slc 0), (11, dL x1569), (12, dI x1574), (13, dI s.1)], [some (.seq (.pair (.int .i64) (.pair (.int .i64) .unit)) s.2)]⟩) (fin := (fun (t : (List (Int × Int × Unit))) => ((Exit.exit 0), ⟨mkE 32 0 [(3, .slc 0)], [some (.seq (.pair (.int .i64) (.pair (.int .i64) .unit)) t)]⟩))) (by
  rintro t f K h
  · exact h) (fun s => link_map (impl_arcsOf_n3_l x1569 x1574 s.1 s.2) (Sum.elim (fun (t : Int × (List (Int × Int × Unit))) => Sum.inl (t.1, t.2)) (fun (t : (List (Int × Int × Unit))) => Sum.inr t)) (by
  rintro (t | t)
  · kernel_rfl
  · kernel_rfl)) (0, x1573))

def impl_arcsOf_n5_l (x1569 : List Int) (x1574 : Int) (x1573 : List (Int × Int × Unit)) := (link_block (fin2 := (fun (t : (List (Int × Int × Unit))) => (Exit.normal, ⟨mkE 32 0 [(3, .slc 0)], [some (.seq (.pair (.int .i64) (.pair (.int .i64) .unit)) t)]⟩))) (id := 0) (impl_arcsOf_n4_l x1569 x1574 x1573) (fun (t : (List (Int × Int × Unit))) => t) (by
  rintro t K h
  · exact Eq.mp (by kernel_rfl) h))

def impl_arcsOf_n6_l (x1569 : List Int) (x1573 : List (Int × Int × Unit)) := (link_seq (impl_arcsOf_n2_l x1569 x1573) (fun (t : Int) => (impl_arcsOf_n5_l x1569 t x1573)))

theorem impl_arcsOf_n7_l (x1627 : List (Int × Int × Unit)) : Link impl_arcsOf_ctx LL (cq [1,1,1] (bodyOf Try.f40)) (aq [1,1,1] impl_arcsOf_an) ⟨mkE 32 0 [(3, .slc 0)], [some (.seq (.pair (.int .i64) (.pair (.int .i64) .unit)) x1627)]⟩ (impl_arcsOf_n7 x1627) (fun (t : (List (Int × Int × Unit))) => (Exit.ret, ⟨mkE 32 0 [(2, .slc 0)], [some (.seq (.pair (.int .i64) (.pair (.int .i64) .unit)) t)]⟩)) := .of fun K h => by
  simp only [impl_arcsOf_n7, wpW] at h
  exact .of (by kernel_rfl) h

def impl_arcsOf_n8_l (x1569 : List Int) (x1573 : List (Int × Int × Unit)) := (link_seq (impl_arcsOf_n6_l x1569 x1573) (fun (t : (List (Int × Int × Unit))) => (impl_arcsOf_n7_l t)))

def impl_arcsOf_n9_l (x1569 : List Int) := (link_group (c := (cq [0,1] (bodyOf Try.f40))) (a := (aq [0,1] impl_arcsOf_an)) [(cq [0] (bodyOf Try.f40))] [(aq [0] impl_arcsOf_an)] rfl (link_seq (impl_arcsOf_n1_l x1569) (fun (t : (List (Int × Int × Unit))) => (impl_arcsOf_n8_l x1569 t))))

theorem impl_arcsOf_e (x1569 : List Int) {r : AV} {H' : Heap} (h : (Ans.mk _ (impl_arcsOf x1569) (fun (t : (List (Int × Int × Unit))) => (.slc 0, [some (.seq (.pair (.int .i64) (.pair (.int .i64) .unit)) t)])) [] none).run = some (r, H')) : Awp impl_arcsOf_ctx LL (bodyOf Try.f40) impl_arcsOf_an ⟨mkE 32 0 [(0, dL x1569)], []⟩ (Ret (tlook tys) Try.f40.results.toList r H') :=
  ret_of' (Link.cast (by kernel_rfl) (by kernel_rfl) (impl_arcsOf_n9_l x1569)) (by unfold impl_arcsOf; kernel_rfl) (by
  intro t
  exact ret_mk [.slc 0] (by kernel_rfl) (by kernel_rfl) (by kernel_rfl) (by kernel_rfl)) h

def F_impl_arcsOf : Fun := fun avs H =>
  match avs, H with
  | [.dat (.list (.int .i64)) x1569], [] => ⟨_, impl_arcsOf x1569, fun (t : (List (Int × Int × Unit))) => (.slc 0, [some (.seq (.pair (.int .i64) (.pair (.int .i64) .unit)) t)]), [], none⟩
  | _, _ => Ans.no

theorem impl_arcsOf_sound : Sound Try.prog 40 F_impl_arcsOf := by
  refine fn_sound' (C := impl_arcsOf_ctx) (c := bodyOf Try.f40) (cok_of tys_ok (allc impl_arcBetween_sound alln) (allc Try.call59 alln) (by kernel_rfl)) Try.func40 (by kernel_rfl) LL impl_arcsOf_an ?_
  intro avs H r H' h
  unfold F_impl_arcsOf at h
  split at h
  · refine Awp.cast ?_ ?_ ?_ (impl_arcsOf_e _ h) <;> kernel_rfl
  · simp [Ans.no, Ans.run] at h


/-! loop.example/headtrees/laws.sameInts -/

def laws_sameInts_an : Ann := (.seq (.leaf [0, 1]) (.seq (.seq (.leaf [0, 1, 10]) (.cond (.seq (.leaf [4]) (.leaf [4])) (.leaf [0, 1]))) (.seq (.seq (.leaf [0, 1, 5]) (.block (.loop (.seq (.seq (.leaf [0, 1, 5, 14]) (.cond (.leaf [0, 1, 5]) (.leaf []))) (.seq (.block (.seq (.draw [] [0, 1, 2, 3, 4, 5, 6, 7, 8] [] [0, 1, 5, 25]) (.cond (.seq (.leaf [4]) (.leaf [4])) (.leaf [0, 1, 5])))) (.leaf [0, 1, 5])))))) (.seq (.leaf [4]) (.leaf [4])))))

noncomputable def laws_sameInts_ctx : Ctx := ⟨tlook tys, olook [], ioF, 0, false, []⟩

theorem laws_sameInts_n1_l (x1985 : List Int) (x1986 : List Int) : Link laws_sameInts_ctx LL (Code.seq (cq [0] (bodyOf Try.f14)) (cq [0,1] (bodyOf Try.f14))) (Ann.seq (aq [0] laws_sameInts_an) (aq [0,1] laws_sameInts_an)) ⟨mkE 26 0 [(0, dL x1985), (1, dL x1986)], []⟩ (laws_sameInts_n1 x1985 x1986) (Sum.elim (fun (t : Unit) => (Exit.normal, ⟨mkE 26 0 [(0, dL x1985), (1, dL x1986)], []⟩)) (fun (t : Bool) => (Exit.ret, ⟨mkE 26 0 [(4, dB t)], []⟩))) := .of fun K h => by
  simp only [laws_sameInts_n1, wpW] at h
  exact .of (by kernel_rfl) h

theorem laws_sameInts_n2_l (x1985 : List Int) (x1986 : List Int) : Link laws_sameInts_ctx LL (cq [0,0,1,1] (bodyOf Try.f14)) (aq [0,0,1,1] laws_sameInts_an) ⟨mkE 26 0 [(0, dL x1985), (1, dL x1986)], []⟩ (laws_sameInts_n2) (fun (t : Unit) => (Exit.normal, ⟨mkE 26 0 [(0, dL x1985), (1, dL x1986), (5, dI 0)], []⟩)) := .of fun K h => by
  simp only [laws_sameInts_n2, wpW] at h
  exact .of (by kernel_rfl) h

theorem laws_sameInts_n3_l (x1985 : List Int) (x1986 : List Int) (x2003 : Int) : Link laws_sameInts_ctx LL (cq [0,0,1,0,1,1] (bodyOf Try.f14)) (aq [0,0,1,0,1,1] laws_sameInts_an) ⟨mkE 26 0 [(0, dL x1985), (1, dL x1986), (5, dI x2003)], []⟩ (laws_sameInts_n3 x1985 x1986 x2003) (Sum.elim (fun (t : Int) => (Exit.normal, ⟨mkE 26 0 [(0, dL x1985), (1, dL x1986), (5, dI t)], []⟩)) (Sum.elim (fun (t : Bool) => (Exit.ret, ⟨mkE 26 0 [(4, dB t)], []⟩)) (fun (t : Unit) => ((Exit.exit 0), ⟨mkE 26 0 [], []⟩)))) := .of fun K h => by
  simp only [laws_sameInts_n3, wpW] at h
  exact .of (by kernel_rfl) h

def laws_sameInts_n4_l (x1985 : List Int) (x1986 : List Int) := (link_loop (mk := fun (s : Int) => ⟨mkE 26 0 [(0, dL x1985), (1, dL x1986), (5, dI s)], []⟩) (fin := (Sum.elim (fun (t : Bool) => (Exit.ret, ⟨mkE 26 0 [(4, dB t)], []⟩)) (fun (t : Unit) => ((Exit.exit 0), ⟨mkE 26 0 [], []⟩)))) (by
  rintro (t | t) f K h
  · exact h
  · exact h) (fun s => link_map (laws_sameInts_n3_l x1985 x1986 s) (Sum.elim (fun (t : Int) => Sum.inl t) (Sum.elim (fun (t : Bool) => Sum.inr (Sum.inl t)) (fun (t : Unit) => Sum.inr (Sum.inr t)))) (by
  rintro (t | t | t)
  · kernel_rfl
  · kernel_rfl
  · kernel_rfl)) 0)

def laws_sameInts_n5_l (x1985 : List Int) (x1986 : List Int) := (link_block (fin2 := (Sum.elim (fun (t : Unit) => (Exit.normal, ⟨mkE 26 0 [], []⟩)) (fun (t : Bool) => (Exit.ret, ⟨mkE 26 0 [(4, dB t)], []⟩)))) (id := 0) (laws_sameInts_n4_l x1985 x1986) (Sum.elim (fun (t : Bool) => (Sum.inr t)) (fun (t : Unit) => (Sum.inl ()))) (by
  rintro (t | t) K h
  · exact Eq.mp (by kernel_rfl) h
  · exact Eq.mp (by kernel_rfl) h))

def laws_sameInts_n6_l (x1985 : List Int) (x1986 : List Int) := (link_seq (laws_sameInts_n2_l x1985 x1986) (fun (t : Unit) => (laws_sameInts_n5_l x1985 x1986)))

theorem laws_sameInts_n7_l : Link laws_sameInts_ctx LL (cq [1,1,1] (bodyOf Try.f14)) (aq [1,1,1] laws_sameInts_an) ⟨mkE 26 0 [], []⟩ (laws_sameInts_n7) (fun (t : Bool) => (Exit.ret, ⟨mkE 26 0 [(4, dB t)], []⟩)) := .of fun K h => by
  simp only [laws_sameInts_n7, wpW] at h
  exact .of (by kernel_rfl) h

def laws_sameInts_n8_l (x1985 : List Int) (x1986 : List Int) := (link_seq2 (laws_sameInts_n6_l x1985 x1986) (fun (t : Unit) => (laws_sameInts_n7_l)) (fun (t : Bool) => t) (by
  rintro t
  · kernel_rfl) (by
  rintro t f K h
  · exact h))

def laws_sameInts_n9_l (x1985 : List Int) (x1986 : List Int) := (link_group (c := (cq [0,1] (bodyOf Try.f14))) (a := (aq [0,1] laws_sameInts_an)) [(cq [0] (bodyOf Try.f14))] [(aq [0] laws_sameInts_an)] rfl (link_seq2 (laws_sameInts_n1_l x1985 x1986) (fun (t : Unit) => (laws_sameInts_n8_l x1985 x1986)) (fun (t : Bool) => t) (by
  rintro t
  · kernel_rfl) (by
  rintro t f K h
  · exact h)))

theorem laws_sameInts_e (x1985 : List Int) (x1986 : List Int) {r : AV} {H' : Heap} (h : (Ans.mk _ (laws_sameInts x1985 x1986) (fun (t : Bool) => (dB t, [])) [] none).run = some (r, H')) : Awp laws_sameInts_ctx LL (bodyOf Try.f14) laws_sameInts_an ⟨mkE 26 0 [(0, dL x1985), (1, dL x1986)], []⟩ (Ret (tlook tys) Try.f14.results.toList r H') :=
  ret_of' (Link.cast (by kernel_rfl) (by kernel_rfl) (laws_sameInts_n9_l x1985 x1986)) (by unfold laws_sameInts; kernel_rfl) (by
  intro t
  exact ret_mk [dB t] (by kernel_rfl) (by kernel_rfl) (by kernel_rfl) (by kernel_rfl)) h

def F_laws_sameInts : Fun := fun avs H =>
  match avs, H with
  | [.dat (.list (.int .i64)) x1985, .dat (.list (.int .i64)) x1986], [] => ⟨_, laws_sameInts x1985 x1986, fun (t : Bool) => (dB t, []), [], none⟩
  | _, _ => Ans.no

theorem laws_sameInts_sound : Sound Try.prog 14 F_laws_sameInts := by
  refine fn_sound' (C := laws_sameInts_ctx) (c := bodyOf Try.f14) (cok_of tys_ok (alln) (alln) (by kernel_rfl)) Try.func14 (by kernel_rfl) LL laws_sameInts_an ?_
  intro avs H r H' h
  unfold F_laws_sameInts at h
  split at h
  · refine Awp.cast ?_ ?_ ?_ (laws_sameInts_e _ _ h) <;> kernel_rfl
  · simp [Ans.no, Ans.run] at h


/-! loop.example/headtrees/laws.alive -/

def laws_alive_an : Ann := (.seq (.leaf []) (.seq (.leaf [0]) (.leaf [0])))

noncomputable def laws_alive_ctx : Ctx := ⟨tlook tys, olook [(16, F_impl_TreeOk)], ioF, 0, false, []⟩

theorem laws_alive_n1_l : Link laws_alive_ctx LL (bodyOf Try.f17) laws_alive_an ⟨mkE 8 0 [], []⟩ (laws_alive_n1) (fun (t : Bool) => (Exit.ret, ⟨mkE 8 0 [(0, dB t)], []⟩)) := .of fun K h => by
  simp only [laws_alive_n1, wpW] at h
  exact .of (by kernel_rfl) h

theorem laws_alive_e {r : AV} {H' : Heap} (h : (Ans.mk _ (laws_alive) (fun (t : Bool) => (dB t, [])) [] none).run = some (r, H')) : Awp laws_alive_ctx LL (bodyOf Try.f17) laws_alive_an ⟨mkE 8 0 [], []⟩ (Ret (tlook tys) Try.f17.results.toList r H') :=
  ret_of' (laws_alive_n1_l) (by unfold laws_alive; kernel_rfl) (by
  intro t
  exact ret_mk [dB t] (by kernel_rfl) (by kernel_rfl) (by kernel_rfl) (by kernel_rfl)) h

def F_laws_alive : Fun := fun avs H =>
  match avs, H with
  | [], [] => ⟨_, laws_alive, fun (t : Bool) => (dB t, []), [], none⟩
  | _, _ => Ans.no

theorem laws_alive_sound : Sound Try.prog 17 F_laws_alive := by
  refine fn_sound' (C := laws_alive_ctx) (c := bodyOf Try.f17) (cok_of tys_ok (allc impl_TreeOk_sound alln) (allc Try.call16 alln) (by kernel_rfl)) Try.func17 (by kernel_rfl) LL laws_alive_an ?_
  intro avs H r H' h
  unfold F_laws_alive at h
  split at h
  · refine Awp.cast ?_ ?_ ?_ (laws_alive_e h) <;> kernel_rfl
  · simp [Ans.no, Ans.run] at h


/-! (loop.example/headtrees/impl.arc).covers -/

def impl_arc_covers_an : Ann := (.seq (.leaf [1, 2]) (.seq (.leaf [4]) (.leaf [4])))

noncomputable def impl_arc_covers_ctx : Ctx := ⟨tlook tys, olook [], ioF, 0, false, []⟩

theorem impl_arc_covers_n1_l (x2663 : Int) (x2664 : Int) (x2665 : Int) : Link impl_arc_covers_ctx LL (bodyOf Try.f67) impl_arc_covers_an ⟨mkE 15 0 [(0, .agg [dI x2663, dI x2664]), (1, dI x2665)], []⟩ (impl_arc_covers_n1 x2663 x2664 x2665) (fun (t : Bool) => (Exit.ret, ⟨mkE 15 0 [(4, dB t)], []⟩)) := .of fun K h => by
  simp only [impl_arc_covers_n1, wpW] at h
  exact .of (by kernel_rfl) h

theorem impl_arc_covers_e (x2663 : Int) (x2664 : Int) (x2665 : Int) {r : AV} {H' : Heap} (h : (Ans.mk _ (impl_arc_covers x2663 x2664 x2665) (fun (t : Bool) => (dB t, [])) [] none).run = some (r, H')) : Awp impl_arc_covers_ctx LL (bodyOf Try.f67) impl_arc_covers_an ⟨mkE 15 0 [(0, .agg [dI x2663, dI x2664]), (1, dI x2665)], []⟩ (Ret (tlook tys) Try.f67.results.toList r H') :=
  ret_of' (impl_arc_covers_n1_l x2663 x2664 x2665) (by unfold impl_arc_covers; kernel_rfl) (by
  intro t
  exact ret_mk [dB t] (by kernel_rfl) (by kernel_rfl) (by kernel_rfl) (by kernel_rfl)) h

def F_impl_arc_covers : Fun := fun avs H =>
  match avs, H with
  | [.agg [.dat (.int .i64) x2663, .dat (.int .i64) x2664], .dat (.int .i64) x2665], [] => ⟨_, impl_arc_covers x2663 x2664 x2665, fun (t : Bool) => (dB t, []), [], none⟩
  | _, _ => Ans.no

theorem impl_arc_covers_sound : Sound Try.prog 67 F_impl_arc_covers := by
  refine fn_sound' (C := impl_arc_covers_ctx) (c := bodyOf Try.f67) (cok_of tys_ok (alln) (alln) (by kernel_rfl)) Try.func67 (by kernel_rfl) LL impl_arc_covers_an ?_
  intro avs H r H' h
  unfold F_impl_arc_covers at h
  split at h
  · refine Awp.cast ?_ ?_ ?_ (impl_arc_covers_e _ _ _ h) <;> kernel_rfl
  · simp [Ans.no, Ans.run] at h


/-! (loop.example/headtrees/impl.arc).leavesOut -/

def impl_arc_leavesOut_an : Ann := (.seq (.leaf [1, 2]) (.seq (.leaf [4]) (.leaf [4])))

noncomputable def impl_arc_leavesOut_ctx : Ctx := ⟨tlook tys, olook [], ioF, 0, false, []⟩

theorem impl_arc_leavesOut_n1_l (x2672 : Int) (x2673 : Int) (x2674 : Int) : Link impl_arc_leavesOut_ctx LL (bodyOf Try.f68) impl_arc_leavesOut_an ⟨mkE 15 0 [(0, .agg [dI x2672, dI x2673]), (1, dI x2674)], []⟩ (impl_arc_leavesOut_n1 x2672 x2673 x2674) (fun (t : Bool) => (Exit.ret, ⟨mkE 15 0 [(4, dB t)], []⟩)) := .of fun K h => by
  simp only [impl_arc_leavesOut_n1, wpW] at h
  exact .of (by kernel_rfl) h

theorem impl_arc_leavesOut_e (x2672 : Int) (x2673 : Int) (x2674 : Int) {r : AV} {H' : Heap} (h : (Ans.mk _ (impl_arc_leavesOut x2672 x2673 x2674) (fun (t : Bool) => (dB t, [])) [] none).run = some (r, H')) : Awp impl_arc_leavesOut_ctx LL (bodyOf Try.f68) impl_arc_leavesOut_an ⟨mkE 15 0 [(0, .agg [dI x2672, dI x2673]), (1, dI x2674)], []⟩ (Ret (tlook tys) Try.f68.results.toList r H') :=
  ret_of' (impl_arc_leavesOut_n1_l x2672 x2673 x2674) (by unfold impl_arc_leavesOut; kernel_rfl) (by
  intro t
  exact ret_mk [dB t] (by kernel_rfl) (by kernel_rfl) (by kernel_rfl) (by kernel_rfl)) h

def F_impl_arc_leavesOut : Fun := fun avs H =>
  match avs, H with
  | [.agg [.dat (.int .i64) x2672, .dat (.int .i64) x2673], .dat (.int .i64) x2674], [] => ⟨_, impl_arc_leavesOut x2672 x2673 x2674, fun (t : Bool) => (dB t, []), [], none⟩
  | _, _ => Ans.no

theorem impl_arc_leavesOut_sound : Sound Try.prog 68 F_impl_arc_leavesOut := by
  refine fn_sound' (C := impl_arc_leavesOut_ctx) (c := bodyOf Try.f68) (cok_of tys_ok (alln) (alln) (by kernel_rfl)) Try.func68 (by kernel_rfl) LL impl_arc_leavesOut_an ?_
  intro avs H r H' h
  unfold F_impl_arc_leavesOut at h
  split at h
  · refine Awp.cast ?_ ?_ ?_ (impl_arc_leavesOut_e _ _ _ h) <;> kernel_rfl
  · simp [Ans.no, Ans.run] at h


/-! (loop.example/headtrees/impl.arc).crosses -/

def impl_arc_crosses_an : Ann := (.seq (.leaf [2, 3]) (.seq (.leaf [4]) (.leaf [4])))

noncomputable def impl_arc_crosses_ctx : Ctx := ⟨tlook tys, olook [(67, F_impl_arc_covers), (68, F_impl_arc_leavesOut)], ioF, 0, false, []⟩

theorem impl_arc_crosses_n1_l (x2659 : Int) (x2660 : Int) (x2661 : Int) (x2662 : Int) : Link impl_arc_crosses_ctx LL (bodyOf Try.f48) impl_arc_crosses_an ⟨mkE 27 0 [(0, .agg [dI x2659, dI x2660]), (1, .agg [dI x2661, dI x2662])], []⟩ (impl_arc_crosses_n1 x2659 x2660 x2661 x2662) (fun (t : Bool) => (Exit.ret, ⟨mkE 27 0 [(4, dB t)], []⟩)) := .of fun K h => by
  simp only [impl_arc_crosses_n1, wpW] at h
  exact .of (by kernel_rfl) h

theorem impl_arc_crosses_e (x2659 : Int) (x2660 : Int) (x2661 : Int) (x2662 : Int) {r : AV} {H' : Heap} (h : (Ans.mk _ (impl_arc_crosses x2659 x2660 x2661 x2662) (fun (t : Bool) => (dB t, [])) [] none).run = some (r, H')) : Awp impl_arc_crosses_ctx LL (bodyOf Try.f48) impl_arc_crosses_an ⟨mkE 27 0 [(0, .agg [dI x2659, dI x2660]), (1, .agg [dI x2661, dI x2662])], []⟩ (Ret (tlook tys) Try.f48.results.toList r H') :=
  ret_of' (impl_arc_crosses_n1_l x2659 x2660 x2661 x2662) (by unfold impl_arc_crosses; kernel_rfl) (by
  intro t
  exact ret_mk [dB t] (by kernel_rfl) (by kernel_rfl) (by kernel_rfl) (by kernel_rfl)) h

def F_impl_arc_crosses : Fun := fun avs H =>
  match avs, H with
  | [.agg [.dat (.int .i64) x2659, .dat (.int .i64) x2660], .agg [.dat (.int .i64) x2661, .dat (.int .i64) x2662]], [] => ⟨_, impl_arc_crosses x2659 x2660 x2661 x2662, fun (t : Bool) => (dB t, []), [], none⟩
  | _, _ => Ans.no

theorem impl_arc_crosses_sound : Sound Try.prog 48 F_impl_arc_crosses := by
  refine fn_sound' (C := impl_arc_crosses_ctx) (c := bodyOf Try.f48) (cok_of tys_ok (allc impl_arc_covers_sound (allc impl_arc_leavesOut_sound alln)) (allc Try.call67 (allc Try.call68 alln)) (by kernel_rfl)) Try.func48 (by kernel_rfl) LL impl_arc_crosses_an ?_
  intro avs H r H' h
  unfold F_impl_arc_crosses at h
  split at h
  · refine Awp.cast ?_ ?_ ?_ (impl_arc_crosses_e _ _ _ _ h) <;> kernel_rfl
  · simp [Ans.no, Ans.run] at h


/-! loop.example/headtrees/impl.countPairs[loop.example/headtrees/impl.arc] -/

def impl_countPairs_impl_arc_an : Ann := (.seq (.leaf [0, 1]) (.seq (.leaf [0, 1, 5]) (.seq (.seq (.leaf [0, 1, 5, 10, 11, 12]) (.block (.loop (.seq (.leaf [0, 1, 5, 10, 11, 12, 13]) (.seq (.cond (.leaf [0, 1, 5, 10, 11, 12]) (.leaf [5])) (.seq (.block (.seq (.leaf [0, 1, 5, 6, 7, 10, 11, 12]) (.seq (.leaf [0, 1, 5, 7, 10, 11, 12, 20, 21, 22]) (.block (.loop (.seq (.leaf [0, 1, 5, 7, 10, 11, 12, 20, 21, 22, 23]) (.seq (.cond (.leaf [0, 1, 5, 7, 10, 11, 12, 20, 21, 22]) (.leaf [0, 1, 5, 10, 11, 12])) (.seq (.block (.seq (.leaf [0, 1, 5, 7, 9, 10, 11, 12, 20, 21, 22]) (.seq (.leaf [0, 1, 5, 7, 10, 11, 12, 20, 21, 22, 29]) (.cond (.leaf [0, 1, 5, 7, 10, 11, 12, 20, 21, 22]) (.leaf [0, 1, 5, 7, 10, 11, 12, 20, 21, 22]))))) (.leaf [0, 1, 5, 7, 10, 11, 12, 20, 21, 22]))))))))) (.leaf [0, 1, 5, 10, 11, 12]))))))) (.seq (.leaf [4]) (.leaf [4])))))

noncomputable def impl_countPairs_impl_arc_ctx : Ctx := ⟨tlook tys, olook [(48, F_impl_arc_crosses)], ioF, 0, false, []⟩

theorem impl_countPairs_impl_arc_n1_l (x2632 : List (Int × Int × Unit)) : Link impl_countPairs_impl_arc_ctx LL (Code.seq (cq [0] (bodyOf Try.f47)) (cq [0,1] (bodyOf Try.f47))) (Ann.seq (aq [0] impl_countPairs_impl_arc_an) (aq [0,1] impl_countPairs_impl_arc_an)) ⟨mkE 35 0 [(0, .dat (.list (.pair (.int .i64) (.pair (.int .i64) .unit))) x2632), (1, .fn 48 [] [])], []⟩ (impl_countPairs_impl_arc_n1) (fun (t : Unit) => (Exit.normal, ⟨mkE 35 0 [(0, .dat (.list (.pair (.int .i64) (.pair (.int .i64) .unit))) x2632), (1, .fn 48 [] []), (5, dI 0)], []⟩)) := .of fun K h => by
  simp only [impl_countPairs_impl_arc_n1, wpW] at h
  exact .of (by kernel_rfl) h

theorem impl_countPairs_impl_arc_n2_l (x2632 : List (Int × Int × Unit)) : Link impl_countPairs_impl_arc_ctx LL (cq [0,0,1,1] (bodyOf Try.f47)) (aq [0,0,1,1] impl_countPairs_impl_arc_an) ⟨mkE 35 0 [(0, .dat (.list (.pair (.int .i64) (.pair (.int .i64) .unit))) x2632), (1, .fn 48 [] []), (5, dI 0)], []⟩ (impl_countPairs_impl_arc_n2 x2632) (fun (t : Int) => (Exit.normal, ⟨mkE 35 0 [(0, .dat (.list (.pair (.int .i64) (.pair (.int .i64) .unit))) x2632), (1, .fn 48 [] []), (5, dI 0), (10, .dat (.list (.pair (.int .i64) (.pair (.int .i64) .unit))) x2632), (11, dI t), (12, dI 0)], []⟩)) := .of fun K h => by
  simp only [impl_countPairs_impl_arc_n2, wpW] at h
  exact .of (by kernel_rfl) h

theorem impl_countPairs_impl_arc_n3_l (x2632 : List (Int × Int × Unit)) (x2731 : Int) (x2633 : Int) (x2732 : Int) : Link impl_countPairs_impl_arc_ctx LL (Code.seq (cq [0,0,0,1,0,1,1] (bodyOf Try.f47)) (cq [0,1,0,0,1,0,1,1] (bodyOf Try.f47))) (Ann.seq (aq [0,0,0,1,0,1,1] impl_countPairs_impl_arc_an) (aq [0,1,0,0,1,0,1,1] impl_countPairs_impl_arc_an)) ⟨mkE 35 0 [(0, .dat (.list (.pair (.int .i64) (.pair (.int .i64) .unit))) x2632), (1, .fn 48 [] []), (5, dI x2731), (10, .dat (.list (.pair (.int .i64) (.pair (.int .i64) .unit))) x2632), (11, dI x2633), (12, dI x2732)], []⟩ (impl_countPairs_impl_arc_n3 x2731 x2633 x2732) (Sum.elim (fun (t : Unit) => (Exit.normal, ⟨mkE 35 0 [(0, .dat (.list (.pair (.int .i64) (.pair (.int .i64) .unit))) x2632), (1, .fn 48 [] []), (5, dI x2731), (10, .dat (.list (.pair (.int .i64) (.pair (.int .i64) .unit))) x2632), (11, dI x2633), (12, dI x2732)], []⟩)) (fun (t : Int) => ((Exit.exit 0), ⟨mkE 35 0 [(5, dI t)], []⟩))) := .of fun K h => by
  simp only [impl_countPairs_impl_arc_n3, wpW] at h
  exact .of (by kernel_rfl) h

theorem impl_countPairs_impl_arc_n4_l (x2632 : List (Int × Int × Unit)) (x2731 : Int) (x2633 : Int) (x2732 : Int) : Link impl_countPairs_impl_arc_ctx LL (Code.seq (cq [0,0,0,1,1,0,0,1,0,1,1] (bodyOf Try.f47)) (cq [0,1,0,0,1,1,0,0,1,0,1,1] (bodyOf Try.f47))) (Ann.seq (aq [0,0,0,1,1,0,0,1,0,1,1] impl_countPairs_impl_arc_an) (aq [0,1,0,0,1,1,0,0,1,0,1,1] impl_countPairs_impl_arc_an)) ⟨mkE 35 0 [(0, .dat (.list (.pair (.int .i64) (.pair (.int .i64) .unit))) x2632), (1, .fn 48 [] []), (5, dI x2731), (10, .dat (.list (.pair (.int .i64) (.pair (.int .i64) .unit))) x2632), (11, dI x2633), (12, dI x2732)], []⟩ (impl_countPairs_impl_arc_n4 x2632 x2732) (fun (t : (List (Int × Int × Unit)) × Int × Int × Int) => (Exit.normal, ⟨mkE 35 0 [(0, .dat (.list (.pair (.int .i64) (.pair (.int .i64) .unit))) x2632), (1, .fn 48 [] []), (5, dI x2731), (7, .ptr 0 0), (10, .dat (.list (.pair (.int .i64) (.pair (.int .i64) .unit))) x2632), (11, dI x2633), (12, dI x2732), (20, .dat (.list (.pair (.int .i64) (.pair (.int .i64) .unit))) t.1), (21, dI t.2.1), (22, dI 0)], [some (.box [dI t.2.2.1, dI t.2.2.2])]⟩)) := .of fun K h => by
  simp only [impl_countPairs_impl_arc_n4, wpW] at h
  exact .of (by kernel_rfl) h

theorem impl_countPairs_impl_arc_n5_l (x2632 : List (Int × Int × Unit)) (x2772 : Int) (x2633 : Int) (x2732 : Int) (x2748 : List (Int × Int × Unit)) (x2749 : Int) (x2773 : Int) (x2741 : Int) (x2743 : Int) : Link impl_countPairs_impl_arc_ctx LL (cq [0,0,1,1,0,0,1,1,0,0,1,0,1,1] (bodyOf Try.f47)) (aq [0,0,1,1,0,0,1,1,0,0,1,0,1,1] impl_countPairs_impl_arc_an) ⟨mkE 35 0 [(0, .dat (.list (.pair (.int .i64) (.pair (.int .i64) .unit))) x2632), (1, .fn 48 [] []), (5, dI x2772), (7, .ptr 0 0), (10, .dat (.list (.pair (.int .i64) (.pair (.int .i64) .unit))) x2632), (11, dI x2633), (12, dI x2732), (20, .dat (.list (.pair (.int .i64) (.pair (.int .i64) .unit))) x2748), (21, dI x2749), (22, dI x2773)], [some (.box [dI x2741, dI x2743])]⟩ (impl_countPairs_impl_arc_n5 x2772 x2748 x2749 x2773 x2741 x2743) (Sum.elim (fun (t : Int × Int) => (Exit.normal, ⟨mkE 35 0 [(0, .dat (.list (.pair (.int .i64) (.pair (.int .i64) .unit))) x2632), (1, .fn 48 [] []), (5, dI t.1), (7, .ptr 0 0), (10, .dat (.list (.pair (.int .i64) (.pair (.int .i64) .unit))) x2632), (11, dI x2633), (12, dI x2732), (20, .dat (.list (.pair (.int .i64) (.pair (.int .i64) .unit))) x2748), (21, dI x2749), (22, dI t.2)], [some (.box [dI x2741, dI x2743])]⟩)) (fun (t : Int) => ((Exit.exit 2), ⟨mkE 35 0 [(0, .dat (.list (.pair (.int .i64) (.pair (.int .i64) .unit))) x2632), (1, .fn 48 [] []), (5, dI t), (10, .dat (.list (.pair (.int .i64) (.pair (.int .i64) .unit))) x2632), (11, dI x2633), (12, dI x2732)], []⟩))) := .of fun K h => by
  simp only [impl_countPairs_impl_arc_n5, wpW] at h
  exact .of (by kernel_rfl) h

def impl_countPairs_impl_arc_n6_l (x2632 : List (Int × Int × Unit)) (x2731 : Int) (x2633 : Int) (x2732 : Int) (x2748 : List (Int × Int × Unit)) (x2749 : Int) (x2741 : Int) (x2743 : Int) := (link_loop (mk := fun (s : Int × Int) => ⟨mkE 35 0 [(0, .dat (.list (.pair (.int .i64) (.pair (.int .i64) .unit))) x2632), (1, .fn 48 [] []), (5, dI s.1), (7, .ptr 0 0), (10, .dat (.list (.pair (.int .i64) (.pair (.int .i64) .unit))) x2632), (11, dI x2633), (12, dI x2732), (20, .dat (.list (.pair (.int .i64) (.pair (.int .i64) .unit))) x2748), (21, dI x2749), (22, dI s.2)], [some (.box [dI x2741, dI x2743])]⟩) (fin := (fun (t : Int) => ((Exit.exit 2), ⟨mkE 35 0 [(0, .dat (.list (.pair (.int .i64) (.pair (.int .i64) .unit))) x2632), (1, .fn 48 [] []), (5, dI t), (10, .dat (.list (.pair (.int .i64) (.pair (.int .i64) .unit))) x2632), (11, dI x2633), (12, dI x2732)], []⟩))) (by
  rintro t f K h
  · exact h) (fun s => link_map (impl_countPairs_impl_arc_n5_l x2632 s.1 x2633 x2732 x2748 x2749 s.2 x2741 x2743) (Sum.elim (fun (t : Int × Int) => Sum.inl (t.1, t.2)) (fun (t : Int) => Sum.inr t)) (by
  rintro (t | t)
  · kernel_rfl
  · kernel_rfl)) (x2731, 0))

def impl_countPairs_impl_arc_n7_l (x2632 : List (Int × Int × Unit)) (x2731 : Int) (x2633 : Int) (x2732 : Int) (x2748 : List (Int × Int × Unit)) (x2749 : Int) (x2741 : Int) (x2743 : Int) := (link_block (fin2 := (fun (t : Int) => (Exit.normal, ⟨mkE 35 0 [(0, .dat (.list (.pair (.int .i64) (.pair (.int .i64) .unit))) x2632), (1, .fn 48 [] []), (5, dI t), (10, .dat (.list (.pair (.int .i64) (.pair (.int .i64) .unit))) x2632), (11, dI x2633), (12, dI x2732)], []⟩))) (id := 2) (impl_countPairs_impl_arc_n6_l x2632 x2731 x2633 x2732 x2748 x2749 x2741 x2743) (fun (t : Int) => t) (by
  rintro t K h
  · exact Eq.mp (by kernel_rfl) h))

def impl_countPairs_impl_arc_n8_l (x2632 : List (Int × Int × Unit)) (x2731 : Int) (x2633 : Int) (x2732 : Int) := (link_group (c := (cq [0,1,0,0,1,1,0,0,1,0,1,1] (bodyOf Try.f47))) (a := (aq [0,1,0,0,1,1,0,0,1,0,1,1] impl_countPairs_impl_arc_an)) [(cq [0,0,0,1,1,0,0,1,0,1,1] (bodyOf Try.f47))] [(aq [0,0,0,1,1,0,0,1,0,1,1] impl_countPairs_impl_arc_an)] rfl (link_seq (impl_countPairs_impl_arc_n4_l x2632 x2731 x2633 x2732) (fun (t : (List (Int × Int × Unit)) × Int × Int × Int) => (impl_countPairs_impl_arc_n7_l x2632 x2731 x2633 x2732 t.1 t.2.1 t.2.2.1 t.2.2.2))))

def impl_countPairs_impl_arc_n9_l (x2632 : List (Int × Int × Unit)) (x2731 : Int) (x2633 : Int) (x2732 : Int) := (link_block (fin2 := (fun (t : Int) => (Exit.normal, ⟨mkE 35 0 [(0, .dat (.list (.pair (.int .i64) (.pair (.int .i64) .unit))) x2632), (1, .fn 48 [] []), (5, dI t), (10, .dat (.list (.pair (.int .i64) (.pair (.int .i64) .unit))) x2632), (11, dI x2633), (12, dI x2732)], []⟩))) (id := 1) (impl_countPairs_impl_arc_n8_l x2632 x2731 x2633 x2732) (fun (t : Int) => t) (by
  rintro t K h
  · exact Eq.mp (by kernel_rfl) h))

theorem impl_countPairs_impl_arc_n10_l (x2632 : List (Int × Int × Unit)) (x2772 : Int) (x2633 : Int) (x2732 : Int) : Link impl_countPairs_impl_arc_ctx LL (cq [1,1,1,0,0,1,0,1,1] (bodyOf Try.f47)) (aq [1,1,1,0,0,1,0,1,1] impl_countPairs_impl_arc_an) ⟨mkE 35 0 [(0, .dat (.list (.pair (.int .i64) (.pair (.int .i64) .unit))) x2632), (1, .fn 48 [] []), (5, dI x2772), (10, .dat (.list (.pair (.int .i64) (.pair (.int .i64) .unit))) x2632), (11, dI x2633), (12, dI x2732)], []⟩ (impl_countPairs_impl_arc_n10 x2732) (fun (t : Int) => (Exit.normal, ⟨mkE 35 0 [(0, .dat (.list (.pair (.int .i64) (.pair (.int .i64) .unit))) x2632), (1, .fn 48 [] []), (5, dI x2772), (10, .dat (.list (.pair (.int .i64) (.pair (.int .i64) .unit))) x2632), (11, dI x2633), (12, dI t)], []⟩)) := .of fun K h => by
  simp only [impl_countPairs_impl_arc_n10, wpW] at h
  exact .of (by kernel_rfl) h

def impl_countPairs_impl_arc_n11_l (x2632 : List (Int × Int × Unit)) (x2731 : Int) (x2633 : Int) (x2732 : Int) := (link_seq (impl_countPairs_impl_arc_n9_l x2632 x2731 x2633 x2732) (fun (t : Int) => (link_map (fin2 := (fun (t : Int × Int) => (Exit.normal, ⟨mkE 35 0 [(0, .dat (.list (.pair (.int .i64) (.pair (.int .i64) .unit))) x2632), (1, .fn 48 [] []), (5, dI t.1), (10, .dat (.list (.pair (.int .i64) (.pair (.int .i64) .unit))) x2632), (11, dI x2633), (12, dI t.2)], []⟩))) (impl_countPairs_impl_arc_n10_l x2632 t x2633 x2732) (fun (u : Int) => (t, u)) (by
  rintro t
  · kernel_rfl))))

def impl_countPairs_impl_arc_n12_l (x2632 : List (Int × Int × Unit)) (x2731 : Int) (x2633 : Int) (x2732 : Int) := (link_group (c := (cq [0,1,0,0,1,0,1,1] (bodyOf Try.f47))) (a := (aq [0,1,0,0,1,0,1,1] impl_countPairs_impl_arc_an)) [(cq [0,0,0,1,0,1,1] (bodyOf Try.f47))] [(aq [0,0,0,1,0,1,1] impl_countPairs_impl_arc_an)] rfl (link_seq2 (impl_countPairs_impl_arc_n3_l x2632 x2731 x2633 x2732) (fun (t : Unit) => (link_map (fin2 := (Sum.elim (fun (t : Int × Int) => (Exit.normal, ⟨mkE 35 0 [(0, .dat (.list (.pair (.int .i64) (.pair (.int .i64) .unit))) x2632), (1, .fn 48 [] []), (5, dI t.1), (10, .dat (.list (.pair (.int .i64) (.pair (.int .i64) .unit))) x2632), (11, dI x2633), (12, dI t.2)], []⟩)) (fun (t : Int) => ((Exit.exit 0), ⟨mkE 35 0 [(5, dI t)], []⟩)))) (impl_countPairs_impl_arc_n11_l x2632 x2731 x2633 x2732) (fun (t : Int × Int) => (Sum.inl (t.1, t.2))) (by
  rintro t
  · kernel_rfl))) (fun (t : Int) => (Sum.inr t)) (by
  rintro t
  · kernel_rfl) (by
  rintro t f K h
  · exact h)))

def impl_countPairs_impl_arc_n13_l (x2632 : List (Int × Int × Unit)) (x2633 : Int) := (link_loop (mk := fun (s : Int × Int) => ⟨mkE 35 0 [(0, .dat (.list (.pair (.int .i64) (.pair (.int .i64) .unit))) x2632), (1, .fn 48 [] []), (5, dI s.1), (10, .dat (.list (.pair (.int .i64) (.pair (.int .i64) .unit))) x2632), (11, dI x2633), (12, dI s.2)], []⟩) (fin := (fun (t : Int) => ((Exit.exit 0), ⟨mkE 35 0 [(5, dI t)], []⟩))) (by
  rintro t f K h
  · exact h) (fun s => link_map (impl_countPairs_impl_arc_n12_l x2632 s.1 x2633 s.2) (Sum.elim (fun (t : Int × Int) => Sum.inl (t.1, t.2)) (fun (t : Int) => Sum.inr t)) (by
  rintro (t | t)
  · kernel_rfl
  · kernel_rfl)) (0, 0))

def impl_countPairs_impl_arc_n14_l (x2632 : List (Int × Int × Unit)) (x2633 : Int) := (link_block (fin2 := (fun (t : Int) => (Exit.normal, ⟨mkE 35 0 [(5, dI t)], []⟩))) (id := 0) (impl_countPairs_impl_arc_n13_l x2632 x2633) (fun (t : Int) => t) (by
  rintro t K h
  · exact Eq.mp (by kernel_rfl) h))

def impl_countPairs_impl_arc_n15_l (x2632 : List (Int × Int × Unit)) := (link_seq (impl_countPairs_impl_arc_n2_l x2632) (fun (t : Int) => (impl_countPairs_impl_arc_n14_l x2632 t)))

theorem impl_countPairs_impl_arc_n16_l (x2731 : Int) : Link impl_countPairs_impl_arc_ctx LL (cq [1,1,1] (bodyOf Try.f47)) (aq [1,1,1] impl_countPairs_impl_arc_an) ⟨mkE 35 0 [(5, dI x2731)], []⟩ (impl_countPairs_impl_arc_n16 x2731) (fun (t : Int) => (Exit.ret, ⟨mkE 35 0 [(4, dI t)], []⟩)) := .of fun K h => by
  simp only [impl_countPairs_impl_arc_n16, wpW] at h
  exact .of (by kernel_rfl) h

def impl_countPairs_impl_arc_n17_l (x2632 : List (Int × Int × Unit)) := (link_seq (impl_countPairs_impl_arc_n15_l x2632) (fun (t : Int) => (impl_countPairs_impl_arc_n16_l t)))

def impl_countPairs_impl_arc_n18_l (x2632 : List (Int × Int × Unit)) := (link_group (c := (cq [0,1] (bodyOf Try.f47))) (a := (aq [0,1] impl_countPairs_impl_arc_an)) [(cq [0] (bodyOf Try.f47))] [(aq [0] impl_countPairs_impl_arc_an)] rfl (link_seq (impl_countPairs_impl_arc_n1_l x2632) (fun (t : Unit) => (impl_countPairs_impl_arc_n17_l x2632))))

theorem impl_countPairs_impl_arc_e (x2632 : List (Int × Int × Unit)) {r : AV} {H' : Heap} (h : (Ans.mk _ (impl_countPairs_impl_arc x2632) (fun (t : Int) => (dI t, [])) [] none).run = some (r, H')) : Awp impl_countPairs_impl_arc_ctx LL (bodyOf Try.f47) impl_countPairs_impl_arc_an ⟨mkE 35 0 [(0, .dat (.list (.pair (.int .i64) (.pair (.int .i64) .unit))) x2632), (1, .fn 48 [] [])], []⟩ (Ret (tlook tys) Try.f47.results.toList r H') :=
  ret_of' (Link.cast (by kernel_rfl) (by kernel_rfl) (impl_countPairs_impl_arc_n18_l x2632)) (by unfold impl_countPairs_impl_arc; kernel_rfl) (by
  intro t
  exact ret_mk [dI t] (by kernel_rfl) (by kernel_rfl) (by kernel_rfl) (by kernel_rfl)) h

def F_impl_countPairs_impl_arc : Fun := fun avs H =>
  match avs, H with
  | [.dat (.list (.pair (.int .i64) (.pair (.int .i64) .unit))) x2632, .fn 48 [] []], [] => ⟨_, impl_countPairs_impl_arc x2632, fun (t : Int) => (dI t, []), [], none⟩
  | _, _ => Ans.no

theorem impl_countPairs_impl_arc_sound : Sound Try.prog 47 F_impl_countPairs_impl_arc := by
  refine fn_sound' (C := impl_countPairs_impl_arc_ctx) (c := bodyOf Try.f47) (cok_of tys_ok (allc impl_arc_crosses_sound alln) (allc Try.call48 alln) (by kernel_rfl)) Try.func47 (by kernel_rfl) LL impl_countPairs_impl_arc_an ?_
  intro avs H r H' h
  unfold F_impl_countPairs_impl_arc at h
  split at h
  · refine Awp.cast ?_ ?_ ?_ (impl_countPairs_impl_arc_e _ h) <;> kernel_rfl
  · simp [Ans.no, Ans.run] at h


/-! loop.example/headtrees/impl.CrossingsOf -/

def impl_CrossingsOf_an : Ann := (.seq (.leaf [0]) (.seq (.seq (.leaf [0, 5]) (.cond (.seq (.leaf [2]) (.leaf [2])) (.leaf [0]))) (.seq (.leaf [2]) (.leaf [2]))))

noncomputable def impl_CrossingsOf_ctx : Ctx := ⟨tlook tys, olook [(16, F_impl_TreeOk), (40, F_impl_arcsOf), (47, F_impl_countPairs_impl_arc)], ioF, 0, false, []⟩

theorem impl_CrossingsOf_n1_l (x2626 : List Int) : Link impl_CrossingsOf_ctx LL (bodyOf Try.f22) impl_CrossingsOf_an ⟨mkE 9 0 [(0, dL x2626)], []⟩ (impl_CrossingsOf_n1 x2626) (fun (t : Int) => (Exit.ret, ⟨mkE 9 0 [(2, dI t)], []⟩)) := .of fun K h => by
  simp only [impl_CrossingsOf_n1, wpW] at h
  exact .of (by kernel_rfl) h

theorem impl_CrossingsOf_e (x2626 : List Int) {r : AV} {H' : Heap} (h : (Ans.mk _ (impl_CrossingsOf x2626) (fun (t : Int) => (dI t, [])) [] none).run = some (r, H')) : Awp impl_CrossingsOf_ctx LL (bodyOf Try.f22) impl_CrossingsOf_an ⟨mkE 9 0 [(0, dL x2626)], []⟩ (Ret (tlook tys) Try.f22.results.toList r H') :=
  ret_of' (impl_CrossingsOf_n1_l x2626) (by unfold impl_CrossingsOf; kernel_rfl) (by
  intro t
  exact ret_mk [dI t] (by kernel_rfl) (by kernel_rfl) (by kernel_rfl) (by kernel_rfl)) h

def F_impl_CrossingsOf : Fun := fun avs H =>
  match avs, H with
  | [.dat (.list (.int .i64)) x2626], [] => ⟨_, impl_CrossingsOf x2626, fun (t : Int) => (dI t, []), [], none⟩
  | _, _ => Ans.no

theorem impl_CrossingsOf_sound : Sound Try.prog 22 F_impl_CrossingsOf := by
  refine fn_sound' (C := impl_CrossingsOf_ctx) (c := bodyOf Try.f22) (cok_of tys_ok (allc impl_TreeOk_sound (allc impl_arcsOf_sound (allc impl_countPairs_impl_arc_sound alln))) (allc Try.call16 (allc Try.call40 (allc Try.call47 alln))) (by kernel_rfl)) Try.func22 (by kernel_rfl) LL impl_CrossingsOf_an ?_
  intro avs H r H' h
  unfold F_impl_CrossingsOf at h
  split at h
  · refine Awp.cast ?_ ?_ ?_ (impl_CrossingsOf_e _ h) <;> kernel_rfl
  · simp [Ans.no, Ans.run] at h


/-! loop.example/headtrees/spec.DrawSidesFor -/

def spec_DrawSidesFor_an : Ann := (.seq (.leaf [0]) (.seq (.leaf [2]) (.leaf [2])))

noncomputable def spec_DrawSidesFor_ctx : Ctx := ⟨tlook tys, olook [(38, F_spec_l20Open), (37, F_spec_l20Wild)], ioF, 0, false, []⟩

theorem spec_DrawSidesFor_n1_l (x3263 : List Int) : Link spec_DrawSidesFor_ctx LL (bodyOf Try.f28) spec_DrawSidesFor_an ⟨mkE 6 0 [(0, dV x3263)], []⟩ (spec_DrawSidesFor_n1 x3263) (fun (t : (List Int)) => (Exit.ret, ⟨mkE 6 0 [(2, .slc 0)], [some (sI t)]⟩)) := .of fun K h => by
  simp only [spec_DrawSidesFor_n1, wpW] at h
  exact .of (by kernel_rfl) h

theorem spec_DrawSidesFor_e (x3263 : List Int) {r : AV} {H' : Heap} (h : (Ans.mk _ (spec_DrawSidesFor x3263) (fun (t : (List Int)) => (.slc 0, [some (sI t)])) [] none).run = some (r, H')) : Awp spec_DrawSidesFor_ctx LL (bodyOf Try.f28) spec_DrawSidesFor_an ⟨mkE 6 0 [(0, dV x3263)], []⟩ (Ret (tlook tys) Try.f28.results.toList r H') :=
  ret_of' (spec_DrawSidesFor_n1_l x3263) (by unfold spec_DrawSidesFor; kernel_rfl) (by
  intro t
  exact ret_mk [.slc 0] (by kernel_rfl) (by kernel_rfl) (by kernel_rfl) (by kernel_rfl)) h

def F_spec_DrawSidesFor : Fun := fun avs H =>
  match avs, H with
  | [.dat (.list (.int .u8)) x3263], [] => ⟨_, spec_DrawSidesFor x3263, fun (t : (List Int)) => (.slc 0, [some (sI t)]), [], none⟩
  | _, _ => Ans.no

theorem spec_DrawSidesFor_sound : Sound Try.prog 28 F_spec_DrawSidesFor := by
  refine fn_sound' (C := spec_DrawSidesFor_ctx) (c := bodyOf Try.f28) (cok_of tys_ok (allc spec_l20Open_sound (allc spec_l20Wild_sound alln)) (allc Try.call38 (allc Try.call37 alln)) (by kernel_rfl)) Try.func28 (by kernel_rfl) LL spec_DrawSidesFor_an ?_
  intro avs H r H' h
  unfold F_spec_DrawSidesFor at h
  split at h
  · refine Awp.cast ?_ ?_ ?_ (spec_DrawSidesFor_e _ h) <;> kernel_rfl
  · simp [Ans.no, Ans.run] at h


/-! math/bits.Mul64 -/

def math_bits_Mul64_an : Ann := (.seq (.leaf [0, 1]) (.seq (.leaf [0, 1, 6]) (.seq (.leaf [0, 1, 6, 7]) (.seq (.leaf [0, 1, 6, 7, 8]) (.seq (.leaf [0, 1, 6, 7, 8, 9]) (.seq (.leaf [0, 1, 6, 7, 8, 9, 10]) (.seq (.leaf [0, 1, 6, 7, 9, 11]) (.seq (.leaf [0, 1, 6, 7, 9, 11, 12]) (.seq (.leaf [0, 1, 6, 7, 9, 12, 13]) (.seq (.leaf [0, 1, 7, 9, 12, 13]) (.seq (.leaf [0, 1, 4]) (.seq (.leaf [4, 5]) (.leaf [4, 5])))))))))))))

noncomputable def math_bits_Mul64_ctx : Ctx := ⟨tlook tys, olook [], ioF, 0, false, []⟩

theorem math_bits_Mul64_n1_l (x3294 : Int) (x3295 : Int) : Link math_bits_Mul64_ctx LL (Code.seq (cq [0] (bodyOf Try.f79)) (Code.seq (cq [0,1] (bodyOf Try.f79)) (Code.seq (cq [0,1,1] (bodyOf Try.f79)) (Code.seq (cq [0,1,1,1] (bodyOf Try.f79)) (Code.seq (cq [0,1,1,1,1] (bodyOf Try.f79)) (Code.seq (cq [0,1,1,1,1,1] (bodyOf Try.f79)) (cq [0,1,1,1,1,1,1] (bodyOf Try.f79)))))))) (Ann.seq (aq [0] math_bits_Mul64_an) (Ann.seq (aq [0,1] math_bits_Mul64_an) (Ann.seq (aq [0,1,1] math_bits_Mul64_an) (Ann.seq (aq [0,1,1,1] math_bits_Mul64_an) (Ann.seq (aq [0,1,1,1,1] math_bits_Mul64_an) (Ann.seq (aq [0,1,1,1,1,1] math_bits_Mul64_an) (aq [0,1,1,1,1,1,1] math_bits_Mul64_an))))))) ⟨mkE 51 0 [(0, dW x3294), (1, dW x3295)], []⟩ (math_bits_Mul64_n1 x3294 x3295) (fun (t : Int × Int × Int × Int) => (Exit.normal, ⟨mkE 51 0 [(0, dW x3294), (1, dW x3295), (6, dW t.1), (7, dW t.2.1), (9, dW t.2.2.1), (11, dW t.2.2.2)], []⟩)) := .of fun K h => by
  simp only [math_bits_Mul64_n1, wpW] at h
  exact .of (by kernel_rfl) h

theorem math_bits_Mul64_n2_l (x3294 : Int) (x3295 : Int) (x3313 : Int) (x3314 : Int) (x3316 : Int) (x3320 : Int) : Link math_bits_Mul64_ctx LL (cq [0,1,1,1,1,1,1,1] (bodyOf Try.f79)) (aq [0,1,1,1,1,1,1,1] math_bits_Mul64_an) ⟨mkE 51 0 [(0, dW x3294), (1, dW x3295), (6, dW x3313), (7, dW x3314), (9, dW x3316), (11, dW x3320)], []⟩ (math_bits_Mul64_n2 x3320) (fun (t : Int) => (Exit.normal, ⟨mkE 51 0 [(0, dW x3294), (1, dW x3295), (6, dW x3313), (7, dW x3314), (9, dW x3316), (11, dW x3320), (12, dW t)], []⟩)) := .of fun K h => by
  simp only [math_bits_Mul64_n2, wpW] at h
  exact .of (by kernel_rfl) h

theorem math_bits_Mul64_n3_l (x3294 : Int) (x3295 : Int) (x3313 : Int) (x3314 : Int) (x3316 : Int) (x3320 : Int) (x3331 : Int) : Link math_bits_Mul64_ctx LL (cq [0,1,1,1,1,1,1,1,1] (bodyOf Try.f79)) (aq [0,1,1,1,1,1,1,1,1] math_bits_Mul64_an) ⟨mkE 51 0 [(0, dW x3294), (1, dW x3295), (6, dW x3313), (7, dW x3314), (9, dW x3316), (11, dW x3320), (12, dW x3331)], []⟩ (math_bits_Mul64_n3 x3320) (fun (t : Int) => (Exit.normal, ⟨mkE 51 0 [(0, dW x3294), (1, dW x3295), (6, dW x3313), (7, dW x3314), (9, dW x3316), (12, dW x3331), (13, dW t)], []⟩)) := .of fun K h => by
  simp only [math_bits_Mul64_n3, wpW] at h
  exact .of (by kernel_rfl) h

theorem math_bits_Mul64_n4_l (x3294 : Int) (x3295 : Int) (x3313 : Int) (x3314 : Int) (x3316 : Int) (x3331 : Int) (x3333 : Int) : Link math_bits_Mul64_ctx LL (cq [0,1,1,1,1,1,1,1,1,1] (bodyOf Try.f79)) (aq [0,1,1,1,1,1,1,1,1,1] math_bits_Mul64_an) ⟨mkE 51 0 [(0, dW x3294), (1, dW x3295), (6, dW x3313), (7, dW x3314), (9, dW x3316), (12, dW x3331), (13, dW x3333)], []⟩ (math_bits_Mul64_n4 x3313 x3316 x3331) (fun (t : Int) => (Exit.normal, ⟨mkE 51 0 [(0, dW x3294), (1, dW x3295), (7, dW x3314), (9, dW x3316), (12, dW t), (13, dW x3333)], []⟩)) := .of fun K h => by
  simp only [math_bits_Mul64_n4, wpW] at h
  exact .of (by kernel_rfl) h

theorem math_bits_Mul64_n5_l (x3294 : Int) (x3295 : Int) (x3314 : Int) (x3316 : Int) (x3337 : Int) (x3333 : Int) : Link math_bits_Mul64_ctx LL (cq [1,1,1,1,1,1,1,1,1,1] (bodyOf Try.f79)) (aq [1,1,1,1,1,1,1,1,1,1] math_bits_Mul64_an) ⟨mkE 51 0 [(0, dW x3294), (1, dW x3295), (7, dW x3314), (9, dW x3316), (12, dW x3337), (13, dW x3333)], []⟩ (math_bits_Mul64_n5 x3294 x3295 x3314 x3316 x3337 x3333) (fun (t : Int × Int) => (Exit.ret, ⟨mkE 51 0 [(4, dW t.1), (5, dW t.2)], []⟩)) := .of fun K h => by
  simp only [math_bits_Mul64_n5, wpW] at h
  exact .of (by kernel_rfl) h

def math_bits_Mul64_n6_l (x3294 : Int) (x3295 : Int) (x3313 : Int) (x3314 : Int) (x3316 : Int) (x3331 : Int) (x3333 : Int) := (link_seq (math_bits_Mul64_n4_l x3294 x3295 x3313 x3314 x3316 x3331 x3333) (fun (t : Int) => (math_bits_Mul64_n5_l x3294 x3295 x3314 x3316 t x3333)))

def math_bits_Mul64_n7_l (x3294 : Int) (x3295 : Int) (x3313 : Int) (x3314 : Int) (x3316 : Int) (x3320 : Int) (x3331 : Int) := (link_seq (math_bits_Mul64_n3_l x3294 x3295 x3313 x3314 x3316 x3320 x3331) (fun (t : Int) => (math_bits_Mul64_n6_l x3294 x3295 x3313 x3314 x3316 x3331 t)))

def math_bits_Mul64_n8_l (x3294 : Int) (x3295 : Int) (x3313 : Int) (x3314 : Int) (x3316 : Int) (x3320 : Int) := (link_seq (math_bits_Mul64_n2_l x3294 x3295 x3313 x3314 x3316 x3320) (fun (t : Int) => (math_bits_Mul64_n7_l x3294 x3295 x3313 x3314 x3316 x3320 t)))

def math_bits_Mul64_n9_l (x3294 : Int) (x3295 : Int) := (link_group (c := (cq [0,1,1,1,1,1,1] (bodyOf Try.f79))) (a := (aq [0,1,1,1,1,1,1] math_bits_Mul64_an)) [(cq [0] (bodyOf Try.f79)), (cq [0,1] (bodyOf Try.f79)), (cq [0,1,1] (bodyOf Try.f79)), (cq [0,1,1,1] (bodyOf Try.f79)), (cq [0,1,1,1,1] (bodyOf Try.f79)), (cq [0,1,1,1,1,1] (bodyOf Try.f79))] [(aq [0] math_bits_Mul64_an), (aq [0,1] math_bits_Mul64_an), (aq [0,1,1] math_bits_Mul64_an), (aq [0,1,1,1] math_bits_Mul64_an), (aq [0,1,1,1,1] math_bits_Mul64_an), (aq [0,1,1,1,1,1] math_bits_Mul64_an)] rfl (link_seq (math_bits_Mul64_n1_l x3294 x3295) (fun (t : Int × Int × Int × Int) => (math_bits_Mul64_n8_l x3294 x3295 t.1 t.2.1 t.2.2.1 t.2.2.2))))

theorem math_bits_Mul64_e (x3294 : Int) (x3295 : Int) {r : AV} {H' : Heap} (h : (Ans.mk _ (math_bits_Mul64 x3294 x3295) (fun (t : Int × Int) => (.tup [dW t.1, dW t.2], [])) [] none).run = some (r, H')) : Awp math_bits_Mul64_ctx LL (bodyOf Try.f79) math_bits_Mul64_an ⟨mkE 51 0 [(0, dW x3294), (1, dW x3295)], []⟩ (Ret (tlook tys) Try.f79.results.toList r H') :=
  ret_of' (Link.cast (by kernel_rfl) (by kernel_rfl) (math_bits_Mul64_n9_l x3294 x3295)) (by unfold math_bits_Mul64; kernel_rfl) (by
  intro t
  exact ret_mk [dW t.1, dW t.2] (by kernel_rfl) (by kernel_rfl) (by kernel_rfl) (by kernel_rfl)) h

def F_math_bits_Mul64 : Fun := fun avs H =>
  match avs, H with
  | [.dat (.int .u64) x3294, .dat (.int .u64) x3295], [] => ⟨_, math_bits_Mul64 x3294 x3295, fun (t : Int × Int) => (.tup [dW t.1, dW t.2], []), [], none⟩
  | _, _ => Ans.no

theorem math_bits_Mul64_sound : Sound Try.prog 79 F_math_bits_Mul64 := by
  refine fn_sound' (C := math_bits_Mul64_ctx) (c := bodyOf Try.f79) (cok_of tys_ok (alln) (alln) (by kernel_rfl)) Try.func79 (by kernel_rfl) LL math_bits_Mul64_an ?_
  intro avs H r H' h
  unfold F_math_bits_Mul64 at h
  split at h
  · refine Awp.cast ?_ ?_ ?_ (math_bits_Mul64_e _ _ h) <;> kernel_rfl
  · simp [Ans.no, Ans.run] at h


/-! math/bits.Mul -/

def math_bits_Mul_an : Ann := (.seq (.leaf [0, 1]) (.seq (.cond (.seq (.leaf [6, 7]) (.seq (.leaf [4, 5]) (.leaf [4, 5]))) (.leaf [0, 1])) (.seq (.leaf [8, 9]) (.seq (.leaf [4, 5]) (.leaf [4, 5])))))

noncomputable def math_bits_Mul_ctx : Ctx := ⟨tlook tys, olook [(79, F_math_bits_Mul64)], ioF, 0, false, []⟩

theorem math_bits_Mul_n1_l (x3292 : Int) (x3293 : Int) : Link math_bits_Mul_ctx LL (bodyOf Try.f76) math_bits_Mul_an ⟨mkE 30 0 [(0, dW x3292), (1, dW x3293)], []⟩ (math_bits_Mul_n1 x3292 x3293) (fun (t : Int × Int) => (Exit.ret, ⟨mkE 30 0 [(4, dW t.1), (5, dW t.2)], []⟩)) := .of fun K h => by
  simp only [math_bits_Mul_n1, wpW] at h
  exact .of (by kernel_rfl) h

theorem math_bits_Mul_e (x3292 : Int) (x3293 : Int) {r : AV} {H' : Heap} (h : (Ans.mk _ (math_bits_Mul x3292 x3293) (fun (t : Int × Int) => (.tup [dW t.1, dW t.2], [])) [] none).run = some (r, H')) : Awp math_bits_Mul_ctx LL (bodyOf Try.f76) math_bits_Mul_an ⟨mkE 30 0 [(0, dW x3292), (1, dW x3293)], []⟩ (Ret (tlook tys) Try.f76.results.toList r H') :=
  ret_of' (math_bits_Mul_n1_l x3292 x3293) (by unfold math_bits_Mul; kernel_rfl) (by
  intro t
  exact ret_mk [dW t.1, dW t.2] (by kernel_rfl) (by kernel_rfl) (by kernel_rfl) (by kernel_rfl)) h

def F_math_bits_Mul : Fun := fun avs H =>
  match avs, H with
  | [.dat (.int .u64) x3292, .dat (.int .u64) x3293], [] => ⟨_, math_bits_Mul x3292 x3293, fun (t : Int × Int) => (.tup [dW t.1, dW t.2], []), [], none⟩
  | _, _ => Ans.no

theorem math_bits_Mul_sound : Sound Try.prog 76 F_math_bits_Mul := by
  refine fn_sound' (C := math_bits_Mul_ctx) (c := bodyOf Try.f76) (cok_of tys_ok (allc math_bits_Mul64_sound alln) (allc Try.call79 alln) (by kernel_rfl)) Try.func76 (by kernel_rfl) LL math_bits_Mul_an ?_
  intro avs H r H' h
  unfold F_math_bits_Mul at h
  split at h
  · refine Awp.cast ?_ ?_ ?_ (math_bits_Mul_e _ _ h) <;> kernel_rfl
  · simp [Ans.no, Ans.run] at h


/-! slices.Repeat[[]int,int] -/

def slices_Repeat_int_int_an : Ann := (.seq (.leaf [0, 1]) (.seq (.seq (.leaf [0, 1, 10]) (.cond (.leaf [0, 1]) (.leaf [0, 1]))) (.seq (.leaf [0, 5, 6]) (.seq (.seq (.leaf [0, 6, 26]) (.cond (.leaf [0, 6]) (.leaf [0, 6]))) (.seq (.leaf [0, 7]) (.seq (.leaf [7, 8]) (.seq (.block (.loop (.seq (.seq (.leaf [7, 8, 37]) (.cond (.leaf [7, 8]) (.leaf [7]))) (.block (.draw [] [0, 1, 2, 3, 4, 5, 6, 7, 8, 9] [] [7, 8]))))) (.seq (.leaf [4]) (.leaf [4])))))))))

noncomputable def slices_Repeat_int_int_ctx : Ctx := ⟨tlook tys, olook [(76, F_math_bits_Mul)], ioF, 0, false, []⟩

theorem slices_Repeat_int_int_n1_l (x3285 : List Int) (x3286 : Int) : Link slices_Repeat_int_int_ctx LL (Code.seq (cq [0] (bodyOf Try.f70)) (Code.seq (cq [0,1] (bodyOf Try.f70)) (Code.seq (cq [0,1,1] (bodyOf Try.f70)) (Code.seq (cq [0,1,1,1] (bodyOf Try.f70)) (Code.seq (cq [0,1,1,1,1] (bodyOf Try.f70)) (cq [0,1,1,1,1,1] (bodyOf Try.f70))))))) (Ann.seq (aq [0] slices_Repeat_int_int_an) (Ann.seq (aq [0,1] slices_Repeat_int_int_an) (Ann.seq (aq [0,1,1] slices_Repeat_int_int_an) (Ann.seq (aq [0,1,1,1] slices_Repeat_int_int_an) (Ann.seq (aq [0,1,1,1,1] slices_Repeat_int_int_an) (aq [0,1,1,1,1,1] slices_Repeat_int_int_an)))))) ⟨mkE 48 0 [(0, dL x3285), (1, dI x3286)], []⟩ (slices_Repeat_int_int_n1 x3285 x3286) (fun (t : Int × (List Int)) => (Exit.normal, ⟨mkE 48 0 [(7, .slc 0), (8, dI t.1)], [some (sI t.2)]⟩)) := .of fun K h => by
  simp only [slices_Repeat_int_int_n1, wpW, wpO_none] at h
  exact .of (by kernel_rfl) h

theorem slices_Repeat_int_int_n2_l (x3435 : Int) (x3436 : List Int) : Link slices_Repeat_int_int_ctx LL (cq [0,0,0,1,1,1,1,1,1] (bodyOf Try.f70)) (aq [0,0,0,1,1,1,1,1,1] slices_Repeat_int_int_an) ⟨mkE 48 0 [(7, .slc 0), (8, dI x3435)], [some (sI x3436)]⟩ (slices_Repeat_int_int_n2 x3435 x3436) (Sum.elim (fun (t : Int × (List Int)) => (Exit.normal, ⟨mkE 48 0 [(7, .slc 0), (8, dI t.1)], [some (sI t.2)]⟩)) (fun (t : (List Int)) => ((Exit.exit 0), ⟨mkE 48 0 [(7, .slc 0)], [some (sI t)]⟩))) := .of fun K h => by
  simp only [slices_Repeat_int_int_n2, wpW] at h
  exact .of (by kernel_rfl) h

def slices_Repeat_int_int_n3_l (x3400 : Int) (x3399 : List Int) := (link_loop (mk := fun (s : Int × (List Int)) => ⟨mkE 48 0 [(7, .slc 0), (8, dI s.1)], [some (sI s.2)]⟩) (fin := (fun (t : (List Int)) => ((Exit.exit 0), ⟨mkE 48 0 [(7, .slc 0)], [some (sI t)]⟩))) (by
  rintro t f K h
  · exact h) (fun s => link_map (slices_Repeat_int_int_n2_l s.1 s.2) (Sum.elim (fun (t : Int × (List Int)) => Sum.inl (t.1, t.2)) (fun (t : (List Int)) => Sum.inr t)) (by
  rintro (t | t)
  · kernel_rfl
  · kernel_rfl)) (x3400, x3399))

def slices_Repeat_int_int_n4_l (x3400 : Int) (x3399 : List Int) := (link_block (fin2 := (fun (t : (List Int)) => (Exit.normal, ⟨mkE 48 0 [(7, .slc 0)], [some (sI t)]⟩))) (id := 0) (slices_Repeat_int_int_n3_l x3400 x3399) (fun (t : (List Int)) => t) (by
  rintro t K h
  · exact Eq.mp (by kernel_rfl) h))

theorem slices_Repeat_int_int_n5_l (x3436 : List Int) : Link slices_Repeat_int_int_ctx LL (cq [1,1,1,1,1,1,1] (bodyOf Try.f70)) (aq [1,1,1,1,1,1,1] slices_Repeat_int_int_an) ⟨mkE 48 0 [(7, .slc 0)], [some (sI x3436)]⟩ (slices_Repeat_int_int_n5 x3436) (fun (t : (List Int)) => (Exit.ret, ⟨mkE 48 0 [(4, .slc 0)], [some (sI t)]⟩)) := .of fun K h => by
  simp only [slices_Repeat_int_int_n5, wpW] at h
  exact .of (by kernel_rfl) h

def slices_Repeat_int_int_n6_l (x3400 : Int) (x3399 : List Int) := (link_seq (slices_Repeat_int_int_n4_l x3400 x3399) (fun (t : (List Int)) => (slices_Repeat_int_int_n5_l t)))

def slices_Repeat_int_int_n7_l (x3285 : List Int) (x3286 : Int) := (link_group (c := (cq [0,1,1,1,1,1] (bodyOf Try.f70))) (a := (aq [0,1,1,1,1,1] slices_Repeat_int_int_an)) [(cq [0] (bodyOf Try.f70)), (cq [0,1] (bodyOf Try.f70)), (cq [0,1,1] (bodyOf Try.f70)), (cq [0,1,1,1] (bodyOf Try.f70)), (cq [0,1,1,1,1] (bodyOf Try.f70))] [(aq [0] slices_Repeat_int_int_an), (aq [0,1] slices_Repeat_int_int_an), (aq [0,1,1] slices_Repeat_int_int_an), (aq [0,1,1,1] slices_Repeat_int_int_an), (aq [0,1,1,1,1] slices_Repeat_int_int_an)] rfl (link_seq (slices_Repeat_int_int_n1_l x3285 x3286) (fun (t : Int × (List Int)) => (slices_Repeat_int_int_n6_l t.1 t.2))))

theorem slices_Repeat_int_int_e (x3285 : List Int) (x3286 : Int) {r : AV} {H' : Heap} (h : (Ans.mk _ (slices_Repeat_int_int x3285 x3286) (fun (t : (List Int)) => (.slc 0, [some (sI t)])) [] none).run = some (r, H')) : Awp slices_Repeat_int_int_ctx LL (bodyOf Try.f70) slices_Repeat_int_int_an ⟨mkE 48 0 [(0, dL x3285), (1, dI x3286)], []⟩ (Ret (tlook tys) Try.f70.results.toList r H') :=
  ret_of' (Link.cast (by kernel_rfl) (by kernel_rfl) (slices_Repeat_int_int_n7_l x3285 x3286)) (by unfold slices_Repeat_int_int; kernel_rfl) (by
  intro t
  exact ret_mk [.slc 0] (by kernel_rfl) (by kernel_rfl) (by kernel_rfl) (by kernel_rfl)) h

def F_slices_Repeat_int_int : Fun := fun avs H =>
  match avs, H with
  | [.dat (.list (.int .i64)) x3285, .dat (.int .i64) x3286], [] => ⟨_, slices_Repeat_int_int x3285 x3286, fun (t : (List Int)) => (.slc 0, [some (sI t)]), [], none⟩
  | _, _ => Ans.no

theorem slices_Repeat_int_int_sound : Sound Try.prog 70 F_slices_Repeat_int_int := by
  refine fn_sound' (C := slices_Repeat_int_int_ctx) (c := bodyOf Try.f70) (cok_of tys_ok (allc math_bits_Mul_sound alln) (allc Try.call76 alln) (by kernel_rfl)) Try.func70 (by kernel_rfl) LL slices_Repeat_int_int_an ?_
  intro avs H r H' h
  unfold F_slices_Repeat_int_int at h
  split at h
  · refine Awp.cast ?_ ?_ ?_ (slices_Repeat_int_int_e _ _ h) <;> kernel_rfl
  · simp [Ans.no, Ans.run] at h


/-! loop.example/headtrees/impl.newDrawing -/

def impl_newDrawing_an : Ann := (.seq (.leaf [0]) (.seq (.leaf [2]) (.leaf [2])))

noncomputable def impl_newDrawing_ctx : Ctx := ⟨tlook tys, olook [(70, F_slices_Repeat_int_int)], ioF, 0, false, []⟩

theorem impl_newDrawing_n1_l (x3282 : List (Int × Int × Unit)) : Link impl_newDrawing_ctx LL (bodyOf Try.f55) impl_newDrawing_an ⟨mkE 10 0 [(0, .dat (.list (.pair (.int .i64) (.pair (.int .i64) .unit))) x3282)], []⟩ (impl_newDrawing_n1 x3282) (fun (t : (List Int)) => (Exit.ret, ⟨mkE 10 0 [(2, .ptr 0 0)], [some (.box [.dat (.list (.pair (.int .i64) (.pair (.int .i64) .unit))) x3282, .slc 1]), some (sI t)]⟩)) := .of fun K h => by
  simp only [impl_newDrawing_n1, wpW] at h
  exact .of (by kernel_rfl) h

theorem impl_newDrawing_e (x3282 : List (Int × Int × Unit)) {r : AV} {H' : Heap} (h : (Ans.mk _ (impl_newDrawing x3282) (fun (t : (List Int)) => (.ptr 0 0, [some (.box [.dat (.list (.pair (.int .i64) (.pair (.int .i64) .unit))) x3282, .slc 1]), some (sI t)])) [] none).run = some (r, H')) : Awp impl_newDrawing_ctx LL (bodyOf Try.f55) impl_newDrawing_an ⟨mkE 10 0 [(0, .dat (.list (.pair (.int .i64) (.pair (.int .i64) .unit))) x3282)], []⟩ (Ret (tlook tys) Try.f55.results.toList r H') :=
  ret_of' (impl_newDrawing_n1_l x3282) (by unfold impl_newDrawing; kernel_rfl) (by
  intro t
  exact ret_mk [.ptr 0 0] (by kernel_rfl) (by kernel_rfl) (by kernel_rfl) (by kernel_rfl)) h

def F_impl_newDrawing : Fun := fun avs H =>
  match avs, H with
  | [.dat (.list (.pair (.int .i64) (.pair (.int .i64) .unit))) x3282], [] => ⟨_, impl_newDrawing x3282, fun (t : (List Int)) => (.ptr 0 0, [some (.box [.dat (.list (.pair (.int .i64) (.pair (.int .i64) .unit))) x3282, .slc 1]), some (sI t)]), [], none⟩
  | _, _ => Ans.no

theorem impl_newDrawing_sound : Sound Try.prog 55 F_impl_newDrawing := by
  refine fn_sound' (C := impl_newDrawing_ctx) (c := bodyOf Try.f55) (cok_of tys_ok (allc slices_Repeat_int_int_sound alln) (allc Try.call70 alln) (by kernel_rfl)) Try.func55 (by kernel_rfl) LL impl_newDrawing_an ?_
  intro avs H r H' h
  unfold F_impl_newDrawing at h
  split at h
  · refine Awp.cast ?_ ?_ ?_ (impl_newDrawing_e _ h) <;> kernel_rfl
  · simp [Ans.no, Ans.run] at h


/-! loop.example/headtrees/impl.opposite -/

def impl_opposite_an : Ann := (.seq (.leaf [0]) (.seq (.leaf [2]) (.leaf [2])))

noncomputable def impl_opposite_ctx : Ctx := ⟨tlook tys, olook [], ioF, 0, false, []⟩

theorem impl_opposite_n1_l (x3507 : Int) : Link impl_opposite_ctx LL (bodyOf Try.f77) impl_opposite_an ⟨mkE 5 0 [(0, dI x3507)], []⟩ (impl_opposite_n1 x3507) (fun (t : Int) => (Exit.ret, ⟨mkE 5 0 [(2, dI t)], []⟩)) := .of fun K h => by
  simp only [impl_opposite_n1, wpW] at h
  exact .of (by kernel_rfl) h

theorem impl_opposite_e (x3507 : Int) {r : AV} {H' : Heap} (h : (Ans.mk _ (impl_opposite x3507) (fun (t : Int) => (dI t, [])) [] none).run = some (r, H')) : Awp impl_opposite_ctx LL (bodyOf Try.f77) impl_opposite_an ⟨mkE 5 0 [(0, dI x3507)], []⟩ (Ret (tlook tys) Try.f77.results.toList r H') :=
  ret_of' (impl_opposite_n1_l x3507) (by unfold impl_opposite; kernel_rfl) (by
  intro t
  exact ret_mk [dI t] (by kernel_rfl) (by kernel_rfl) (by kernel_rfl) (by kernel_rfl)) h

def F_impl_opposite : Fun := fun avs H =>
  match avs, H with
  | [.dat (.int .i64) x3507], [] => ⟨_, impl_opposite x3507, fun (t : Int) => (dI t, []), [], none⟩
  | _, _ => Ans.no

theorem impl_opposite_sound : Sound Try.prog 77 F_impl_opposite := by
  refine fn_sound' (C := impl_opposite_ctx) (c := bodyOf Try.f77) (cok_of tys_ok (alln) (alln) (by kernel_rfl)) Try.func77 (by kernel_rfl) LL impl_opposite_an ?_
  intro avs H r H' h
  unfold F_impl_opposite at h
  split at h
  · refine Awp.cast ?_ ?_ ?_ (impl_opposite_e _ h) <;> kernel_rfl
  · simp [Ans.no, Ans.run] at h


/-! (*loop.example/headtrees/impl.drawing).draw -/

def impl_drawing_draw_an : Ann := (.seq (.leaf [0, 1, 2]) (.seq (.seq (.leaf [0, 1, 2, 16]) (.cond (.seq (.leaf [6]) (.leaf [6])) (.leaf [0, 1, 2]))) (.seq (.leaf [0, 1, 2]) (.seq (.seq (.leaf [0, 1, 2, 36, 37, 38]) (.block (.loop (.seq (.leaf [0, 1, 2, 36, 37, 38, 39]) (.seq (.cond (.leaf [0, 1, 2, 36, 37, 38]) (.leaf [])) (.seq (.block (.seq (.leaf [0, 1, 2, 7, 8, 36, 37, 38]) (.seq (.draw [8, 13] [0, 1, 2, 3, 4, 5, 6, 7, 8, 9, 10, 11, 12, 13, 14, 15, 16] [] [0, 1, 2, 36, 37, 38, 59]) (.cond (.seq (.leaf [6]) (.leaf [6])) (.leaf [0, 1, 2, 36, 37, 38]))))) (.leaf [0, 1, 2, 36, 37, 38]))))))) (.seq (.leaf [6]) (.leaf [6]))))))

def F_impl_drawing_draw_fuel (n : Nat) : Fun := fun avs H =>
  match avs, H with
  | [.ptr 0 0, .dat (.int .i64) x3474, .dat (.int .i64) x3475], [some (.box [.dat (.list (.pair (.int .i64) (.pair (.int .i64) .unit))) x3476, .slc 1]), some (.seq (.int .i64) x3477)] => ⟨_, impl_drawing_draw_fuel n x3474 x3475 x3476 x3477, fun (t : Bool × (List Int)) => (dB t.1, [some (.box [.dat (.list (.pair (.int .i64) (.pair (.int .i64) .unit))) x3476, .slc 1]), some (sI t.2)]), [], none⟩
  | _, _ => Ans.no

noncomputable def impl_drawing_draw_ctx (n : Nat) : Ctx := ⟨tlook tys, olook [(48, F_impl_arc_crosses), (77, F_impl_opposite), (71, F_impl_drawing_draw_fuel n)], ioF, 2, false, []⟩

theorem impl_drawing_draw_n1_l (n : Nat) (x3474 : Int) (x3475 : Int) (x3476 : List (Int × Int × Unit)) (x3477 : List Int) : Link (impl_drawing_draw_ctx n) LL (Code.seq (cq [0] (bodyOf Try.f71)) (Code.seq (cq [0,1] (bodyOf Try.f71)) (cq [0,1,1] (bodyOf Try.f71)))) (Ann.seq (aq [0] impl_drawing_draw_an) (Ann.seq (aq [0,1] impl_drawing_draw_an) (aq [0,1,1] impl_drawing_draw_an))) ⟨mkE 61 0 [(0, .ptr 0 0), (1, dI x3474), (2, dI x3475)], [some (.box [.dat (.list (.pair (.int .i64) (.pair (.int .i64) .unit))) x3476, .slc 1]), some (sI x3477)]⟩ (impl_drawing_draw_n1 (impl_drawing_draw_fuel n) x3474 x3475 x3477) (Sum.elim (fun (t : (List Int)) => (Exit.normal, ⟨mkE 61 0 [(0, .ptr 0 0), (1, dI x3474), (2, dI x3475)], [some (.box [.dat (.list (.pair (.int .i64) (.pair (.int .i64) .unit))) x3476, .slc 1]), some (sI t)]⟩)) (fun (t : Bool × (List Int)) => (Exit.ret, ⟨mkE 61 0 [(6, dB t.1)], [some (.box [.dat (.list (.pair (.int .i64) (.pair (.int .i64) .unit))) x3476, .slc 1]), some (sI t.2)]⟩))) := .of fun K h => by
  simp only [impl_drawing_draw_n1, wpW] at h
  exact .of (by kernel_rfl) h

theorem impl_drawing_draw_n2_l (n : Nat) (x3474 : Int) (x3475 : Int) (x3476 : List (Int × Int × Unit)) (x3600 : List Int) : Link (impl_drawing_draw_ctx n) LL (cq [0,0,1,1,1] (bodyOf Try.f71)) (aq [0,0,1,1,1] impl_drawing_draw_an) ⟨mkE 61 0 [(0, .ptr 0 0), (1, dI x3474), (2, dI x3475)], [some (.box [.dat (.list (.pair (.int .i64) (.pair (.int .i64) .unit))) x3476, .slc 1]), some (sI x3600)]⟩ (impl_drawing_draw_n2 (impl_drawing_draw_fuel n) x3476) (fun (t : Int) => (Exit.normal, ⟨mkE 61 0 [(0, .ptr 0 0), (1, dI x3474), (2, dI x3475), (36, .dat (.list (.pair (.int .i64) (.pair (.int .i64) .unit))) x3476), (37, dI t), (38, dI 0)], [some (.box [.dat (.list (.pair (.int .i64) (.pair (.int .i64) .unit))) x3476, .slc 1]), some (sI x3600)]⟩)) := .of fun K h => by
  simp only [impl_drawing_draw_n2, wpW] at h
  exact .of (by kernel_rfl) h

theorem impl_drawing_draw_n3_l (n : Nat) (x3474 : Int) (x3475 : Int) (x3476 : List (Int × Int × Unit)) (x3601 : Int) (x3642 : Int) (x3643 : List Int) : Link (impl_drawing_draw_ctx n) LL (cq [0,0,1,0,1,1,1] (bodyOf Try.f71)) (aq [0,0,1,0,1,1,1] impl_drawing_draw_an) ⟨mkE 61 0 [(0, .ptr 0 0), (1, dI x3474), (2, dI x3475), (36, .dat (.list (.pair (.int .i64) (.pair (.int .i64) .unit))) x3476), (37, dI x3601), (38, dI x3642)], [some (.box [.dat (.list (.pair (.int .i64) (.pair (.int .i64) .unit))) x3476, .slc 1]), some (sI x3643)]⟩ (impl_drawing_draw_n3 (impl_drawing_draw_fuel n) x3474 x3475 x3476 x3601 x3642 x3643) (Sum.elim (fun (t : Int × (List Int)) => (Exit.normal, ⟨mkE 61 0 [(0, .ptr 0 0), (1, dI x3474), (2, dI x3475), (36, .dat (.list (.pair (.int .i64) (.pair (.int .i64) .unit))) x3476), (37, dI x3601), (38, dI t.1)], [some (.box [.dat (.list (.pair (.int .i64) (.pair (.int .i64) .unit))) x3476, .slc 1]), some (sI t.2)]⟩)) (Sum.elim (fun (t : Bool × (List Int)) => (Exit.ret, ⟨mkE 61 0 [(6, dB t.1)], [some (.box [.dat (.list (.pair (.int .i64) (.pair (.int .i64) .unit))) x3476, .slc 1]), some (sI t.2)]⟩)) (fun (t : (List Int)) => ((Exit.exit 0), ⟨mkE 61 0 [], [some (.box [.dat (.list (.pair (.int .i64) (.pair (.int .i64) .unit))) x3476, .slc 1]), some (sI t)]⟩)))) := .of fun K h => by
  simp only [impl_drawing_draw_n3, wpW] at h
  exact .of (by kernel_rfl) h

def impl_drawing_draw_n4_l (n : Nat) (x3474 : Int) (x3475 : Int) (x3476 : List (Int × Int × Unit)) (x3601 : Int) (x3600 : List Int) := (link_loop (mk := fun (s : Int × (List Int)) => ⟨mkE 61 0 [(0, .ptr 0 0), (1, dI x3474), (2, dI x3475), (36, .dat (.list (.pair (.int .i64) (.pair (.int .i64) .unit))) x3476), (37, dI x3601), (38, dI s.1)], [some (.box [.dat (.list (.pair (.int .i64) (.pair (.int .i64) .unit))) x3476, .slc 1]), some (sI s.2)]⟩) (fin := (Sum.elim (fun (t : Bool × (List Int)) => (Exit.ret, ⟨mkE 61 0 [(6, dB t.1)], [some (.box [.dat (.list (.pair (.int .i64) (.pair (.int .i64) .unit))) x3476, .slc 1]), some (sI t.2)]⟩)) (fun (t : (List Int)) => ((Exit.exit 0), ⟨mkE 61 0 [], [some (.box [.dat (.list (.pair (.int .i64) (.pair (.int .i64) .unit))) x3476, .slc 1]), some (sI t)]⟩)))) (by
  rintro (t | t) f K h
  · exact h
  · exact h) (fun s => link_map (impl_drawing_draw_n3_l n x3474 x3475 x3476 x3601 s.1 s.2) (Sum.elim (fun (t : Int × (List Int)) => Sum.inl (t.1, t.2)) (Sum.elim (fun (t : Bool × (List Int)) => Sum.inr (Sum.inl t)) (fun (t : (List Int)) => Sum.inr (Sum.inr t)))) (by
  rintro (t | t | t)
  · kernel_rfl
  · kernel_rfl
  · kernel_rfl)) (0, x3600))

def impl_drawing_draw_n5_l (n : Nat) (x3474 : Int) (x3475 : Int) (x3476 : List (Int × Int × Unit)) (x3601 : Int) (x3600 : List Int) := (link_block (fin2 := (Sum.elim (fun (t : (List Int)) => (Exit.normal, ⟨mkE 61 0 [], [some (.box [.dat (.list (.pair (.int .i64) (.pair (.int .i64) .unit))) x3476, .slc 1]), some (sI t)]⟩)) (fun (t : Bool × (List Int)) => (Exit.ret, ⟨mkE 61 0 [(6, dB t.1)], [some (.box [.dat (.list (.pair (.int .i64) (.pair (.int .i64) .unit))) x3476, .slc 1]), some (sI t.2)]⟩)))) (id := 0) (impl_drawing_draw_n4_l n x3474 x3475 x3476 x3601 x3600) (Sum.elim (fun (t : Bool × (List Int)) => (Sum.inr t)) (fun (t : (List Int)) => (Sum.inl t))) (by
  rintro (t | t) K h
  · exact Eq.mp (by kernel_rfl) h
  · exact Eq.mp (by kernel_rfl) h))

def impl_drawing_draw_n6_l (n : Nat) (x3474 : Int) (x3475 : Int) (x3476 : List (Int × Int × Unit)) (x3600 : List Int) := (link_seq (impl_drawing_draw_n2_l n x3474 x3475 x3476 x3600) (fun (t : Int) => (impl_drawing_draw_n5_l n x3474 x3475 x3476 t x3600)))

theorem impl_drawing_draw_n7_l (n : Nat) (x3476 : List (Int × Int × Unit)) (x3643 : List Int) : Link (impl_drawing_draw_ctx n) LL (cq [1,1,1,1] (bodyOf Try.f71)) (aq [1,1,1,1] impl_drawing_draw_an) ⟨mkE 61 0 [], [some (.box [.dat (.list (.pair (.int .i64) (.pair (.int .i64) .unit))) x3476, .slc 1]), some (sI x3643)]⟩ (impl_drawing_draw_n7 (impl_drawing_draw_fuel n) x3643) (fun (t : Bool × (List Int)) => (Exit.ret, ⟨mkE 61 0 [(6, dB t.1)], [some (.box [.dat (.list (.pair (.int .i64) (.pair (.int .i64) .unit))) x3476, .slc 1]), some (sI t.2)]⟩)) := .of fun K h => by
  simp only [impl_drawing_draw_n7, wpW] at h
  exact .of (by kernel_rfl) h

def impl_drawing_draw_n8_l (n : Nat) (x3474 : Int) (x3475 : Int) (x3476 : List (Int × Int × Unit)) (x3600 : List Int) := (link_seq2 (impl_drawing_draw_n6_l n x3474 x3475 x3476 x3600) (fun (t : (List Int)) => (impl_drawing_draw_n7_l n x3476 t)) (fun (t : Bool × (List Int)) => t) (by
  rintro t
  · kernel_rfl) (by
  rintro t f K h
  · exact h))

def impl_drawing_draw_n9_l (n : Nat) (x3474 : Int) (x3475 : Int) (x3476 : List (Int × Int × Unit)) (x3477 : List Int) := (link_group (c := (cq [0,1,1] (bodyOf Try.f71))) (a := (aq [0,1,1] impl_drawing_draw_an)) [(cq [0] (bodyOf Try.f71)), (cq [0,1] (bodyOf Try.f71))] [(aq [0] impl_drawing_draw_an), (aq [0,1] impl_drawing_draw_an)] rfl (link_seq2 (impl_drawing_draw_n1_l n x3474 x3475 x3476 x3477) (fun (t : (List Int)) => (impl_drawing_draw_n8_l n x3474 x3475 x3476 t)) (fun (t : Bool × (List Int)) => t) (by
  rintro t
  · kernel_rfl) (by
  rintro t f K h
  · exact h)))

theorem impl_drawing_draw_e (n : Nat) (x3474 : Int) (x3475 : Int) (x3476 : List (Int × Int × Unit)) (x3477 : List Int) {r : AV} {H' : Heap} (h : (Ans.mk _ (impl_drawing_draw_fuel (n + 1) x3474 x3475 x3476 x3477) (fun (t : Bool × (List Int)) => (dB t.1, [some (.box [.dat (.list (.pair (.int .i64) (.pair (.int .i64) .unit))) x3476, .slc 1]), some (sI t.2)])) [] none).run = some (r, H')) : Awp (impl_drawing_draw_ctx n) LL (bodyOf Try.f71) impl_drawing_draw_an ⟨mkE 61 0 [(0, .ptr 0 0), (1, dI x3474), (2, dI x3475)], [some (.box [.dat (.list (.pair (.int .i64) (.pair (.int .i64) .unit))) x3476, .slc 1]), some (sI x3477)]⟩ (Ret (tlook tys) Try.f71.results.toList r H') :=
  ret_of' (Link.cast (by kernel_rfl) (by kernel_rfl) (impl_drawing_draw_n9_l n x3474 x3475 x3476 x3477)) (by (show _ = _); kernel_rfl) (by
  intro t
  exact ret_mk [dB t.1] (by kernel_rfl) (by kernel_rfl) (by kernel_rfl) (by kernel_rfl)) h

theorem impl_drawing_draw_step (n : Nat) (h71 : Sound Try.prog 71 (F_impl_drawing_draw_fuel n)) : Sound Try.prog 71 (F_impl_drawing_draw_fuel (n + 1)) := by
  refine fn_sound' (C := impl_drawing_draw_ctx n) (c := bodyOf Try.f71) (cok_of tys_ok (allc impl_arc_crosses_sound (allc impl_opposite_sound (allc h71 alln))) (allc Try.call48 (allc Try.call77 (allc Try.call71 alln))) (by kernel_rfl)) Try.func71 (by kernel_rfl) LL impl_drawing_draw_an ?_
  intro avs H r H' h
  unfold F_impl_drawing_draw_fuel at h
  split at h
  · refine Awp.cast ?_ ?_ ?_ (impl_drawing_draw_e n _ _ _ _ h) <;> kernel_rfl
  · simp [Ans.no, Ans.run] at h

theorem impl_drawing_draw_null : Sound Try.prog 71 (F_impl_drawing_draw_fuel 0) := by
  intro avs H r H' h
  unfold F_impl_drawing_draw_fuel at h
  split at h
  · simp [impl_drawing_draw_fuel, impl_drawing_draw_knot, Ans.run] at h
  · simp [Ans.no, Ans.run] at h

theorem impl_drawing_draw_knot_all : ∀ n, Sound Try.prog 71 (F_impl_drawing_draw_fuel n)
  | 0 => impl_drawing_draw_null
  | n + 1 => by
    have h71 := impl_drawing_draw_knot_all n
    exact impl_drawing_draw_step n h71

def F_impl_drawing_draw : Fun := fun avs H =>
  match avs, H with
  | [.ptr 0 0, .dat (.int .i64) x3474, .dat (.int .i64) x3475], [some (.box [.dat (.list (.pair (.int .i64) (.pair (.int .i64) .unit))) x3476, .slc 1]), some (.seq (.int .i64) x3477)] => ⟨_, impl_drawing_draw x3474 x3475 x3476 x3477, fun (t : Bool × (List Int)) => (dB t.1, [some (.box [.dat (.list (.pair (.int .i64) (.pair (.int .i64) .unit))) x3476, .slc 1]), some (sI t.2)]), [], none⟩
  | _, _ => Ans.no

theorem impl_drawing_draw_sound : Sound Try.prog 71 F_impl_drawing_draw := by
  have e : F_impl_drawing_draw = F_impl_drawing_draw_fuel RR := by
    funext avs H
    unfold F_impl_drawing_draw F_impl_drawing_draw_fuel
    split <;> first | rfl | (simp only [impl_drawing_draw])
  rw [e]
  exact (impl_drawing_draw_knot_all RR)


/-! (*loop.example/headtrees/impl.drawing).drawAll -/

def impl_drawing_drawAll_an : Ann := (.seq (.leaf [0]) (.seq (.seq (.leaf [0, 8, 9]) (.block (.loop (.seq (.leaf [0, 8, 9, 10]) (.seq (.cond (.leaf [0, 8, 9]) (.leaf [])) (.seq (.block (.seq (.leaf [0, 3, 8, 9]) (.seq (.leaf [0, 8, 9, 25]) (.cond (.seq (.leaf [2]) (.leaf [2])) (.leaf [0, 8, 9]))))) (.leaf [0, 8, 9]))))))) (.seq (.leaf [2]) (.leaf [2]))))

noncomputable def impl_drawing_drawAll_ctx : Ctx := ⟨tlook tys, olook [(71, F_impl_drawing_draw)], ioF, 2, false, []⟩

theorem impl_drawing_drawAll_n1_l (x3465 : List (Int × Int × Unit)) (x3466 : List Int) : Link impl_drawing_drawAll_ctx LL (cq [0] (bodyOf Try.f56)) (aq [0] impl_drawing_drawAll_an) ⟨mkE 27 0 [(0, .ptr 0 0)], [some (.box [.dat (.list (.pair (.int .i64) (.pair (.int .i64) .unit))) x3465, .slc 1]), some (sI x3466)]⟩ (impl_drawing_drawAll_n1) (fun (t : Unit) => (Exit.normal, ⟨mkE 27 0 [(0, .ptr 0 0)], [some (.box [.dat (.list (.pair (.int .i64) (.pair (.int .i64) .unit))) x3465, .slc 1]), some (sI x3466)]⟩)) := .of fun K h => by
  simp only [impl_drawing_drawAll_n1, wpW] at h
  exact .of (by kernel_rfl) h

theorem impl_drawing_drawAll_n2_l (x3465 : List (Int × Int × Unit)) (x3466 : List Int) : Link impl_drawing_drawAll_ctx LL (cq [0,0,1] (bodyOf Try.f56)) (aq [0,0,1] impl_drawing_drawAll_an) ⟨mkE 27 0 [(0, .ptr 0 0)], [some (.box [.dat (.list (.pair (.int .i64) (.pair (.int .i64) .unit))) x3465, .slc 1]), some (sI x3466)]⟩ (impl_drawing_drawAll_n2 x3465) (fun (t : Int) => (Exit.normal, ⟨mkE 27 0 [(0, .ptr 0 0), (8, dI t), (9, dI 0)], [some (.box [.dat (.list (.pair (.int .i64) (.pair (.int .i64) .unit))) x3465, .slc 1]), some (sI x3466)]⟩)) := .of fun K h => by
  simp only [impl_drawing_drawAll_n2, wpW] at h
  exact .of (by kernel_rfl) h

theorem impl_drawing_drawAll_n3_l (x3467 : Int) (x3702 : Int) (x3465 : List (Int × Int × Unit)) (x3703 : List Int) : Link impl_drawing_drawAll_ctx LL (cq [0,0,1,0,1] (bodyOf Try.f56)) (aq [0,0,1,0,1] impl_drawing_drawAll_an) ⟨mkE 27 0 [(0, .ptr 0 0), (8, dI x3467), (9, dI x3702)], [some (.box [.dat (.list (.pair (.int .i64) (.pair (.int .i64) .unit))) x3465, .slc 1]), some (sI x3703)]⟩ (impl_drawing_drawAll_n3 x3467 x3702 x3465 x3703) (Sum.elim (fun (t : Int × (List Int)) => (Exit.normal, ⟨mkE 27 0 [(0, .ptr 0 0), (8, dI x3467), (9, dI t.1)], [some (.box [.dat (.list (.pair (.int .i64) (.pair (.int .i64) .unit))) x3465, .slc 1]), some (sI t.2)]⟩)) (Sum.elim (fun (t : Bool × (List Int)) => (Exit.ret, ⟨mkE 27 0 [(2, dB t.1)], [some (.box [.dat (.list (.pair (.int .i64) (.pair (.int .i64) .unit))) x3465, .slc 1]), some (sI t.2)]⟩)) (fun (t : (List Int)) => ((Exit.exit 0), ⟨mkE 27 0 [], [some (.box [.dat (.list (.pair (.int .i64) (.pair (.int .i64) .unit))) x3465, .slc 1]), some (sI t)]⟩)))) := .of fun K h => by
  simp only [impl_drawing_drawAll_n3, wpW] at h
  exact .of (by kernel_rfl) h

def impl_drawing_drawAll_n4_l (x3467 : Int) (x3465 : List (Int × Int × Unit)) (x3466 : List Int) := (link_loop (mk := fun (s : Int × (List Int)) => ⟨mkE 27 0 [(0, .ptr 0 0), (8, dI x3467), (9, dI s.1)], [some (.box [.dat (.list (.pair (.int .i64) (.pair (.int .i64) .unit))) x3465, .slc 1]), some (sI s.2)]⟩) (fin := (Sum.elim (fun (t : Bool × (List Int)) => (Exit.ret, ⟨mkE 27 0 [(2, dB t.1)], [some (.box [.dat (.list (.pair (.int .i64) (.pair (.int .i64) .unit))) x3465, .slc 1]), some (sI t.2)]⟩)) (fun (t : (List Int)) => ((Exit.exit 0), ⟨mkE 27 0 [], [some (.box [.dat (.list (.pair (.int .i64) (.pair (.int .i64) .unit))) x3465, .slc 1]), some (sI t)]⟩)))) (by
  rintro (t | t) f K h
  · exact h
  · exact h) (fun s => link_map (impl_drawing_drawAll_n3_l x3467 s.1 x3465 s.2) (Sum.elim (fun (t : Int × (List Int)) => Sum.inl (t.1, t.2)) (Sum.elim (fun (t : Bool × (List Int)) => Sum.inr (Sum.inl t)) (fun (t : (List Int)) => Sum.inr (Sum.inr t)))) (by
  rintro (t | t | t)
  · kernel_rfl
  · kernel_rfl
  · kernel_rfl)) (0, x3466))

def impl_drawing_drawAll_n5_l (x3467 : Int) (x3465 : List (Int × Int × Unit)) (x3466 : List Int) := (link_block (fin2 := (Sum.elim (fun (t : (List Int)) => (Exit.normal, ⟨mkE 27 0 [], [some (.box [.dat (.list (.pair (.int .i64) (.pair (.int .i64) .unit))) x3465, .slc 1]), some (sI t)]⟩)) (fun (t : Bool × (List Int)) => (Exit.ret, ⟨mkE 27 0 [(2, dB t.1)], [some (.box [.dat (.list (.pair (.int .i64) (.pair (.int .i64) .unit))) x3465, .slc 1]), some (sI t.2)]⟩)))) (id := 0) (impl_drawing_drawAll_n4_l x3467 x3465 x3466) (Sum.elim (fun (t : Bool × (List Int)) => (Sum.inr t)) (fun (t : (List Int)) => (Sum.inl t))) (by
  rintro (t | t) K h
  · exact Eq.mp (by kernel_rfl) h
  · exact Eq.mp (by kernel_rfl) h))

def impl_drawing_drawAll_n6_l (x3465 : List (Int × Int × Unit)) (x3466 : List Int) := (link_seq (impl_drawing_drawAll_n2_l x3465 x3466) (fun (t : Int) => (impl_drawing_drawAll_n5_l t x3465 x3466)))

theorem impl_drawing_drawAll_n7_l (x3465 : List (Int × Int × Unit)) (x3703 : List Int) : Link impl_drawing_drawAll_ctx LL (cq [1,1] (bodyOf Try.f56)) (aq [1,1] impl_drawing_drawAll_an) ⟨mkE 27 0 [], [some (.box [.dat (.list (.pair (.int .i64) (.pair (.int .i64) .unit))) x3465, .slc 1]), some (sI x3703)]⟩ (impl_drawing_drawAll_n7 x3703) (fun (t : Bool × (List Int)) => (Exit.ret, ⟨mkE 27 0 [(2, dB t.1)], [some (.box [.dat (.list (.pair (.int .i64) (.pair (.int .i64) .unit))) x3465, .slc 1]), some (sI t.2)]⟩)) := .of fun K h => by
  simp only [impl_drawing_drawAll_n7, wpW] at h
  exact .of (by kernel_rfl) h

def impl_drawing_drawAll_n8_l (x3465 : List (Int × Int × Unit)) (x3466 : List Int) := (link_seq2 (impl_drawing_drawAll_n6_l x3465 x3466) (fun (t : (List Int)) => (impl_drawing_drawAll_n7_l x3465 t)) (fun (t : Bool × (List Int)) => t) (by
  rintro t
  · kernel_rfl) (by
  rintro t f K h
  · exact h))

def impl_drawing_drawAll_n9_l (x3465 : List (Int × Int × Unit)) (x3466 : List Int) := (link_seq (impl_drawing_drawAll_n1_l x3465 x3466) (fun (t : Unit) => (impl_drawing_drawAll_n8_l x3465 x3466)))

theorem impl_drawing_drawAll_e (x3465 : List (Int × Int × Unit)) (x3466 : List Int) {r : AV} {H' : Heap} (h : (Ans.mk _ (impl_drawing_drawAll x3465 x3466) (fun (t : Bool × (List Int)) => (dB t.1, [some (.box [.dat (.list (.pair (.int .i64) (.pair (.int .i64) .unit))) x3465, .slc 1]), some (sI t.2)])) [] none).run = some (r, H')) : Awp impl_drawing_drawAll_ctx LL (bodyOf Try.f56) impl_drawing_drawAll_an ⟨mkE 27 0 [(0, .ptr 0 0)], [some (.box [.dat (.list (.pair (.int .i64) (.pair (.int .i64) .unit))) x3465, .slc 1]), some (sI x3466)]⟩ (Ret (tlook tys) Try.f56.results.toList r H') :=
  ret_of' (Link.cast (by kernel_rfl) (by kernel_rfl) (impl_drawing_drawAll_n9_l x3465 x3466)) (by unfold impl_drawing_drawAll; kernel_rfl) (by
  intro t
  exact ret_mk [dB t.1] (by kernel_rfl) (by kernel_rfl) (by kernel_rfl) (by kernel_rfl)) h

def F_impl_drawing_drawAll : Fun := fun avs H =>
  match avs, H with
  | [.ptr 0 0], [some (.box [.dat (.list (.pair (.int .i64) (.pair (.int .i64) .unit))) x3465, .slc 1]), some (.seq (.int .i64) x3466)] => ⟨_, impl_drawing_drawAll x3465 x3466, fun (t : Bool × (List Int)) => (dB t.1, [some (.box [.dat (.list (.pair (.int .i64) (.pair (.int .i64) .unit))) x3465, .slc 1]), some (sI t.2)]), [], none⟩
  | _, _ => Ans.no

theorem impl_drawing_drawAll_sound : Sound Try.prog 56 F_impl_drawing_drawAll := by
  refine fn_sound' (C := impl_drawing_drawAll_ctx) (c := bodyOf Try.f56) (cok_of tys_ok (allc impl_drawing_draw_sound alln) (allc Try.call71 alln) (by kernel_rfl)) Try.func56 (by kernel_rfl) LL impl_drawing_drawAll_an ?_
  intro avs H r H' h
  unfold F_impl_drawing_drawAll at h
  split at h
  · refine Awp.cast ?_ ?_ ?_ (impl_drawing_drawAll_e _ _ h) <;> kernel_rfl
  · simp [Ans.no, Ans.run] at h


/-! loop.example/headtrees/impl.SidesFor -/

def impl_SidesFor_an : Ann := (.seq (.leaf [0]) (.seq (.seq (.leaf [0, 7]) (.cond (.seq (.leaf [2, 3]) (.leaf [2, 3])) (.leaf [0]))) (.seq (.leafF [⟨2, 9, false, none, none⟩] [4]) (.seq (.seq (.leaf [4, 13]) (.cond (.seq (.leaf [2, 3]) (.leaf [2, 3])) (.leaf [4]))) (.seq (.leaf [2, 3]) (.leaf [2, 3]))))))

noncomputable def impl_SidesFor_ctx : Ctx := ⟨tlook tys, olook [(16, F_impl_TreeOk), (40, F_impl_arcsOf), (55, F_impl_newDrawing), (56, F_impl_drawing_drawAll)], ioF, 0, false, []⟩

theorem impl_SidesFor_n1_l (x3276 : List Int) : Link impl_SidesFor_ctx LL (bodyOf Try.f29) impl_SidesFor_an ⟨mkE 18 0 [(0, dL x3276)], []⟩ (impl_SidesFor_n1 x3276) (fun (t : Bool × (List Int)) => (Exit.ret, ⟨mkE 18 0 [(2, .slc 0), (3, dB t.1)], [some (sI t.2)]⟩)) := .of fun K h => by
  simp only [impl_SidesFor_n1, wpW] at h
  exact .of (by kernel_rfl) h

theorem impl_SidesFor_e (x3276 : List Int) {r : AV} {H' : Heap} (h : (Ans.mk _ (impl_SidesFor x3276) (fun (t : Bool × (List Int)) => (.tup [.slc 0, dB t.1], [some (sI t.2)])) [] none).run = some (r, H')) : Awp impl_SidesFor_ctx LL (bodyOf Try.f29) impl_SidesFor_an ⟨mkE 18 0 [(0, dL x3276)], []⟩ (Ret (tlook tys) Try.f29.results.toList r H') :=
  ret_of' (impl_SidesFor_n1_l x3276) (by unfold impl_SidesFor; kernel_rfl) (by
  intro t
  exact ret_mk [.slc 0, dB t.1] (by kernel_rfl) (by kernel_rfl) (by kernel_rfl) (by kernel_rfl)) h

def F_impl_SidesFor : Fun := fun avs H =>
  match avs, H with
  | [.dat (.list (.int .i64)) x3276], [] => ⟨_, impl_SidesFor x3276, fun (t : Bool × (List Int)) => (.tup [.slc 0, dB t.1], [some (sI t.2)]), [], none⟩
  | _, _ => Ans.no

theorem impl_SidesFor_sound : Sound Try.prog 29 F_impl_SidesFor := by
  refine fn_sound' (C := impl_SidesFor_ctx) (c := bodyOf Try.f29) (cok_of tys_ok (allc impl_TreeOk_sound (allc impl_arcsOf_sound (allc impl_newDrawing_sound (allc impl_drawing_drawAll_sound alln)))) (allc Try.call16 (allc Try.call40 (allc Try.call55 (allc Try.call56 alln)))) (by kernel_rfl)) Try.func29 (by kernel_rfl) LL impl_SidesFor_an ?_
  intro avs H r H' h
  unfold F_impl_SidesFor at h
  split at h
  · refine Awp.cast ?_ ?_ ?_ (impl_SidesFor_e _ h) <;> kernel_rfl
  · simp [Ans.no, Ans.run] at h


/-! loop.example/headtrees/spec.l3Arcs -/

def spec_l3Arcs_an : Ann := (.seq (.leaf [0]) (.seq (.leaf [0, 3]) (.seq (.seq (.leaf [0, 3, 4]) (.block (.loop (.seq (.seq (.leaf [0, 3, 4, 9]) (.cond (.leaf [0, 3, 4]) (.leaf [3]))) (.seq (.block (.seq (.leaf [0, 3, 4, 16]) (.cond (.draw [15] [0, 1, 2, 3, 4, 5, 6, 7, 8, 9, 10, 11, 12, 13, 14, 15, 16, 17, 18] [] [0, 3, 4]) (.leaf [0, 3, 4])))) (.leaf [0, 3, 4])))))) (.seq (.leaf [2]) (.leaf [2])))))

noncomputable def spec_l3Arcs_ctx : Ctx := ⟨tlook tys, olook [], ioF, 0, false, []⟩

theorem spec_l3Arcs_n1_l (x3764 : List Int) : Link spec_l3Arcs_ctx LL (Code.seq (cq [0] (bodyOf Try.f58)) (cq [0,1] (bodyOf Try.f58))) (Ann.seq (aq [0] spec_l3Arcs_an) (aq [0,1] spec_l3Arcs_an)) ⟨mkE 36 0 [(0, dL x3764)], []⟩ (spec_l3Arcs_n1) (fun (t : Unit) => (Exit.normal, ⟨mkE 36 0 [(0, dL x3764), (3, .slc 0)], [some (.seq (.list (.int .i64)) ([] : List (List Int)))]⟩)) := .of fun K h => by
  simp only [spec_l3Arcs_n1, wpW] at h
  exact .of (by kernel_rfl) h

theorem spec_l3Arcs_n2_l (x3764 : List Int) : Link spec_l3Arcs_ctx LL (cq [0,0,1,1] (bodyOf Try.f58)) (aq [0,0,1,1] spec_l3Arcs_an) ⟨mkE 36 0 [(0, dL x3764), (3, .slc 0)], [some (.seq (.list (.int .i64)) ([] : List (List Int)))]⟩ (spec_l3Arcs_n2) (fun (t : Unit) => (Exit.normal, ⟨mkE 36 0 [(0, dL x3764), (3, .slc 0), (4, dI 0)], [some (.seq (.list (.int .i64)) ([] : List (List Int)))]⟩)) := .of fun K h => by
  simp only [spec_l3Arcs_n2, wpW] at h
  exact .of (by kernel_rfl) h

theorem spec_l3Arcs_n3_l (x3764 : List Int) (x3815 : Int) (x3816 : List (List Int)) : Link spec_l3Arcs_ctx LL (cq [0,0,1,0,1,1] (bodyOf Try.f58)) (aq [0,0,1,0,1,1] spec_l3Arcs_an) ⟨mkE 36 0 [(0, dL x3764), (3, .slc 0), (4, dI x3815)], [some (.seq (.list (.int .i64)) x3816)]⟩ (spec_l3Arcs_n3 x3764 x3815 x3816) (Sum.elim (fun (t : Int × (List (List Int))) => (Exit.normal, ⟨mkE 36 0 [(0, dL x3764), (3, .slc 0), (4, dI t.1)], [some (.seq (.list (.int .i64)) t.2)]⟩)) (fun (t : (List (List Int))) => ((Exit.exit 0), ⟨mkE 36 0 [(3, .slc 0)], [some (.seq (.list (.int .i64)) t)]⟩))) := .of fun K h => by
  simp only [spec_l3Arcs_n3, wpW] at h
  exact .of (by kernel_rfl) h

def spec_l3Arcs_n4_l (x3764 : List Int) := (link_loop (mk := fun (s : Int × (List (List Int))) => ⟨mkE 36 0 [(0, dL x3764), (3, .slc 0), (4, dI s.1)], [some (.seq (.list (.int .i64)) s.2)]⟩) (fin := (fun (t : (List (List Int))) => ((Exit.exit 0), ⟨mkE 36 0 [(3, .slc 0)], [some (.seq (.list (.int .i64)) t)]⟩))) (by
  rintro t f K h
  · exact h) (fun s => link_map (spec_l3Arcs_n3_l x3764 s.1 s.2) (Sum.elim (fun (t : Int × (List (List Int))) => Sum.inl (t.1, t.2)) (fun (t : (List (List Int))) => Sum.inr t)) (by
  rintro (t | t)
  · kernel_rfl
  · kernel_rfl)) (0, ([] : List (List Int))))

def spec_l3Arcs_n5_l (x3764 : List Int) := (link_block (fin2 := (fun (t : (List (List Int))) => (Exit.normal, ⟨mkE 36 0 [(3, .slc 0)], [some (.seq (.list (.int .i64)) t)]⟩))) (id := 0) (spec_l3Arcs_n4_l x3764) (fun (t : (List (List Int))) => t) (by
  rintro t K h
  · exact Eq.mp (by kernel_rfl) h))

def spec_l3Arcs_n6_l (x3764 : List Int) := (link_seq (spec_l3Arcs_n2_l x3764) (fun (t : Unit) => (spec_l3Arcs_n5_l x3764)))

theorem spec_l3Arcs_n7_l (x3816 : List (List Int)) : Link spec_l3Arcs_ctx LL (cq [1,1,1] (bodyOf Try.f58)) (aq [1,1,1] spec_l3Arcs_an) ⟨mkE 36 0 [(3, .slc 0)], [some (.seq (.list (.int .i64)) x3816)]⟩ (spec_l3Arcs_n7 x3816) (fun (t : (List (List Int))) => (Exit.ret, ⟨mkE 36 0 [(2, .slc 0)], [some (.seq (.list (.int .i64)) t)]⟩)) := .of fun K h => by
  simp only [spec_l3Arcs_n7, wpW] at h
  exact .of (by kernel_rfl) h

def spec_l3Arcs_n8_l (x3764 : List Int) := (link_seq (spec_l3Arcs_n6_l x3764) (fun (t : (List (List Int))) => (spec_l3Arcs_n7_l t)))

def spec_l3Arcs_n9_l (x3764 : List Int) := (link_group (c := (cq [0,1] (bodyOf Try.f58))) (a := (aq [0,1] spec_l3Arcs_an)) [(cq [0] (bodyOf Try.f58))] [(aq [0] spec_l3Arcs_an)] rfl (link_seq (spec_l3Arcs_n1_l x3764) (fun (t : Unit) => (spec_l3Arcs_n8_l x3764))))

theorem spec_l3Arcs_e (x3764 : List Int) {r : AV} {H' : Heap} (h : (Ans.mk _ (spec_l3Arcs x3764) (fun (t : (List (List Int))) => (.slc 0, [some (.seq (.list (.int .i64)) t)])) [] none).run = some (r, H')) : Awp spec_l3Arcs_ctx LL (bodyOf Try.f58) spec_l3Arcs_an ⟨mkE 36 0 [(0, dL x3764)], []⟩ (Ret (tlook tys) Try.f58.results.toList r H') :=
  ret_of' (Link.cast (by kernel_rfl) (by kernel_rfl) (spec_l3Arcs_n9_l x3764)) (by unfold spec_l3Arcs; kernel_rfl) (by
  intro t
  exact ret_mk [.slc 0] (by kernel_rfl) (by kernel_rfl) (by kernel_rfl) (by kernel_rfl)) h

def F_spec_l3Arcs : Fun := fun avs H =>
  match avs, H with
  | [.dat (.list (.int .i64)) x3764], [] => ⟨_, spec_l3Arcs x3764, fun (t : (List (List Int))) => (.slc 0, [some (.seq (.list (.int .i64)) t)]), [], none⟩
  | _, _ => Ans.no

theorem spec_l3Arcs_sound : Sound Try.prog 58 F_spec_l3Arcs := by
  refine fn_sound' (C := spec_l3Arcs_ctx) (c := bodyOf Try.f58) (cok_of tys_ok (alln) (alln) (by kernel_rfl)) Try.func58 (by kernel_rfl) LL spec_l3Arcs_an ?_
  intro avs H r H' h
  unfold F_spec_l3Arcs at h
  split at h
  · refine Awp.cast ?_ ?_ ?_ (spec_l3Arcs_e _ h) <;> kernel_rfl
  · simp [Ans.no, Ans.run] at h


/-! loop.example/headtrees/spec.CrossOk -/

def spec_CrossOk_an : Ann := (.seq (.leaf [0, 1, 2, 3]) (.seq (.seq (.leaf [0, 1, 2, 3, 36]) (.cond (.seq (.leaf [8]) (.leaf [8])) (.leaf [0, 1, 2, 3]))) (.seq (.leaf [0, 1, 2, 3, 9]) (.seq (.leaf [2, 3, 9, 10]) (.seq (.leaf [2, 3, 9, 10, 11]) (.seq (.leaf [9, 10, 11, 12]) (.seq (.leaf [8]) (.leaf [8]))))))))

noncomputable def spec_CrossOk_ctx : Ctx := ⟨tlook tys, olook [], ioF, 0, false, []⟩

theorem spec_CrossOk_n1_l (x3929 : Int) (x3930 : Int) (x3931 : Int) (x3932 : Int) : Link spec_CrossOk_ctx LL (Code.seq (cq [0] (bodyOf Try.f72)) (Code.seq (cq [0,1] (bodyOf Try.f72)) (Code.seq (cq [0,1,1] (bodyOf Try.f72)) (Code.seq (cq [0,1,1,1] (bodyOf Try.f72)) (Code.seq (cq [0,1,1,1,1] (bodyOf Try.f72)) (cq [0,1,1,1,1,1] (bodyOf Try.f72))))))) (Ann.seq (aq [0] spec_CrossOk_an) (Ann.seq (aq [0,1] spec_CrossOk_an) (Ann.seq (aq [0,1,1] spec_CrossOk_an) (Ann.seq (aq [0,1,1,1] spec_CrossOk_an) (Ann.seq (aq [0,1,1,1,1] spec_CrossOk_an) (aq [0,1,1,1,1,1] spec_CrossOk_an)))))) ⟨mkE 77 0 [(0, dI x3929), (1, dI x3930), (2, dI x3931), (3, dI x3932)], []⟩ (spec_CrossOk_n1 x3929 x3930 x3931 x3932) (Sum.elim (fun (t : Int × Int × Int × Int) => (Exit.normal, ⟨mkE 77 0 [(9, dI t.1), (10, dI t.2.1), (11, dI t.2.2.1), (12, dI t.2.2.2)], []⟩)) (fun (t : Bool) => (Exit.ret, ⟨mkE 77 0 [(8, dB t)], []⟩))) := .of fun K h => by
  simp only [spec_CrossOk_n1, wpW] at h
  exact .of (by kernel_rfl) h

theorem spec_CrossOk_n2_l (x3969 : Int) (x3970 : Int) (x3971 : Int) (x3972 : Int) : Link spec_CrossOk_ctx LL (cq [1,1,1,1,1,1] (bodyOf Try.f72)) (aq [1,1,1,1,1,1] spec_CrossOk_an) ⟨mkE 77 0 [(9, dI x3969), (10, dI x3970), (11, dI x3971), (12, dI x3972)], []⟩ (spec_CrossOk_n2 x3969 x3970 x3971 x3972) (fun (t : Bool) => (Exit.ret, ⟨mkE 77 0 [(8, dB t)], []⟩)) := .of fun K h => by
  simp only [spec_CrossOk_n2, wpW] at h
  exact .of (by kernel_rfl) h

def spec_CrossOk_n3_l (x3929 : Int) (x3930 : Int) (x3931 : Int) (x3932 : Int) := (link_group (c := (cq [0,1,1,1,1,1] (bodyOf Try.f72))) (a := (aq [0,1,1,1,1,1] spec_CrossOk_an)) [(cq [0] (bodyOf Try.f72)), (cq [0,1] (bodyOf Try.f72)), (cq [0,1,1] (bodyOf Try.f72)), (cq [0,1,1,1] (bodyOf Try.f72)), (cq [0,1,1,1,1] (bodyOf Try.f72))] [(aq [0] spec_CrossOk_an), (aq [0,1] spec_CrossOk_an), (aq [0,1,1] spec_CrossOk_an), (aq [0,1,1,1] spec_CrossOk_an), (aq [0,1,1,1,1] spec_CrossOk_an)] rfl (link_seq2 (spec_CrossOk_n1_l x3929 x3930 x3931 x3932) (fun (t : Int × Int × Int × Int) => (spec_CrossOk_n2_l t.1 t.2.1 t.2.2.1 t.2.2.2)) (fun (t : Bool) => t) (by
  rintro t
  · kernel_rfl) (by
  rintro t f K h
  · exact h)))

theorem spec_CrossOk_e (x3929 : Int) (x3930 : Int) (x3931 : Int) (x3932 : Int) {r : AV} {H' : Heap} (h : (Ans.mk _ (spec_CrossOk x3929 x3930 x3931 x3932) (fun (t : Bool) => (dB t, [])) [] none).run = some (r, H')) : Awp spec_CrossOk_ctx LL (bodyOf Try.f72) spec_CrossOk_an ⟨mkE 77 0 [(0, dI x3929), (1, dI x3930), (2, dI x3931), (3, dI x3932)], []⟩ (Ret (tlook tys) Try.f72.results.toList r H') :=
  ret_of' (Link.cast (by kernel_rfl) (by kernel_rfl) (spec_CrossOk_n3_l x3929 x3930 x3931 x3932)) (by unfold spec_CrossOk; kernel_rfl) (by
  intro t
  exact ret_mk [dB t] (by kernel_rfl) (by kernel_rfl) (by kernel_rfl) (by kernel_rfl)) h

def F_spec_CrossOk : Fun := fun avs H =>
  match avs, H with
  | [.dat (.int .i64) x3929, .dat (.int .i64) x3930, .dat (.int .i64) x3931, .dat (.int .i64) x3932], [] => ⟨_, spec_CrossOk x3929 x3930 x3931 x3932, fun (t : Bool) => (dB t, []), [], none⟩
  | _, _ => Ans.no

theorem spec_CrossOk_sound : Sound Try.prog 72 F_spec_CrossOk := by
  refine fn_sound' (C := spec_CrossOk_ctx) (c := bodyOf Try.f72) (cok_of tys_ok (alln) (alln) (by kernel_rfl)) Try.func72 (by kernel_rfl) LL spec_CrossOk_an ?_
  intro avs H r H' h
  unfold F_spec_CrossOk at h
  split at h
  · refine Awp.cast ?_ ?_ ?_ (spec_CrossOk_e _ _ _ _ h) <;> kernel_rfl
  · simp [Ans.no, Ans.run] at h


/-! loop.example/headtrees/spec.l11Sides -/

def spec_l11Sides_an : Ann := (.seq (.leaf [0]) (.seq (.leaf [0, 4]) (.seq (.seq (.leaf [0, 4, 5]) (.block (.loop (.seq (.seq (.leaf [0, 4, 5, 14]) (.cond (.leaf [0, 4, 5]) (.leaf [0, 4]))) (.seq (.block (.leaf [0, 4, 5])) (.leaf [0, 4, 5])))))) (.seq (.seq (.leaf [0, 4, 6]) (.block (.loop (.seq (.seq (.leaf [0, 4, 6, 23]) (.cond (.leaf [0, 4, 6]) (.leaf [4]))) (.seq (.block (.seq (.seq (.leaf [0, 4, 6, 30]) (.cond (.leaf [0, 4, 6]) (.leaf [0, 4, 6]))) (.seq (.leaf [0, 4, 6]) (.seq (.leafF [⟨3, 7, true, none, none⟩] [0, 4, 6, 7]) (.block (.loop (.seq (.seq (.leaf [0, 4, 6, 7, 38]) (.cond (.leaf [0, 4, 6, 7]) (.leaf [0, 4, 6]))) (.block (.seq (.leaf [0, 4, 6, 7, 8]) (.seq (.leaf [0, 4, 6, 7, 8]) (.seq (.leaf [0, 4, 6, 7, 8, 9]) (.block (.loop (.seq (.seq (.leaf [0, 4, 6, 7, 8, 9, 47]) (.cond (.leaf [0, 4, 6, 7, 8, 9]) (.leaf [0, 4, 6, 7]))) (.seq (.block (.seq (.seq (.draw [24] [0, 1, 2, 3, 4, 5, 6, 7, 8, 9, 10, 11, 12, 13, 14, 15, 16, 17, 18, 19, 20, 21, 22, 23, 24, 25] [] [0, 4, 6, 7, 8, 9, 75]) (.cond (.leaf [0, 4, 6, 7, 8, 9]) (.leaf [0, 4, 6, 7, 8, 9]))) (.seq (.seq (.draw [] [0, 1, 2, 3, 4, 5, 6, 7, 8] [] [0, 4, 6, 7, 8, 9, 84]) (.cond (.seq (.leaf [2, 3]) (.leaf [2, 3])) (.leaf [0, 4, 6, 7, 8, 9]))) (.seq (.leaf [0, 4, 6, 7, 8, 9, 90]) (.cond (.seq (.leaf [0, 4, 6, 7, 8, 9]) (.leaf [0, 4, 6, 7, 8, 9])) (.leaf [0, 4, 6, 7, 8, 9])))))) (.leafF [⟨3, 7, true, none, none⟩] [0, 4, 6, 7, 8, 9])))))))))))))))) (.leaf [0, 4, 6])))))) (.seq (.leaf [2, 3]) (.leaf [2, 3]))))))

noncomputable def spec_l11Sides_ctx : Ctx := ⟨tlook tys, olook [(72, F_spec_CrossOk)], ioF, 0, false, []⟩

theorem spec_l11Sides_n1_l (x3854 : List (List Int)) : Link spec_l11Sides_ctx LL (Code.seq (cq [0] (bodyOf Try.f57)) (cq [0,1] (bodyOf Try.f57))) (Ann.seq (aq [0] spec_l11Sides_an) (aq [0,1] spec_l11Sides_an)) ⟨mkE 104 0 [(0, .dat (.list (.list (.int .i64))) x3854)], []⟩ (spec_l11Sides_n1) (fun (t : Unit) => (Exit.normal, ⟨mkE 104 0 [(0, .dat (.list (.list (.int .i64))) x3854), (4, .slc 0)], [some (sI ([] : List Int))]⟩)) := .of fun K h => by
  simp only [spec_l11Sides_n1, wpW] at h
  exact .of (by kernel_rfl) h

theorem spec_l11Sides_n2_l (x3854 : List (List Int)) : Link spec_l11Sides_ctx LL (cq [0,0,1,1] (bodyOf Try.f57)) (aq [0,0,1,1] spec_l11Sides_an) ⟨mkE 104 0 [(0, .dat (.list (.list (.int .i64))) x3854), (4, .slc 0)], [some (sI ([] : List Int))]⟩ (spec_l11Sides_n2) (fun (t : Unit) => (Exit.normal, ⟨mkE 104 0 [(0, .dat (.list (.list (.int .i64))) x3854), (4, .slc 0), (5, dI 0)], [some (sI ([] : List Int))]⟩)) := .of fun K h => by
  simp only [spec_l11Sides_n2, wpW] at h
  exact .of (by kernel_rfl) h

theorem spec_l11Sides_n3_l (x3854 : List (List Int)) (x4291 : Int) (x4292 : List Int) : Link spec_l11Sides_ctx LL (cq [0,0,1,0,1,1] (bodyOf Try.f57)) (aq [0,0,1,0,1,1] spec_l11Sides_an) ⟨mkE 104 0 [(0, .dat (.list (.list (.int .i64))) x3854), (4, .slc 0), (5, dI x4291)], [some (sI x4292)]⟩ (spec_l11Sides_n3 x3854 x4291 x4292) (Sum.elim (fun (t : Int × (List Int)) => (Exit.normal, ⟨mkE 104 0 [(0, .dat (.list (.list (.int .i64))) x3854), (4, .slc 0), (5, dI t.1)], [some (sI t.2)]⟩)) (fun (t : (List Int)) => ((Exit.exit 0), ⟨mkE 104 0 [(0, .dat (.list (.list (.int .i64))) x3854), (4, .slc 0)], [some (sI t)]⟩))) := .of fun K h => by
  simp only [spec_l11Sides_n3, wpW] at h
  exact .of (by kernel_rfl) h

def spec_l11Sides_n4_l (x3854 : List (List Int)) := (link_loop (mk := fun (s : Int × (List Int)) => ⟨mkE 104 0 [(0, .dat (.list (.list (.int .i64))) x3854), (4, .slc 0), (5, dI s.1)], [some (sI s.2)]⟩) (fin := (fun (t : (List Int)) => ((Exit.exit 0), ⟨mkE 104 0 [(0, .dat (.list (.list (.int .i64))) x3854), (4, .slc 0)], [some (sI t)]⟩))) (by
  rintro t f K h
  · exact h) (fun s => link_map (spec_l11Sides_n3_l x3854 s.1 s.2) (Sum.elim (fun (t : Int × (List Int)) => Sum.inl (t.1, t.2)) (fun (t : (List Int)) => Sum.inr t)) (by
  rintro (t | t)
  · kernel_rfl
  · kernel_rfl)) (0, ([] : List Int)))

def spec_l11Sides_n5_l (x3854 : List (List Int)) := (link_block (fin2 := (fun (t : (List Int)) => (Exit.normal, ⟨mkE 104 0 [(0, .dat (.list (.list (.int .i64))) x3854), (4, .slc 0)], [some (sI t)]⟩))) (id := 0) (spec_l11Sides_n4_l x3854) (fun (t : (List Int)) => t) (by
  rintro t K h
  · exact Eq.mp (by kernel_rfl) h))

def spec_l11Sides_n6_l (x3854 : List (List Int)) := (link_seq (spec_l11Sides_n2_l x3854) (fun (t : Unit) => (spec_l11Sides_n5_l x3854)))

theorem spec_l11Sides_n7_l (x3854 : List (List Int)) (x4292 : List Int) : Link spec_l11Sides_ctx LL (cq [0,0,1,1,1] (bodyOf Try.f57)) (aq [0,0,1,1,1] spec_l11Sides_an) ⟨mkE 104 0 [(0, .dat (.list (.list (.int .i64))) x3854), (4, .slc 0)], [some (sI x4292)]⟩ (spec_l11Sides_n7) (fun (t : Unit) => (Exit.normal, ⟨mkE 104 0 [(0, .dat (.list (.list (.int .i64))) x3854), (4, .slc 0), (6, dI 0)], [some (sI x4292)]⟩)) := .of fun K h => by
  simp only [spec_l11Sides_n7, wpW] at h
  exact .of (by kernel_rfl) h

theorem spec_l11Sides_n8_l (x3854 : List (List Int)) (x4651 : Int) (x4652 : List Int) : Link spec_l11Sides_ctx LL (cq [0,0,0,1,0,1,1,1] (bodyOf Try.f57)) (aq [0,0,0,1,0,1,1,1] spec_l11Sides_an) ⟨mkE 104 0 [(0, .dat (.list (.list (.int .i64))) x3854), (4, .slc 0), (6, dI x4651)], [some (sI x4652)]⟩ (spec_l11Sides_n8 x3854 x4651 x4652) (Sum.elim (fun (t : Unit) => (Exit.normal, ⟨mkE 104 0 [(0, .dat (.list (.list (.int .i64))) x3854), (4, .slc 0), (6, dI x4651)], [some (sI x4652)]⟩)) (fun (t : (List Int)) => ((Exit.exit 2), ⟨mkE 104 0 [(4, .slc 0)], [some (sI t)]⟩))) := .of fun K h => by
  simp only [spec_l11Sides_n8, wpW] at h
  exact .of (by kernel_rfl) h

theorem spec_l11Sides_n9_l (x3854 : List (List Int)) (x4651 : Int) (x4652 : List Int) : Link spec_l11Sides_ctx LL (Code.seq (cq [0,0,0,1,0,0,1,0,1,1,1] (bodyOf Try.f57)) (Code.seq (cq [0,1,0,0,1,0,0,1,0,1,1,1] (bodyOf Try.f57)) (cq [0,1,1,0,0,1,0,0,1,0,1,1,1] (bodyOf Try.f57)))) (Ann.seq (aq [0,0,0,1,0,0,1,0,1,1,1] spec_l11Sides_an) (Ann.seq (aq [0,1,0,0,1,0,0,1,0,1,1,1] spec_l11Sides_an) (aq [0,1,1,0,0,1,0,0,1,0,1,1,1] spec_l11Sides_an))) ⟨mkE 104 0 [(0, .dat (.list (.list (.int .i64))) x3854), (4, .slc 0), (6, dI x4651)], [some (sI x4652)]⟩ (spec_l11Sides_n9 x4651 x4652) (Sum.elim (fun (t : Nat × (List Int) × (List Int)) => (Exit.normal, ⟨mkE 104 0 [(0, .dat (.list (.list (.int .i64))) x3854), (4, .slc 0), (6, dI x4651), (7, .win 1 0 t.1)], [some (sI t.2.1), some (sI t.2.2)]⟩)) (fun (t : Unit) => ((Exit.exit 3), ⟨mkE 104 0 [(0, .dat (.list (.list (.int .i64))) x3854), (4, .slc 0), (6, dI x4651)], [some (sI x4652)]⟩))) := .of fun K h => by
  simp only [spec_l11Sides_n9, wpW] at h
  exact .of (by kernel_rfl) h

theorem spec_l11Sides_n10_l (x3854 : List (List Int)) (x4651 : Int) (x4830 : Nat) (x4831 : Nat) (x4832 : List Int) (x4833 : List Int) : Link spec_l11Sides_ctx LL (cq [0,0,0,1,1,1,0,0,1,0,0,1,0,1,1,1] (bodyOf Try.f57)) (aq [0,0,0,1,1,1,0,0,1,0,0,1,0,1,1,1] spec_l11Sides_an) ⟨mkE 104 0 [(0, .dat (.list (.list (.int .i64))) x3854), (4, .slc 0), (6, dI x4651), (7, .win 1 x4830 x4831)], [some (sI x4832), some (sI x4833)]⟩ (spec_l11Sides_n10 x4831 x4832) (Sum.elim (fun (t : Unit) => (Exit.normal, ⟨mkE 104 0 [(0, .dat (.list (.list (.int .i64))) x3854), (4, .slc 0), (6, dI x4651), (7, .win 1 x4830 x4831)], [some (sI x4832), some (sI x4833)]⟩)) (fun (t : (List Int)) => ((Exit.exit 4), ⟨mkE 104 0 [(0, .dat (.list (.list (.int .i64))) x3854), (4, .slc 0), (6, dI x4651)], [some (sI t)]⟩))) := .of fun K h => by
  simp only [spec_l11Sides_n10, wpW] at h
  exact .of (by kernel_rfl) h

theorem spec_l11Sides_n11_l (x3854 : List (List Int)) (x4651 : Int) (x4830 : Nat) (x4831 : Nat) (x4832 : List Int) (x4833 : List Int) : Link spec_l11Sides_ctx LL (Code.seq (cq [0,0,1,0,0,1,1,1,0,0,1,0,0,1,0,1,1,1] (bodyOf Try.f57)) (Code.seq (cq [0,1,0,1,0,0,1,1,1,0,0,1,0,0,1,0,1,1,1] (bodyOf Try.f57)) (cq [0,1,1,0,1,0,0,1,1,1,0,0,1,0,0,1,0,1,1,1] (bodyOf Try.f57)))) (Ann.seq (aq [0,0,1,0,0,1,1,1,0,0,1,0,0,1,0,1,1,1] spec_l11Sides_an) (Ann.seq (aq [0,1,0,1,0,0,1,1,1,0,0,1,0,0,1,0,1,1,1] spec_l11Sides_an) (aq [0,1,1,0,1,0,0,1,1,1,0,0,1,0,0,1,0,1,1,1] spec_l11Sides_an))) ⟨mkE 104 0 [(0, .dat (.list (.list (.int .i64))) x3854), (4, .slc 0), (6, dI x4651), (7, .win 1 x4830 x4831)], [some (sI x4832), some (sI x4833)]⟩ (spec_l11Sides_n11 x4830 x4831 x4833) (fun (t : Nat × Nat × Int) => (Exit.normal, ⟨mkE 104 0 [(0, .dat (.list (.list (.int .i64))) x3854), (4, .slc 0), (6, dI x4651), (7, .win 1 t.1 t.2.1), (8, dI t.2.2), (9, dI 0)], [some (sI x4832), some (sI x4833)]⟩)) := .of fun K h => by
  simp only [spec_l11Sides_n11, wpW] at h
  exact .of (by kernel_rfl) h

theorem spec_l11Sides_n12_l (x3854 : List (List Int)) (x4651 : Int) (x4920 : Nat) (x4921 : Nat) (x4847 : Int) (x4922 : Int) (x4923 : List Int) (x4924 : List Int) : Link spec_l11Sides_ctx LL (cq [0,0,1,1,1,0,1,0,0,1,1,1,0,0,1,0,0,1,0,1,1,1] (bodyOf Try.f57)) (aq [0,0,1,1,1,0,1,0,0,1,1,1,0,0,1,0,0,1,0,1,1,1] spec_l11Sides_an) ⟨mkE 104 0 [(0, .dat (.list (.list (.int .i64))) x3854), (4, .slc 0), (6, dI x4651), (7, .win 1 x4920 x4921), (8, dI x4847), (9, dI x4922)], [some (sI x4923), some (sI x4924)]⟩ (spec_l11Sides_n12 x3854 x4920 x4921 x4847 x4922 x4923 x4924) (Sum.elim (fun (t : Nat × Nat × Int × (List Int) × (List Int)) => (Exit.normal, ⟨mkE 104 0 [(0, .dat (.list (.list (.int .i64))) x3854), (4, .slc 0), (6, dI x4651), (7, .win 1 t.1 t.2.1), (8, dI x4847), (9, dI t.2.2.1)], [some (sI t.2.2.2.1), some (sI t.2.2.2.2)]⟩)) (Sum.elim (fun (t : Bool × (List Int)) => (Exit.ret, ⟨mkE 104 0 [(2, .slc 0), (3, dB t.1)], [some (sI t.2)]⟩)) (fun (t : Nat × Nat × (List Int) × (List Int)) => ((Exit.exit 6), ⟨mkE 104 0 [(0, .dat (.list (.list (.int .i64))) x3854), (4, .slc 0), (6, dI x4651), (7, .win 1 t.1 t.2.1)], [some (sI t.2.2.1), some (sI t.2.2.2)]⟩)))) := .of fun K h => by
  simp only [spec_l11Sides_n12, wpW] at h
  exact .of (by kernel_rfl) h

def spec_l11Sides_n13_l (x3854 : List (List Int)) (x4651 : Int) (x4849 : Nat) (x4850 : Nat) (x4847 : Int) (x4832 : List Int) (x4833 : List Int) := (link_loop (mk := fun (s : Nat × Nat × Int × (List Int) × (List Int)) => ⟨mkE 104 0 [(0, .dat (.list (.list (.int .i64))) x3854), (4, .slc 0), (6, dI x4651), (7, .win 1 s.1 s.2.1), (8, dI x4847), (9, dI s.2.2.1)], [some (sI s.2.2.2.1), some (sI s.2.2.2.2)]⟩) (fin := (Sum.elim (fun (t : Bool × (List Int)) => (Exit.ret, ⟨mkE 104 0 [(2, .slc 0), (3, dB t.1)], [some (sI t.2)]⟩)) (fun (t : Nat × Nat × (List Int) × (List Int)) => ((Exit.exit 6), ⟨mkE 104 0 [(0, .dat (.list (.list (.int .i64))) x3854), (4, .slc 0), (6, dI x4651), (7, .win 1 t.1 t.2.1)], [some (sI t.2.2.1), some (sI t.2.2.2)]⟩)))) (by
  rintro (t | t) f K h
  · exact h
  · exact h) (fun s => link_map (spec_l11Sides_n12_l x3854 x4651 s.1 s.2.1 x4847 s.2.2.1 s.2.2.2.1 s.2.2.2.2) (Sum.elim (fun (t : Nat × Nat × Int × (List Int) × (List Int)) => Sum.inl (t.1, t.2.1, t.2.2.1, t.2.2.2.1, t.2.2.2.2)) (Sum.elim (fun (t : Bool × (List Int)) => Sum.inr (Sum.inl t)) (fun (t : Nat × Nat × (List Int) × (List Int)) => Sum.inr (Sum.inr t)))) (by
  rintro (t | t | t)
  · kernel_rfl
  · kernel_rfl
  · kernel_rfl)) (x4849, x4850, 0, x4832, x4833))

def spec_l11Sides_n14_l (x3854 : List (List Int)) (x4651 : Int) (x4849 : Nat) (x4850 : Nat) (x4847 : Int) (x4832 : List Int) (x4833 : List Int) := (link_block (fin2 := (Sum.elim (fun (t : Nat × Nat × (List Int) × (List Int)) => (Exit.normal, ⟨mkE 104 0 [(0, .dat (.list (.list (.int .i64))) x3854), (4, .slc 0), (6, dI x4651), (7, .win 1 t.1 t.2.1)], [some (sI t.2.2.1), some (sI t.2.2.2)]⟩)) (fun (t : Bool × (List Int)) => (Exit.ret, ⟨mkE 104 0 [(2, .slc 0), (3, dB t.1)], [some (sI t.2)]⟩)))) (id := 6) (spec_l11Sides_n13_l x3854 x4651 x4849 x4850 x4847 x4832 x4833) (Sum.elim (fun (t : Bool × (List Int)) => (Sum.inr t)) (fun (t : Nat × Nat × (List Int) × (List Int)) => (Sum.inl (t.1, t.2.1, t.2.2.1, t.2.2.2)))) (by
  rintro (t | t) K h
  · exact Eq.mp (by kernel_rfl) h
  · exact Eq.mp (by kernel_rfl) h))

def spec_l11Sides_n15_l (x3854 : List (List Int)) (x4651 : Int) (x4830 : Nat) (x4831 : Nat) (x4832 : List Int) (x4833 : List Int) := (link_group (c := (cq [0,1,1,0,1,0,0,1,1,1,0,0,1,0,0,1,0,1,1,1] (bodyOf Try.f57))) (a := (aq [0,1,1,0,1,0,0,1,1,1,0,0,1,0,0,1,0,1,1,1] spec_l11Sides_an)) [(cq [0,0,1,0,0,1,1,1,0,0,1,0,0,1,0,1,1,1] (bodyOf Try.f57)), (cq [0,1,0,1,0,0,1,1,1,0,0,1,0,0,1,0,1,1,1] (bodyOf Try.f57))] [(aq [0,0,1,0,0,1,1,1,0,0,1,0,0,1,0,1,1,1] spec_l11Sides_an), (aq [0,1,0,1,0,0,1,1,1,0,0,1,0,0,1,0,1,1,1] spec_l11Sides_an)] rfl (link_seq (spec_l11Sides_n11_l x3854 x4651 x4830 x4831 x4832 x4833) (fun (t : Nat × Nat × Int) => (spec_l11Sides_n14_l x3854 x4651 t.1 t.2.1 t.2.2 x4832 x4833))))

def spec_l11Sides_n16_l (x3854 : List (List Int)) (x4651 : Int) (x4830 : Nat) (x4831 : Nat) (x4832 : List Int) (x4833 : List Int) := (link_block (fin2 := (Sum.elim (fun (t : Nat × Nat × (List Int) × (List Int)) => (Exit.normal, ⟨mkE 104 0 [(0, .dat (.list (.list (.int .i64))) x3854), (4, .slc 0), (6, dI x4651), (7, .win 1 t.1 t.2.1)], [some (sI t.2.2.1), some (sI t.2.2.2)]⟩)) (fun (t : Bool × (List Int)) => (Exit.ret, ⟨mkE 104 0 [(2, .slc 0), (3, dB t.1)], [some (sI t.2)]⟩)))) (id := 5) (spec_l11Sides_n15_l x3854 x4651 x4830 x4831 x4832 x4833) (Sum.elim (fun (t : Nat × Nat × (List Int) × (List Int)) => (Sum.inl (t.1, t.2.1, t.2.2.1, t.2.2.2))) (fun (t : Bool × (List Int)) => (Sum.inr t))) (by
  rintro (t | t) K h
  · exact Eq.mp (by kernel_rfl) h
  · exact Eq.mp (by kernel_rfl) h))

def spec_l11Sides_n17_l (x3854 : List (List Int)) (x4651 : Int) (x4830 : Nat) (x4831 : Nat) (x4832 : List Int) (x4833 : List Int) := (link_seq2 (spec_l11Sides_n10_l x3854 x4651 x4830 x4831 x4832 x4833) (fun (t : Unit) => (link_map (fin2 := (Sum.elim (fun (t : Nat × Nat × (List Int) × (List Int)) => (Exit.normal, ⟨mkE 104 0 [(0, .dat (.list (.list (.int .i64))) x3854), (4, .slc 0), (6, dI x4651), (7, .win 1 t.1 t.2.1)], [some (sI t.2.2.1), some (sI t.2.2.2)]⟩)) (Sum.elim (fun (t : Bool × (List Int)) => (Exit.ret, ⟨mkE 104 0 [(2, .slc 0), (3, dB t.1)], [some (sI t.2)]⟩)) (fun (t : (List Int)) => ((Exit.exit 4), ⟨mkE 104 0 [(0, .dat (.list (.list (.int .i64))) x3854), (4, .slc 0), (6, dI x4651)], [some (sI t)]⟩))))) (spec_l11Sides_n16_l x3854 x4651 x4830 x4831 x4832 x4833) (Sum.elim (fun (t : Nat × Nat × (List Int) × (List Int)) => (Sum.inl (t.1, t.2.1, t.2.2.1, t.2.2.2))) (fun (t : Bool × (List Int)) => (Sum.inr (Sum.inl t)))) (by
  rintro (t | t)
  · kernel_rfl
  · kernel_rfl))) (fun (t : (List Int)) => (Sum.inr (Sum.inr t))) (by
  rintro t
  · kernel_rfl) (by
  rintro t f K h
  · exact h))

def spec_l11Sides_n18_l (x3854 : List (List Int)) (x4651 : Int) (x4669 : Nat) (x4667 : List Int) (x4668 : List Int) := (link_loop (mk := fun (s : Nat × Nat × (List Int) × (List Int)) => ⟨mkE 104 0 [(0, .dat (.list (.list (.int .i64))) x3854), (4, .slc 0), (6, dI x4651), (7, .win 1 s.1 s.2.1)], [some (sI s.2.2.1), some (sI s.2.2.2)]⟩) (fin := (Sum.elim (fun (t : Bool × (List Int)) => (Exit.ret, ⟨mkE 104 0 [(2, .slc 0), (3, dB t.1)], [some (sI t.2)]⟩)) (fun (t : (List Int)) => ((Exit.exit 4), ⟨mkE 104 0 [(0, .dat (.list (.list (.int .i64))) x3854), (4, .slc 0), (6, dI x4651)], [some (sI t)]⟩)))) (by
  rintro (t | t) f K h
  · exact h
  · exact h) (fun s => link_map (spec_l11Sides_n17_l x3854 x4651 s.1 s.2.1 s.2.2.1 s.2.2.2) (Sum.elim (fun (t : Nat × Nat × (List Int) × (List Int)) => Sum.inl (t.1, t.2.1, t.2.2.1, t.2.2.2)) (Sum.elim (fun (t : Bool × (List Int)) => Sum.inr (Sum.inl t)) (fun (t : (List Int)) => Sum.inr (Sum.inr t)))) (by
  rintro (t | t | t)
  · kernel_rfl
  · kernel_rfl
  · kernel_rfl)) (0, x4669, x4667, x4668))

def spec_l11Sides_n19_l (x3854 : List (List Int)) (x4651 : Int) (x4669 : Nat) (x4667 : List Int) (x4668 : List Int) := (link_block (fin2 := (Sum.elim (fun (t : (List Int)) => (Exit.normal, ⟨mkE 104 0 [(0, .dat (.list (.list (.int .i64))) x3854), (4, .slc 0), (6, dI x4651)], [some (sI t)]⟩)) (fun (t : Bool × (List Int)) => (Exit.ret, ⟨mkE 104 0 [(2, .slc 0), (3, dB t.1)], [some (sI t.2)]⟩)))) (id := 4) (spec_l11Sides_n18_l x3854 x4651 x4669 x4667 x4668) (Sum.elim (fun (t : Bool × (List Int)) => (Sum.inr t)) (fun (t : (List Int)) => (Sum.inl t))) (by
  rintro (t | t) K h
  · exact Eq.mp (by kernel_rfl) h
  · exact Eq.mp (by kernel_rfl) h))

def spec_l11Sides_n20_l (x3854 : List (List Int)) (x4651 : Int) (x4652 : List Int) := (link_group (c := (cq [0,1,1,0,0,1,0,0,1,0,1,1,1] (bodyOf Try.f57))) (a := (aq [0,1,1,0,0,1,0,0,1,0,1,1,1] spec_l11Sides_an)) [(cq [0,0,0,1,0,0,1,0,1,1,1] (bodyOf Try.f57)), (cq [0,1,0,0,1,0,0,1,0,1,1,1] (bodyOf Try.f57))] [(aq [0,0,0,1,0,0,1,0,1,1,1] spec_l11Sides_an), (aq [0,1,0,0,1,0,0,1,0,1,1,1] spec_l11Sides_an)] rfl (link_seq2 (spec_l11Sides_n9_l x3854 x4651 x4652) (fun (t : Nat × (List Int) × (List Int)) => (link_map (fin2 := (Sum.elim (fun (t : (List Int)) => (Exit.normal, ⟨mkE 104 0 [(0, .dat (.list (.list (.int .i64))) x3854), (4, .slc 0), (6, dI x4651)], [some (sI t)]⟩)) (Sum.elim (fun (t : Bool × (List Int)) => (Exit.ret, ⟨mkE 104 0 [(2, .slc 0), (3, dB t.1)], [some (sI t.2)]⟩)) (fun (t : Unit) => ((Exit.exit 3), ⟨mkE 104 0 [(0, .dat (.list (.list (.int .i64))) x3854), (4, .slc 0), (6, dI x4651)], [some (sI x4652)]⟩))))) (spec_l11Sides_n19_l x3854 x4651 t.1 t.2.1 t.2.2) (Sum.elim (fun (u : (List Int)) => (Sum.inl u)) (fun (u : Bool × (List Int)) => (Sum.inr (Sum.inl u)))) (by
  rintro (t | t)
  · kernel_rfl
  · kernel_rfl))) (fun (t : Unit) => (Sum.inr (Sum.inr t))) (by
  rintro t
  · kernel_rfl) (by
  rintro t f K h
  · exact h)))

def spec_l11Sides_n21_l (x3854 : List (List Int)) (x4651 : Int) (x4652 : List Int) := (link_block (fin2 := (Sum.elim (fun (t : (List Int)) => (Exit.normal, ⟨mkE 104 0 [(0, .dat (.list (.list (.int .i64))) x3854), (4, .slc 0), (6, dI x4651)], [some (sI t)]⟩)) (fun (t : Bool × (List Int)) => (Exit.ret, ⟨mkE 104 0 [(2, .slc 0), (3, dB t.1)], [some (sI t.2)]⟩)))) (id := 3) (spec_l11Sides_n20_l x3854 x4651 x4652) (Sum.elim (fun (t : (List Int)) => (Sum.inl t)) (Sum.elim (fun (t : Bool × (List Int)) => (Sum.inr t)) (fun (t : Unit) => (Sum.inl x4652)))) (by
  rintro (t | t | t) K h
  · exact Eq.mp (by kernel_rfl) h
  · exact Eq.mp (by kernel_rfl) h
  · exact Eq.mp (by kernel_rfl) h))

theorem spec_l11Sides_n22_l (x3854 : List (List Int)) (x4651 : Int) (x4994 : List Int) : Link spec_l11Sides_ctx LL (cq [1,1,0,0,1,0,1,1,1] (bodyOf Try.f57)) (aq [1,1,0,0,1,0,1,1,1] spec_l11Sides_an) ⟨mkE 104 0 [(0, .dat (.list (.list (.int .i64))) x3854), (4, .slc 0), (6, dI x4651)], [some (sI x4994)]⟩ (spec_l11Sides_n22 x4651) (fun (t : Int) => (Exit.normal, ⟨mkE 104 0 [(0, .dat (.list (.list (.int .i64))) x3854), (4, .slc 0), (6, dI t)], [some (sI x4994)]⟩)) := .of fun K h => by
  simp only [spec_l11Sides_n22, wpW] at h
  exact .of (by kernel_rfl) h

def spec_l11Sides_n23_l (x3854 : List (List Int)) (x4651 : Int) (x4652 : List Int) := (link_seq2 (spec_l11Sides_n21_l x3854 x4651 x4652) (fun (t : (List Int)) => (link_map (fin2 := (Sum.elim (fun (t : Int × (List Int)) => (Exit.normal, ⟨mkE 104 0 [(0, .dat (.list (.list (.int .i64))) x3854), (4, .slc 0), (6, dI t.1)], [some (sI t.2)]⟩)) (fun (t : Bool × (List Int)) => (Exit.ret, ⟨mkE 104 0 [(2, .slc 0), (3, dB t.1)], [some (sI t.2)]⟩)))) (spec_l11Sides_n22_l x3854 x4651 t) (fun (u : Int) => (Sum.inl (u, t))) (by
  rintro t
  · kernel_rfl))) (fun (t : Bool × (List Int)) => (Sum.inr t)) (by
  rintro t
  · kernel_rfl) (by
  rintro t f K h
  · exact h))

def spec_l11Sides_n24_l (x3854 : List (List Int)) (x4651 : Int) (x4652 : List Int) := (link_seq2 (spec_l11Sides_n8_l x3854 x4651 x4652) (fun (t : Unit) => (link_map (fin2 := (Sum.elim (fun (t : Int × (List Int)) => (Exit.normal, ⟨mkE 104 0 [(0, .dat (.list (.list (.int .i64))) x3854), (4, .slc 0), (6, dI t.1)], [some (sI t.2)]⟩)) (Sum.elim (fun (t : Bool × (List Int)) => (Exit.ret, ⟨mkE 104 0 [(2, .slc 0), (3, dB t.1)], [some (sI t.2)]⟩)) (fun (t : (List Int)) => ((Exit.exit 2), ⟨mkE 104 0 [(4, .slc 0)], [some (sI t)]⟩))))) (spec_l11Sides_n23_l x3854 x4651 x4652) (Sum.elim (fun (t : Int × (List Int)) => (Sum.inl (t.1, t.2))) (fun (t : Bool × (List Int)) => (Sum.inr (Sum.inl t)))) (by
  rintro (t | t)
  · kernel_rfl
  · kernel_rfl))) (fun (t : (List Int)) => (Sum.inr (Sum.inr t))) (by
  rintro t
  · kernel_rfl) (by
  rintro t f K h
  · exact h))

def spec_l11Sides_n25_l (x3854 : List (List Int)) (x4292 : List Int) := (link_loop (mk := fun (s : Int × (List Int)) => ⟨mkE 104 0 [(0, .dat (.list (.list (.int .i64))) x3854), (4, .slc 0), (6, dI s.1)], [some (sI s.2)]⟩) (fin := (Sum.elim (fun (t : Bool × (List Int)) => (Exit.ret, ⟨mkE 104 0 [(2, .slc 0), (3, dB t.1)], [some (sI t.2)]⟩)) (fun (t : (List Int)) => ((Exit.exit 2), ⟨mkE 104 0 [(4, .slc 0)], [some (sI t)]⟩)))) (by
  rintro (t | t) f K h
  · exact h
  · exact h) (fun s => link_map (spec_l11Sides_n24_l x3854 s.1 s.2) (Sum.elim (fun (t : Int × (List Int)) => Sum.inl (t.1, t.2)) (Sum.elim (fun (t : Bool × (List Int)) => Sum.inr (Sum.inl t)) (fun (t : (List Int)) => Sum.inr (Sum.inr t)))) (by
  rintro (t | t | t)
  · kernel_rfl
  · kernel_rfl
  · kernel_rfl)) (0, x4292))

def spec_l11Sides_n26_l (x3854 : List (List Int)) (x4292 : List Int) := (link_block (fin2 := (Sum.elim (fun (t : (List Int)) => (Exit.normal, ⟨mkE 104 0 [(4, .slc 0)], [some (sI t)]⟩)) (fun (t : Bool × (List Int)) => (Exit.ret, ⟨mkE 104 0 [(2, .slc 0), (3, dB t.1)], [some (sI t.2)]⟩)))) (id := 2) (spec_l11Sides_n25_l x3854 x4292) (Sum.elim (fun (t : Bool × (List Int)) => (Sum.inr t)) (fun (t : (List Int)) => (Sum.inl t))) (by
  rintro (t | t) K h
  · exact Eq.mp (by kernel_rfl) h
  · exact Eq.mp (by kernel_rfl) h))

def spec_l11Sides_n27_l (x3854 : List (List Int)) (x4292 : List Int) := (link_seq (spec_l11Sides_n7_l x3854 x4292) (fun (t : Unit) => (spec_l11Sides_n26_l x3854 x4292)))

theorem spec_l11Sides_n28_l (x4652 : List Int) : Link spec_l11Sides_ctx LL (cq [1,1,1,1] (bodyOf Try.f57)) (aq [1,1,1,1] spec_l11Sides_an) ⟨mkE 104 0 [(4, .slc 0)], [some (sI x4652)]⟩ (spec_l11Sides_n28 x4652) (fun (t : Bool × (List Int)) => (Exit.ret, ⟨mkE 104 0 [(2, .slc 0), (3, dB t.1)], [some (sI t.2)]⟩)) := .of fun K h => by
  simp only [spec_l11Sides_n28, wpW] at h
  exact .of (by kernel_rfl) h

def spec_l11Sides_n29_l (x3854 : List (List Int)) (x4292 : List Int) := (link_seq2 (spec_l11Sides_n27_l x3854 x4292) (fun (t : (List Int)) => (spec_l11Sides_n28_l t)) (fun (t : Bool × (List Int)) => t) (by
  rintro t
  · kernel_rfl) (by
  rintro t f K h
  · exact h))

def spec_l11Sides_n30_l (x3854 : List (List Int)) := (link_seq (spec_l11Sides_n6_l x3854) (fun (t : (List Int)) => (spec_l11Sides_n29_l x3854 t)))

def spec_l11Sides_n31_l (x3854 : List (List Int)) := (link_group (c := (cq [0,1] (bodyOf Try.f57))) (a := (aq [0,1] spec_l11Sides_an)) [(cq [0] (bodyOf Try.f57))] [(aq [0] spec_l11Sides_an)] rfl (link_seq (spec_l11Sides_n1_l x3854) (fun (t : Unit) => (spec_l11Sides_n30_l x3854))))

theorem spec_l11Sides_e (x3854 : List (List Int)) {r : AV} {H' : Heap} (h : (Ans.mk _ (spec_l11Sides x3854) (fun (t : Bool × (List Int)) => (.tup [.slc 0, dB t.1], [some (sI t.2)])) [] none).run = some (r, H')) : Awp spec_l11Sides_ctx LL (bodyOf Try.f57) spec_l11Sides_an ⟨mkE 104 0 [(0, .dat (.list (.list (.int .i64))) x3854)], []⟩ (Ret (tlook tys) Try.f57.results.toList r H') :=
  ret_of' (Link.cast (by kernel_rfl) (by kernel_rfl) (spec_l11Sides_n31_l x3854)) (by unfold spec_l11Sides; kernel_rfl) (by
  intro t
  exact ret_mk [.slc 0, dB t.1] (by kernel_rfl) (by kernel_rfl) (by kernel_rfl) (by kernel_rfl)) h

def F_spec_l11Sides : Fun := fun avs H =>
  match avs, H with
  | [.dat (.list (.list (.int .i64))) x3854], [] => ⟨_, spec_l11Sides x3854, fun (t : Bool × (List Int)) => (.tup [.slc 0, dB t.1], [some (sI t.2)]), [], none⟩
  | _, _ => Ans.no

theorem spec_l11Sides_sound : Sound Try.prog 57 F_spec_l11Sides := by
  refine fn_sound' (C := spec_l11Sides_ctx) (c := bodyOf Try.f57) (cok_of tys_ok (allc spec_CrossOk_sound alln) (allc Try.call72 alln) (by kernel_rfl)) Try.func57 (by kernel_rfl) LL spec_l11Sides_an ?_
  intro avs H r H' h
  unfold F_spec_l11Sides at h
  split at h
  · refine Awp.cast ?_ ?_ ?_ (spec_l11Sides_e _ h) <;> kernel_rfl
  · simp [Ans.no, Ans.run] at h


/-! loop.example/headtrees/spec.SidesFor -/

def spec_SidesFor_an : Ann := (.seq (.leaf [0]) (.seq (.seq (.leaf [0, 6]) (.cond (.seq (.leaf [2, 3]) (.leaf [2, 3])) (.leaf [0]))) (.seq (.leaf [2, 3]) (.leaf [2, 3]))))

noncomputable def spec_SidesFor_ctx : Ctx := ⟨tlook tys, olook [(42, F_spec_TreeOk), (58, F_spec_l3Arcs), (57, F_spec_l11Sides)], ioF, 0, false, []⟩

theorem spec_SidesFor_n1_l (x3759 : List Int) : Link spec_SidesFor_ctx LL (bodyOf Try.f30) spec_SidesFor_an ⟨mkE 13 0 [(0, dL x3759)], []⟩ (spec_SidesFor_n1 x3759) (fun (t : Bool × (List Int)) => (Exit.ret, ⟨mkE 13 0 [(2, .slc 0), (3, dB t.1)], [some (sI t.2)]⟩)) := .of fun K h => by
  simp only [spec_SidesFor_n1, wpW] at h
  exact .of (by kernel_rfl) h

theorem spec_SidesFor_e (x3759 : List Int) {r : AV} {H' : Heap} (h : (Ans.mk _ (spec_SidesFor x3759) (fun (t : Bool × (List Int)) => (.tup [.slc 0, dB t.1], [some (sI t.2)])) [] none).run = some (r, H')) : Awp spec_SidesFor_ctx LL (bodyOf Try.f30) spec_SidesFor_an ⟨mkE 13 0 [(0, dL x3759)], []⟩ (Ret (tlook tys) Try.f30.results.toList r H') :=
  ret_of' (spec_SidesFor_n1_l x3759) (by unfold spec_SidesFor; kernel_rfl) (by
  intro t
  exact ret_mk [.slc 0, dB t.1] (by kernel_rfl) (by kernel_rfl) (by kernel_rfl) (by kernel_rfl)) h

def F_spec_SidesFor : Fun := fun avs H =>
  match avs, H with
  | [.dat (.list (.int .i64)) x3759], [] => ⟨_, spec_SidesFor x3759, fun (t : Bool × (List Int)) => (.tup [.slc 0, dB t.1], [some (sI t.2)]), [], none⟩
  | _, _ => Ans.no

theorem spec_SidesFor_sound : Sound Try.prog 30 F_spec_SidesFor := by
  refine fn_sound' (C := spec_SidesFor_ctx) (c := bodyOf Try.f30) (cok_of tys_ok (allc spec_TreeOk_sound (allc spec_l3Arcs_sound (allc spec_l11Sides_sound alln))) (allc Try.call42 (allc Try.call58 (allc Try.call57 alln))) (by kernel_rfl)) Try.func30 (by kernel_rfl) LL spec_SidesFor_an ?_
  intro avs H r H' h
  unfold F_spec_SidesFor at h
  split at h
  · refine Awp.cast ?_ ?_ ?_ (spec_SidesFor_e _ h) <;> kernel_rfl
  · simp [Ans.no, Ans.run] at h


/-! loop.example/headtrees/impl.CrossOk -/

def impl_CrossOk_an : Ann := (.seq (.leaf [0, 1, 2, 3]) (.seq (.leaf [2, 3, 9, 10]) (.seq (.leaf [9, 10, 11, 12]) (.seq (.leaf [8]) (.leaf [8])))))

noncomputable def impl_CrossOk_ctx : Ctx := ⟨tlook tys, olook [(59, F_impl_arcBetween), (48, F_impl_arc_crosses)], ioF, 0, false, []⟩

theorem impl_CrossOk_n1_l (x5119 : Int) (x5120 : Int) (x5121 : Int) (x5122 : Int) : Link impl_CrossOk_ctx LL (bodyOf Try.f31) impl_CrossOk_an ⟨mkE 34 0 [(0, dI x5119), (1, dI x5120), (2, dI x5121), (3, dI x5122)], []⟩ (impl_CrossOk_n1 x5119 x5120 x5121 x5122) (fun (t : Bool) => (Exit.ret, ⟨mkE 34 0 [(8, dB t)], []⟩)) := .of fun K h => by
  simp only [impl_CrossOk_n1, wpW] at h
  exact .of (by kernel_rfl) h

theorem impl_CrossOk_e (x5119 : Int) (x5120 : Int) (x5121 : Int) (x5122 : Int) {r : AV} {H' : Heap} (h : (Ans.mk _ (impl_CrossOk x5119 x5120 x5121 x5122) (fun (t : Bool) => (dB t, [])) [] none).run = some (r, H')) : Awp impl_CrossOk_ctx LL (bodyOf Try.f31) impl_CrossOk_an ⟨mkE 34 0 [(0, dI x5119), (1, dI x5120), (2, dI x5121), (3, dI x5122)], []⟩ (Ret (tlook tys) Try.f31.results.toList r H') :=
  ret_of' (impl_CrossOk_n1_l x5119 x5120 x5121 x5122) (by unfold impl_CrossOk; kernel_rfl) (by
  intro t
  exact ret_mk [dB t] (by kernel_rfl) (by kernel_rfl) (by kernel_rfl) (by kernel_rfl)) h

def F_impl_CrossOk : Fun := fun avs H =>
  match avs, H with
  | [.dat (.int .i64) x5119, .dat (.int .i64) x5120, .dat (.int .i64) x5121, .dat (.int .i64) x5122], [] => ⟨_, impl_CrossOk x5119 x5120 x5121 x5122, fun (t : Bool) => (dB t, []), [], none⟩
  | _, _ => Ans.no

theorem impl_CrossOk_sound : Sound Try.prog 31 F_impl_CrossOk := by
  refine fn_sound' (C := impl_CrossOk_ctx) (c := bodyOf Try.f31) (cok_of tys_ok (allc impl_arcBetween_sound (allc impl_arc_crosses_sound alln)) (allc Try.call59 (allc Try.call48 alln)) (by kernel_rfl)) Try.func31 (by kernel_rfl) LL impl_CrossOk_an ?_
  intro avs H r H' h
  unfold F_impl_CrossOk at h
  split at h
  · refine Awp.cast ?_ ?_ ?_ (impl_CrossOk_e _ _ _ _ h) <;> kernel_rfl
  · simp [Ans.no, Ans.run] at h


/-! loop.example/headtrees/laws.FnSidesFor -/

def laws_FnSidesFor_an : Ann := (.seq (.leaf [0]) (.seq (.seq (.leaf [0, 14]) (.cond (.seq (.leaf [2]) (.leaf [2])) (.leaf [0]))) (.seq (.leaf [3]) (.seq (.leaf [3, 4, 5]) (.seq (.leaf [3, 4, 5, 6, 7]) (.seq (.seq (.leaf [3, 4, 5, 35]) (.cond (.seq (.leaf [2]) (.leaf [2])) (.leaf [3, 4, 5]))) (.seq (.seq (.leaf [3, 4, 37]) (.cond (.seq (.leaf [2]) (.leaf [2])) (.leaf [3, 4]))) (.seq (.seq (.leaf [3, 4, 59]) (.cond (.seq (.leaf [2]) (.leaf [2])) (.leaf [3, 4]))) (.seq (.leaf [3, 4, 8]) (.seq (.seq (.leaf [3, 4, 8, 9]) (.block (.loop (.seq (.seq (.leaf [3, 4, 8, 9, 63]) (.cond (.leaf [3, 4, 8, 9]) (.leaf []))) (.seq (.block (.seq (.seq (.leaf [3, 4, 8, 9, 70]) (.cond (.leaf [3, 4, 8, 9]) (.leaf [3, 4, 8, 9]))) (.seq (.leaf [3, 4, 8, 9, 10]) (.seq (.seq (.leaf [3, 4, 8, 9, 10, 11]) (.block (.loop (.seq (.seq (.leaf [3, 4, 8, 9, 10, 11, 73]) (.cond (.leaf [3, 4, 8, 9, 10, 11]) (.leaf [3, 4, 8, 9]))) (.seq (.block (.seq (.seq (.leaf [3, 4, 8, 9, 10, 11, 80]) (.cond (.leaf [3, 4, 8, 9, 10, 11]) (.leaf [3, 4, 8, 9, 10, 11]))) (.seq (.seq (.draw [22] [0, 1, 2, 3, 4, 5, 6, 7, 8, 9, 10, 11, 12, 13, 14, 15, 16, 17, 18, 19, 20, 21, 22, 23] [] [3, 4, 8, 9, 10, 11, 104]) (.cond (.seq (.leaf [2]) (.leaf [2])) (.leaf [3, 4, 8, 9, 10, 11]))) (.leaf [3, 4, 8, 9, 10, 11])))) (.leaf [3, 4, 8, 9, 10, 11])))))) (.seq (.seq (.leaf [3, 4, 8, 9, 130]) (.cond (.seq (.leaf [2]) (.leaf [2])) (.leaf [3, 4, 8, 9]))) (.leaf [3, 4, 8, 9])))))) (.leaf [3, 4, 8, 9])))))) (.seq (.leaf [2]) (.leaf [2]))))))))))))

noncomputable def laws_FnSidesFor_ctx : Ctx := ⟨tlook tys, olook [(28, F_spec_DrawSidesFor), (29, F_impl_SidesFor), (30, F_spec_SidesFor), (14, F_laws_sameInts), (16, F_impl_TreeOk), (17, F_laws_alive), (22, F_impl_CrossingsOf), (31, F_impl_CrossOk)], ioF, 0, false, []⟩

theorem laws_FnSidesFor_n1_l (x3258 : List Int) : Link laws_FnSidesFor_ctx LL (Code.seq (cq [0] (bodyOf Try.f6)) (Code.seq (cq [0,1] (bodyOf Try.f6)) (Code.seq (cq [0,1,1] (bodyOf Try.f6)) (Code.seq (cq [0,1,1,1] (bodyOf Try.f6)) (Code.seq (cq [0,1,1,1,1] (bodyOf Try.f6)) (Code.seq (cq [0,1,1,1,1,1] (bodyOf Try.f6)) (Code.seq (cq [0,1,1,1,1,1,1] (bodyOf Try.f6)) (Code.seq (cq [0,1,1,1,1,1,1,1] (bodyOf Try.f6)) (cq [0,1,1,1,1,1,1,1,1] (bodyOf Try.f6)))))))))) (Ann.seq (aq [0] laws_FnSidesFor_an) (Ann.seq (aq [0,1] laws_FnSidesFor_an) (Ann.seq (aq [0,1,1] laws_FnSidesFor_an) (Ann.seq (aq [0,1,1,1] laws_FnSidesFor_an) (Ann.seq (aq [0,1,1,1,1] laws_FnSidesFor_an) (Ann.seq (aq [0,1,1,1,1,1] laws_FnSidesFor_an) (Ann.seq (aq [0,1,1,1,1,1,1] laws_FnSidesFor_an) (Ann.seq (aq [0,1,1,1,1,1,1,1] laws_FnSidesFor_an) (aq [0,1,1,1,1,1,1,1,1] laws_FnSidesFor_an))))))))) ⟨mkE 133 0 [(0, dV x3258)], []⟩ (laws_FnSidesFor_n1 x3258) (Sum.elim (fun (t : (List Int) × (List Int)) => (Exit.normal, ⟨mkE 133 0 [(3, .slc 0), (4, .slc 1), (8, dI 0)], [some (sI t.1), some (sI t.2)]⟩)) (fun (t : Bool) => (Exit.ret, ⟨mkE 133 0 [(2, dB t)], []⟩))) := .of fun K h => by
  simp only [laws_FnSidesFor_n1, wpW] at h
  exact .of (by kernel_rfl) h

theorem laws_FnSidesFor_n2_l (x5072 : List Int) (x5075 : List Int) : Link laws_FnSidesFor_ctx LL (cq [0,0,1,1,1,1,1,1,1,1,1] (bodyOf Try.f6)) (aq [0,0,1,1,1,1,1,1,1,1,1] laws_FnSidesFor_an) ⟨mkE 133 0 [(3, .slc 0), (4, .slc 1), (8, dI 0)], [some (sI x5072), some (sI x5075)]⟩ (laws_FnSidesFor_n2) (fun (t : Unit) => (Exit.normal, ⟨mkE 133 0 [(3, .slc 0), (4, .slc 1), (8, dI 0), (9, dI 0)], [some (sI x5072), some (sI x5075)]⟩)) := .of fun K h => by
  simp only [laws_FnSidesFor_n2, wpW] at h
  exact .of (by kernel_rfl) h

theorem laws_FnSidesFor_n3_l (x5251 : Int) (x5252 : Int) (x5072 : List Int) (x5075 : List Int) : Link laws_FnSidesFor_ctx LL (cq [0,0,0,1,0,1,1,1,1,1,1,1,1,1] (bodyOf Try.f6)) (aq [0,0,0,1,0,1,1,1,1,1,1,1,1,1] laws_FnSidesFor_an) ⟨mkE 133 0 [(3, .slc 0), (4, .slc 1), (8, dI x5251), (9, dI x5252)], [some (sI x5072), some (sI x5075)]⟩ (laws_FnSidesFor_n3 x5252 x5072) (Sum.elim (fun (t : Unit) => (Exit.normal, ⟨mkE 133 0 [(3, .slc 0), (4, .slc 1), (8, dI x5251), (9, dI x5252)], [some (sI x5072), some (sI x5075)]⟩)) (fun (t : Unit) => ((Exit.exit 0), ⟨mkE 133 0 [], []⟩))) := .of fun K h => by
  simp only [laws_FnSidesFor_n3, wpW] at h
  exact .of (by kernel_rfl) h

theorem laws_FnSidesFor_n4_l (x5251 : Int) (x5252 : Int) (x5072 : List Int) (x5075 : List Int) : Link laws_FnSidesFor_ctx LL (Code.seq (cq [0,0,0,1,0,0,1,0,1,1,1,1,1,1,1,1,1] (bodyOf Try.f6)) (cq [0,1,0,0,1,0,0,1,0,1,1,1,1,1,1,1,1,1] (bodyOf Try.f6))) (Ann.seq (aq [0,0,0,1,0,0,1,0,1,1,1,1,1,1,1,1,1] laws_FnSidesFor_an) (aq [0,1,0,0,1,0,0,1,0,1,1,1,1,1,1,1,1,1] laws_FnSidesFor_an)) ⟨mkE 133 0 [(3, .slc 0), (4, .slc 1), (8, dI x5251), (9, dI x5252)], [some (sI x5072), some (sI x5075)]⟩ (laws_FnSidesFor_n4 x5252 x5072) (Sum.elim (fun (t : Unit) => (Exit.normal, ⟨mkE 133 0 [(3, .slc 0), (4, .slc 1), (8, dI x5251), (9, dI x5252), (10, dI 0)], [some (sI x5072), some (sI x5075)]⟩)) (fun (t : Unit) => ((Exit.exit 1), ⟨mkE 133 0 [(3, .slc 0), (4, .slc 1), (8, dI x5251), (9, dI x5252)], [some (sI x5072), some (sI x5075)]⟩))) := .of fun K h => by
  simp only [laws_FnSidesFor_n4, wpW] at h
  exact .of (by kernel_rfl) h

theorem laws_FnSidesFor_n5_l (x5251 : Int) (x5252 : Int) (x5072 : List Int) (x5075 : List Int) : Link laws_FnSidesFor_ctx LL (cq [0,0,1,1,0,0,1,0,0,1,0,1,1,1,1,1,1,1,1,1] (bodyOf Try.f6)) (aq [0,0,1,1,0,0,1,0,0,1,0,1,1,1,1,1,1,1,1,1] laws_FnSidesFor_an) ⟨mkE 133 0 [(3, .slc 0), (4, .slc 1), (8, dI x5251), (9, dI x5252), (10, dI 0)], [some (sI x5072), some (sI x5075)]⟩ (laws_FnSidesFor_n5) (fun (t : Unit) => (Exit.normal, ⟨mkE 133 0 [(3, .slc 0), (4, .slc 1), (8, dI x5251), (9, dI x5252), (10, dI 0), (11, dI 0)], [some (sI x5072), some (sI x5075)]⟩)) := .of fun K h => by
  simp only [laws_FnSidesFor_n5, wpW] at h
  exact .of (by kernel_rfl) h

theorem laws_FnSidesFor_n6_l (x5251 : Int) (x5252 : Int) (x5303 : Int) (x5304 : Int) (x5072 : List Int) (x5075 : List Int) : Link laws_FnSidesFor_ctx LL (cq [0,0,1,0,1,1,0,0,1,0,0,1,0,1,1,1,1,1,1,1,1,1] (bodyOf Try.f6)) (aq [0,0,1,0,1,1,0,0,1,0,0,1,0,1,1,1,1,1,1,1,1,1] laws_FnSidesFor_an) ⟨mkE 133 0 [(3, .slc 0), (4, .slc 1), (8, dI x5251), (9, dI x5252), (10, dI x5303), (11, dI x5304)], [some (sI x5072), some (sI x5075)]⟩ (laws_FnSidesFor_n6 x5251 x5252 x5303 x5304 x5072 x5075) (Sum.elim (fun (t : Int × Int) => (Exit.normal, ⟨mkE 133 0 [(3, .slc 0), (4, .slc 1), (8, dI x5251), (9, dI x5252), (10, dI t.1), (11, dI t.2)], [some (sI x5072), some (sI x5075)]⟩)) (Sum.elim (fun (t : Bool) => (Exit.ret, ⟨mkE 133 0 [(2, dB t)], []⟩)) (fun (t : Unit) => ((Exit.exit 2), ⟨mkE 133 0 [(3, .slc 0), (4, .slc 1), (8, dI x5251), (9, dI x5252)], [some (sI x5072), some (sI x5075)]⟩)))) := .of fun K h => by
  simp only [laws_FnSidesFor_n6, wpW] at h
  exact .of (by kernel_rfl) h

def laws_FnSidesFor_n7_l (x5251 : Int) (x5252 : Int) (x5072 : List Int) (x5075 : List Int) := (link_loop (mk := fun (s : Int × Int) => ⟨mkE 133 0 [(3, .slc 0), (4, .slc 1), (8, dI x5251), (9, dI x5252), (10, dI s.1), (11, dI s.2)], [some (sI x5072), some (sI x5075)]⟩) (fin := (Sum.elim (fun (t : Bool) => (Exit.ret, ⟨mkE 133 0 [(2, dB t)], []⟩)) (fun (t : Unit) => ((Exit.exit 2), ⟨mkE 133 0 [(3, .slc 0), (4, .slc 1), (8, dI x5251), (9, dI x5252)], [some (sI x5072), some (sI x5075)]⟩)))) (by
  rintro (t | t) f K h
  · exact h
  · exact h) (fun s => link_map (laws_FnSidesFor_n6_l x5251 x5252 s.1 s.2 x5072 x5075) (Sum.elim (fun (t : Int × Int) => Sum.inl (t.1, t.2)) (Sum.elim (fun (t : Bool) => Sum.inr (Sum.inl t)) (fun (t : Unit) => Sum.inr (Sum.inr t)))) (by
  rintro (t | t | t)
  · kernel_rfl
  · kernel_rfl
  · kernel_rfl)) (0, 0))

def laws_FnSidesFor_n8_l (x5251 : Int) (x5252 : Int) (x5072 : List Int) (x5075 : List Int) := (link_block (fin2 := (Sum.elim (fun (t : Unit) => (Exit.normal, ⟨mkE 133 0 [(3, .slc 0), (4, .slc 1), (8, dI x5251), (9, dI x5252)], [some (sI x5072), some (sI x5075)]⟩)) (fun (t : Bool) => (Exit.ret, ⟨mkE 133 0 [(2, dB t)], []⟩)))) (id := 2) (laws_FnSidesFor_n7_l x5251 x5252 x5072 x5075) (Sum.elim (fun (t : Bool) => (Sum.inr t)) (fun (t : Unit) => (Sum.inl ()))) (by
  rintro (t | t) K h
  · exact Eq.mp (by kernel_rfl) h
  · exact Eq.mp (by kernel_rfl) h))

def laws_FnSidesFor_n9_l (x5251 : Int) (x5252 : Int) (x5072 : List Int) (x5075 : List Int) := (link_seq (laws_FnSidesFor_n5_l x5251 x5252 x5072 x5075) (fun (t : Unit) => (laws_FnSidesFor_n8_l x5251 x5252 x5072 x5075)))

theorem laws_FnSidesFor_n10_l (x5251 : Int) (x5252 : Int) (x5072 : List Int) (x5075 : List Int) : Link laws_FnSidesFor_ctx LL (cq [1,1,1,0,0,1,0,0,1,0,1,1,1,1,1,1,1,1,1] (bodyOf Try.f6)) (aq [1,1,1,0,0,1,0,0,1,0,1,1,1,1,1,1,1,1,1] laws_FnSidesFor_an) ⟨mkE 133 0 [(3, .slc 0), (4, .slc 1), (8, dI x5251), (9, dI x5252)], [some (sI x5072), some (sI x5075)]⟩ (laws_FnSidesFor_n10 x5251 x5072 x5075) (Sum.elim (fun (t : Int) => (Exit.normal, ⟨mkE 133 0 [(3, .slc 0), (4, .slc 1), (8, dI t), (9, dI x5252)], [some (sI x5072), some (sI x5075)]⟩)) (fun (t : Bool) => (Exit.ret, ⟨mkE 133 0 [(2, dB t)], []⟩))) := .of fun K h => by
  simp only [laws_FnSidesFor_n10, wpW] at h
  exact .of (by kernel_rfl) h

def laws_FnSidesFor_n11_l (x5251 : Int) (x5252 : Int) (x5072 : List Int) (x5075 : List Int) := (link_seq2 (laws_FnSidesFor_n9_l x5251 x5252 x5072 x5075) (fun (t : Unit) => (laws_FnSidesFor_n10_l x5251 x5252 x5072 x5075)) (fun (t : Bool) => (Sum.inr t)) (by
  rintro t
  · kernel_rfl) (by
  rintro t f K h
  · exact h))

def laws_FnSidesFor_n12_l (x5251 : Int) (x5252 : Int) (x5072 : List Int) (x5075 : List Int) := (link_group (c := (cq [0,1,0,0,1,0,0,1,0,1,1,1,1,1,1,1,1,1] (bodyOf Try.f6))) (a := (aq [0,1,0,0,1,0,0,1,0,1,1,1,1,1,1,1,1,1] laws_FnSidesFor_an)) [(cq [0,0,0,1,0,0,1,0,1,1,1,1,1,1,1,1,1] (bodyOf Try.f6))] [(aq [0,0,0,1,0,0,1,0,1,1,1,1,1,1,1,1,1] laws_FnSidesFor_an)] rfl (link_seq2 (laws_FnSidesFor_n4_l x5251 x5252 x5072 x5075) (fun (t : Unit) => (link_map (fin2 := (Sum.elim (fun (t : Int) => (Exit.normal, ⟨mkE 133 0 [(3, .slc 0), (4, .slc 1), (8, dI t), (9, dI x5252)], [some (sI x5072), some (sI x5075)]⟩)) (Sum.elim (fun (t : Bool) => (Exit.ret, ⟨mkE 133 0 [(2, dB t)], []⟩)) (fun (t : Unit) => ((Exit.exit 1), ⟨mkE 133 0 [(3, .slc 0), (4, .slc 1), (8, dI x5251), (9, dI x5252)], [some (sI x5072), some (sI x5075)]⟩))))) (laws_FnSidesFor_n11_l x5251 x5252 x5072 x5075) (Sum.elim (fun (t : Int) => (Sum.inl t)) (fun (t : Bool) => (Sum.inr (Sum.inl t)))) (by
  rintro (t | t)
  · kernel_rfl
  · kernel_rfl))) (fun (t : Unit) => (Sum.inr (Sum.inr t))) (by
  rintro t
  · kernel_rfl) (by
  rintro t f K h
  · exact h)))

def laws_FnSidesFor_n13_l (x5251 : Int) (x5252 : Int) (x5072 : List Int) (x5075 : List Int) := (link_block (fin2 := (Sum.elim (fun (t : Int) => (Exit.normal, ⟨mkE 133 0 [(3, .slc 0), (4, .slc 1), (8, dI t), (9, dI x5252)], [some (sI x5072), some (sI x5075)]⟩)) (fun (t : Bool) => (Exit.ret, ⟨mkE 133 0 [(2, dB t)], []⟩)))) (id := 1) (laws_FnSidesFor_n12_l x5251 x5252 x5072 x5075) (Sum.elim (fun (t : Int) => (Sum.inl t)) (Sum.elim (fun (t : Bool) => (Sum.inr t)) (fun (t : Unit) => (Sum.inl x5251)))) (by
  rintro (t | t | t) K h
  · exact Eq.mp (by kernel_rfl) h
  · exact Eq.mp (by kernel_rfl) h
  · exact Eq.mp (by kernel_rfl) h))

theorem laws_FnSidesFor_n14_l (x5372 : Int) (x5252 : Int) (x5072 : List Int) (x5075 : List Int) : Link laws_FnSidesFor_ctx LL (cq [1,1,0,0,1,0,1,1,1,1,1,1,1,1,1] (bodyOf Try.f6)) (aq [1,1,0,0,1,0,1,1,1,1,1,1,1,1,1] laws_FnSidesFor_an) ⟨mkE 133 0 [(3, .slc 0), (4, .slc 1), (8, dI x5372), (9, dI x5252)], [some (sI x5072), some (sI x5075)]⟩ (laws_FnSidesFor_n14 x5252) (fun (t : Int) => (Exit.normal, ⟨mkE 133 0 [(3, .slc 0), (4, .slc 1), (8, dI x5372), (9, dI t)], [some (sI x5072), some (sI x5075)]⟩)) := .of fun K h => by
  simp only [laws_FnSidesFor_n14, wpW] at h
  exact .of (by kernel_rfl) h

def laws_FnSidesFor_n15_l (x5251 : Int) (x5252 : Int) (x5072 : List Int) (x5075 : List Int) := (link_seq2 (laws_FnSidesFor_n13_l x5251 x5252 x5072 x5075) (fun (t : Int) => (link_map (fin2 := (Sum.elim (fun (t : Int × Int) => (Exit.normal, ⟨mkE 133 0 [(3, .slc 0), (4, .slc 1), (8, dI t.1), (9, dI t.2)], [some (sI x5072), some (sI x5075)]⟩)) (fun (t : Bool) => (Exit.ret, ⟨mkE 133 0 [(2, dB t)], []⟩)))) (laws_FnSidesFor_n14_l t x5252 x5072 x5075) (fun (u : Int) => (Sum.inl (t, u))) (by
  rintro t
  · kernel_rfl))) (fun (t : Bool) => (Sum.inr t)) (by
  rintro t
  · kernel_rfl) (by
  rintro t f K h
  · exact h))

def laws_FnSidesFor_n16_l (x5251 : Int) (x5252 : Int) (x5072 : List Int) (x5075 : List Int) := (link_seq2 (laws_FnSidesFor_n3_l x5251 x5252 x5072 x5075) (fun (t : Unit) => (link_map (fin2 := (Sum.elim (fun (t : Int × Int) => (Exit.normal, ⟨mkE 133 0 [(3, .slc 0), (4, .slc 1), (8, dI t.1), (9, dI t.2)], [some (sI x5072), some (sI x5075)]⟩)) (Sum.elim (fun (t : Bool) => (Exit.ret, ⟨mkE 133 0 [(2, dB t)], []⟩)) (fun (t : Unit) => ((Exit.exit 0), ⟨mkE 133 0 [], []⟩))))) (laws_FnSidesFor_n15_l x5251 x5252 x5072 x5075) (Sum.elim (fun (t : Int × Int) => (Sum.inl (t.1, t.2))) (fun (t : Bool) => (Sum.inr (Sum.inl t)))) (by
  rintro (t | t)
  · kernel_rfl
  · kernel_rfl))) (fun (t : Unit) => (Sum.inr (Sum.inr t))) (by
  rintro t
  · kernel_rfl) (by
  rintro t f K h
  · exact h))

def laws_FnSidesFor_n17_l (x5072 : List Int) (x5075 : List Int) := (link_loop (mk := fun (s : Int × Int) => ⟨mkE 133 0 [(3, .slc 0), (4, .slc 1), (8, dI s.1), (9, dI s.2)], [some (sI x5072), some (sI x5075)]⟩) (fin := (Sum.elim (fun (t : Bool) => (Exit.ret, ⟨mkE 133 0 [(2, dB t)], []⟩)) (fun (t : Unit) => ((Exit.exit 0), ⟨mkE 133 0 [], []⟩)))) (by
  rintro (t | t) f K h
  · exact h
  · exact h) (fun s => link_map (laws_FnSidesFor_n16_l s.1 s.2 x5072 x5075) (Sum.elim (fun (t : Int × Int) => Sum.inl (t.1, t.2)) (Sum.elim (fun (t : Bool) => Sum.inr (Sum.inl t)) (fun (t : Unit) => Sum.inr (Sum.inr t)))) (by
  rintro (t | t | t)
  · kernel_rfl
  · kernel_rfl
  · kernel_rfl)) (0, 0))

def laws_FnSidesFor_n18_l (x5072 : List Int) (x5075 : List Int) := (link_block (fin2 := (Sum.elim (fun (t : Unit) => (Exit.normal, ⟨mkE 133 0 [], []⟩)) (fun (t : Bool) => (Exit.ret, ⟨mkE 133 0 [(2, dB t)], []⟩)))) (id := 0) (laws_FnSidesFor_n17_l x5072 x5075) (Sum.elim (fun (t : Bool) => (Sum.inr t)) (fun (t : Unit) => (Sum.inl ()))) (by
  rintro (t | t) K h
  · exact Eq.mp (by kernel_rfl) h
  · exact Eq.mp (by kernel_rfl) h))

def laws_FnSidesFor_n19_l (x5072 : List Int) (x5075 : List Int) := (link_seq (laws_FnSidesFor_n2_l x5072 x5075) (fun (t : Unit) => (laws_FnSidesFor_n18_l x5072 x5075)))

theorem laws_FnSidesFor_n20_l : Link laws_FnSidesFor_ctx LL (cq [1,1,1,1,1,1,1,1,1,1] (bodyOf Try.f6)) (aq [1,1,1,1,1,1,1,1,1,1] laws_FnSidesFor_an) ⟨mkE 133 0 [], []⟩ (laws_FnSidesFor_n20) (fun (t : Bool) => (Exit.ret, ⟨mkE 133 0 [(2, dB t)], []⟩)) := .of fun K h => by
  simp only [laws_FnSidesFor_n20, wpW] at h
  exact .of (by kernel_rfl) h

def laws_FnSidesFor_n21_l (x5072 : List Int) (x5075 : List Int) := (link_seq2 (laws_FnSidesFor_n19_l x5072 x5075) (fun (t : Unit) => (laws_FnSidesFor_n20_l)) (fun (t : Bool) => t) (by
  rintro t
  · kernel_rfl) (by
  rintro t f K h
  · exact h))

def laws_FnSidesFor_n22_l (x3258 : List Int) := (link_group (c := (cq [0,1,1,1,1,1,1,1,1] (bodyOf Try.f6))) (a := (aq [0,1,1,1,1,1,1,1,1] laws_FnSidesFor_an)) [(cq [0] (bodyOf Try.f6)), (cq [0,1] (bodyOf Try.f6)), (cq [0,1,1] (bodyOf Try.f6)), (cq [0,1,1,1] (bodyOf Try.f6)), (cq [0,1,1,1,1] (bodyOf Try.f6)), (cq [0,1,1,1,1,1] (bodyOf Try.f6)), (cq [0,1,1,1,1,1,1] (bodyOf Try.f6)), (cq [0,1,1,1,1,1,1,1] (bodyOf Try.f6))] [(aq [0] laws_FnSidesFor_an), (aq [0,1] laws_FnSidesFor_an), (aq [0,1,1] laws_FnSidesFor_an), (aq [0,1,1,1] laws_FnSidesFor_an), (aq [0,1,1,1,1] laws_FnSidesFor_an), (aq [0,1,1,1,1,1] laws_FnSidesFor_an), (aq [0,1,1,1,1,1,1] laws_FnSidesFor_an), (aq [0,1,1,1,1,1,1,1] laws_FnSidesFor_an)] rfl (link_seq2 (laws_FnSidesFor_n1_l x3258) (fun (t : (List Int) × (List Int)) => (laws_FnSidesFor_n21_l t.1 t.2)) (fun (t : Bool) => t) (by
  rintro t
  · kernel_rfl) (by
  rintro t f K h
  · exact h)))

theorem laws_FnSidesFor_e (x3258 : List Int) {r : AV} {H' : Heap} (h : (Ans.mk _ (laws_FnSidesFor x3258) (fun (t : Bool) => (dB t, [])) [] none).run = some (r, H')) : Awp laws_FnSidesFor_ctx LL (bodyOf Try.f6) laws_FnSidesFor_an ⟨mkE 133 0 [(0, dV x3258)], []⟩ (Ret (tlook tys) Try.f6.results.toList r H') :=
  ret_of' (Link.cast (by kernel_rfl) (by kernel_rfl) (laws_FnSidesFor_n22_l x3258)) (by unfold laws_FnSidesFor; kernel_rfl) (by
  intro t
  exact ret_mk [dB t] (by kernel_rfl) (by kernel_rfl) (by kernel_rfl) (by kernel_rfl)) h

def F_laws_FnSidesFor : Fun := fun avs H =>
  match avs, H with
  | [.dat (.list (.int .u8)) x3258], [] => ⟨_, laws_FnSidesFor x3258, fun (t : Bool) => (dB t, []), [], none⟩
  | _, _ => Ans.no

theorem laws_FnSidesFor_sound : Sound Try.prog 6 F_laws_FnSidesFor := by
  refine fn_sound' (C := laws_FnSidesFor_ctx) (c := bodyOf Try.f6) (cok_of tys_ok (allc spec_DrawSidesFor_sound (allc impl_SidesFor_sound (allc spec_SidesFor_sound (allc laws_sameInts_sound (allc impl_TreeOk_sound (allc laws_alive_sound (allc impl_CrossingsOf_sound (allc impl_CrossOk_sound alln)))))))) (allc Try.call28 (allc Try.call29 (allc Try.call30 (allc Try.call14 (allc Try.call16 (allc Try.call17 (allc Try.call22 (allc Try.call31 alln)))))))) (by kernel_rfl)) Try.func6 (by kernel_rfl) LL laws_FnSidesFor_an ?_
  intro avs H r H' h
  unfold F_laws_FnSidesFor at h
  split at h
  · refine Awp.cast ?_ ?_ ?_ (laws_FnSidesFor_e _ h) <;> kernel_rfl
  · simp [Ans.no, Ans.run] at h


end Go.Rv
