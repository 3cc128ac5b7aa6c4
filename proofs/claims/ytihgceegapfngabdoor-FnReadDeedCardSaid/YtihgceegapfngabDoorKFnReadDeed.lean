/-
  The checked code answers as the plain functions do; written by program. Conditions: none.
-/
import Derived.Test.YtihgceegapfngabDoorGFnReadDeed
import Derived.Test.YtihgceegapfngabDoorFB
import Derived.Test.YtihgceegapfngabDoorProg
set_option linter.unusedVariables false
set_option linter.unusedSimpArgs false
set_option linter.defProp false
set_option maxRecDepth 100000
namespace Go.Rv
open Go.Proofs
theorem ty3 : TIOk Tryd.prog 3 ⟨.int .i64, 1, 8, some (.int .i64), [.int .i64 0], false⟩ := ⟨⟨infoOf (Tryd.prog.info? 3), by kernel_rfl, by kernel_rfl, by kernel_rfl, .int .i64 0, by kernel_rfl, by kernel_rfl⟩, (by kernel_rfl : Tryd.prog.underlying 3 = some (.int .i64)), no_eq⟩
theorem ty4 : TIOk Tryd.prog 4 ⟨.bool, 1, 1, some .bool, [.bool false], false⟩ := ⟨⟨infoOf (Tryd.prog.info? 4), by kernel_rfl, by kernel_rfl, by kernel_rfl, .bool false, by kernel_rfl, by kernel_rfl⟩, (by kernel_rfl : Tryd.prog.underlying 4 = some .bool), no_eq⟩
theorem ty5 : TIOk Tryd.prog 5 ⟨.int .u8, 1, 1, some (.int .u8), [.int .u8 0], false⟩ := ⟨⟨infoOf (Tryd.prog.info? 5), by kernel_rfl, by kernel_rfl, by kernel_rfl, .int .u8 0, by kernel_rfl, by kernel_rfl⟩, (by kernel_rfl : Tryd.prog.underlying 5 = some (.int .u8)), no_eq⟩
theorem ty9 : TIOk Tryd.prog 9 ⟨.str, 1, 16, some .str, [.string ByteArray.empty], false⟩ := ⟨⟨infoOf (Tryd.prog.info? 9), by kernel_rfl, by kernel_rfl, by kernel_rfl, .string ByteArray.empty, by kernel_rfl, by kernel_rfl⟩, (by kernel_rfl : Tryd.prog.underlying 9 = some .string), no_eq⟩
theorem ty22 : TIOk Tryd.prog 22 ⟨.slice 5, 1, 24, some (.list (.int .u8)), [.slice none 0 0], false⟩ := ⟨⟨infoOf (Tryd.prog.info? 22), by kernel_rfl, by kernel_rfl, by kernel_rfl, .slice none 0 0, by kernel_rfl, by kernel_rfl⟩, (by kernel_rfl : Tryd.prog.underlying 22 = some (.slice 5)), no_eq⟩
theorem ty24 : TIOk Tryd.prog 24 ⟨.strct [(0, 3), (1, 3), (2, 3)], 3, 24, some (.pair (.int .i64) (.pair (.int .i64) (.pair (.int .i64) .unit))), [.int .i64 0, .int .i64 0, .int .i64 0], true⟩ := ⟨⟨infoOf (Tryd.prog.info? 24), by kernel_rfl, by kernel_rfl, by kernel_rfl, .agg #[.int .i64 0, .int .i64 0, .int .i64 0], by kernel_rfl, by kernel_rfl⟩, ⟨fieldsOf (Tryd.prog.underlying 24), by kernel_rfl, by kernel_rfl⟩, fun _ => by kernel_rfl⟩
theorem ty32 : TIOk Tryd.prog 32 ⟨.slice 24, 1, 24, some (.list (.pair (.int .i64) (.pair (.int .i64) (.pair (.int .i64) .unit)))), [.slice none 0 0], false⟩ := ⟨⟨infoOf (Tryd.prog.info? 32), by kernel_rfl, by kernel_rfl, by kernel_rfl, .slice none 0 0, by kernel_rfl, by kernel_rfl⟩, (by kernel_rfl : Tryd.prog.underlying 32 = some (.slice 24)), no_eq⟩
theorem ty41 : TIOk Tryd.prog 41 ⟨.slice 3, 1, 24, some (.list (.int .i64)), [.slice none 0 0], false⟩ := ⟨⟨infoOf (Tryd.prog.info? 41), by kernel_rfl, by kernel_rfl, by kernel_rfl, .slice none 0 0, by kernel_rfl, by kernel_rfl⟩, (by kernel_rfl : Tryd.prog.underlying 41 = some (.slice 3)), no_eq⟩
theorem ty43 : TIOk Tryd.prog 43 ⟨.arr 6 9, 6, 96, none, [.string ByteArray.empty, .string ByteArray.empty, .string ByteArray.empty, .string ByteArray.empty, .string ByteArray.empty, .string ByteArray.empty], false⟩ := ⟨⟨infoOf (Tryd.prog.info? 43), by kernel_rfl, by kernel_rfl, by kernel_rfl, .agg #[.string ByteArray.empty, .string ByteArray.empty, .string ByteArray.empty, .string ByteArray.empty, .string ByteArray.empty, .string ByteArray.empty], by kernel_rfl, by kernel_rfl⟩, (by kernel_rfl : Tryd.prog.underlying 43 = some (.array 6 9)), no_eq⟩
theorem ty48 : TIOk Tryd.prog 48 ⟨.slice 9, 1, 24, some (.list .str), [.slice none 0 0], false⟩ := ⟨⟨infoOf (Tryd.prog.info? 48), by kernel_rfl, by kernel_rfl, by kernel_rfl, .slice none 0 0, by kernel_rfl, by kernel_rfl⟩, (by kernel_rfl : Tryd.prog.underlying 48 = some (.slice 9)), no_eq⟩
theorem ty66 : TIOk Tryd.prog 66 ⟨.strct [(0, 22), (1, 3)], 2, 32, some (.pair (.list (.int .u8)) (.pair (.int .i64) .unit)), [.slice none 0 0, .int .i64 0], false⟩ := ⟨⟨infoOf (Tryd.prog.info? 66), by kernel_rfl, by kernel_rfl, by kernel_rfl, .agg #[.slice none 0 0, .int .i64 0], by kernel_rfl, by kernel_rfl⟩, ⟨fieldsOf (Tryd.prog.underlying 66), by kernel_rfl, by kernel_rfl⟩, no_eq⟩
theorem ty79 : TIOk Tryd.prog 79 ⟨.strct [(0, 41), (1, 3), (2, 3)], 3, 40, some (.pair (.list (.int .i64)) (.pair (.int .i64) (.pair (.int .i64) .unit))), [.slice none 0 0, .int .i64 0, .int .i64 0], false⟩ := ⟨⟨infoOf (Tryd.prog.info? 79), by kernel_rfl, by kernel_rfl, by kernel_rfl, .agg #[.slice none 0 0, .int .i64 0, .int .i64 0], by kernel_rfl, by kernel_rfl⟩, ⟨fieldsOf (Tryd.prog.underlying 79), by kernel_rfl, by kernel_rfl⟩, no_eq⟩
def tys : List (TypeId × TI) := [(3, ⟨.int .i64, 1, 8, some (.int .i64), [.int .i64 0], false⟩), (4, ⟨.bool, 1, 1, some .bool, [.bool false], false⟩), (5, ⟨.int .u8, 1, 1, some (.int .u8), [.int .u8 0], false⟩), (9, ⟨.str, 1, 16, some .str, [.string ByteArray.empty], false⟩), (22, ⟨.slice 5, 1, 24, some (.list (.int .u8)), [.slice none 0 0], false⟩), (24, ⟨.strct [(0, 3), (1, 3), (2, 3)], 3, 24, some (.pair (.int .i64) (.pair (.int .i64) (.pair (.int .i64) .unit))), [.int .i64 0, .int .i64 0, .int .i64 0], true⟩), (32, ⟨.slice 24, 1, 24, some (.list (.pair (.int .i64) (.pair (.int .i64) (.pair (.int .i64) .unit)))), [.slice none 0 0], false⟩), (41, ⟨.slice 3, 1, 24, some (.list (.int .i64)), [.slice none 0 0], false⟩), (43, ⟨.arr 6 9, 6, 96, none, [.string ByteArray.empty, .string ByteArray.empty, .string ByteArray.empty, .string ByteArray.empty, .string ByteArray.empty, .string ByteArray.empty], false⟩), (48, ⟨.slice 9, 1, 24, some (.list .str), [.slice none 0 0], false⟩), (66, ⟨.strct [(0, 22), (1, 3)], 2, 32, some (.pair (.list (.int .u8)) (.pair (.int .i64) .unit)), [.slice none 0 0, .int .i64 0], false⟩), (79, ⟨.strct [(0, 41), (1, 3), (2, 3)], 3, 40, some (.pair (.list (.int .i64)) (.pair (.int .i64) (.pair (.int .i64) .unit))), [.slice none 0 0, .int .i64 0, .int .i64 0], false⟩)]
theorem tys_ok : TOk Tryd.prog (tlook tys) := tok_of (allc ty3 (allc ty4 (allc ty5 (allc ty9 (allc ty22 (allc ty24 (allc ty32 (allc ty41 (allc ty43 (allc ty48 (allc ty66 (allc ty79 alln))))))))))))
def ioF (f : FuncId) (i : Nat) : Bool := [(55, 1), (58, 1000), (59, 1000)].any fun (p : Nat × Nat) => Nat.beq p.1 f && Nat.beq p.2 i


/-! loop.example/headtrees/spec.l20Open -/

def spec_l20Open_an : Ann := (.seq (.leaf [0]) (.seq (.seq (.leaf [0, 5]) (.cond (.leaf [0]) (.leaf [0]))) (.seq (.leaf [2]) (.leaf [2]))))

noncomputable def spec_l20Open_ctx : Ctx := ⟨tlook tys, olook [], ioF, 0, false, []⟩

theorem spec_l20Open_n1_l (x12 : List Int) : Link spec_l20Open_ctx LL (bodyOf Tryd.f18) spec_l20Open_an ⟨mkE 11 0 [(0, dV x12)], []⟩ (spec_l20Open_n1 x12) (fun (t : (List Int)) => (Exit.ret, ⟨mkE 11 0 [(2, .ptr 0 0)], [some (.box [dV t, dI 0])]⟩)) := .of fun K h => by
  simp only [spec_l20Open_n1, wpW] at h
  exact .of (by kernel_rfl) h

theorem spec_l20Open_e (x12 : List Int) {r : AV} {H' : Heap} (h : (Ans.mk _ (spec_l20Open x12) (fun (t : (List Int)) => (.ptr 0 0, [some (.box [dV t, dI 0])])) [] none).run = some (r, H')) : Awp spec_l20Open_ctx LL (bodyOf Tryd.f18) spec_l20Open_an ⟨mkE 11 0 [(0, dV x12)], []⟩ (Ret (tlook tys) Tryd.f18.results.toList r H') :=
  ret_of' (spec_l20Open_n1_l x12) (by unfold spec_l20Open; kernel_rfl) (by
  intro t
  exact ret_mk [.ptr 0 0] (by kernel_rfl) (by kernel_rfl) (by kernel_rfl) (by kernel_rfl)) h

def F_spec_l20Open : Fun := fun avs H =>
  match avs, H with
  | [.dat (.list (.int .u8)) x12], [] => ⟨_, spec_l20Open x12, fun (t : (List Int)) => (.ptr 0 0, [some (.box [dV t, dI 0])]), [], none⟩
  | _, _ => Ans.no

theorem spec_l20Open_sound : Sound Tryd.prog 18 F_spec_l20Open := by
  refine fn_sound' (C := spec_l20Open_ctx) (c := bodyOf Tryd.f18) (cok_of tys_ok (alln) (alln) (by kernel_rfl)) Tryd.func18 (by kernel_rfl) LL spec_l20Open_an ?_
  intro avs H r H' h
  unfold F_spec_l20Open at h
  split at h
  · refine Awp.cast ?_ ?_ ?_ (spec_l20Open_e _ h) <;> kernel_rfl
  · simp [Ans.no, Ans.run] at h


/-! (*loop.example/headtrees/spec.l20Rd).pick -/

def spec_l20Rd_pick_an : Ann := (.seq (.leaf [0, 1]) (.seq (.leaf [0, 1]) (.seq (.seq (.leaf [0, 1, 24]) (.cond (.seq (.leaf [4]) (.leaf [4])) (.leaf [0, 1]))) (.seq (.leaf [0, 1, 5]) (.seq (.seq (.leaf [0, 1, 5, 36]) (.cond (.seq (.leaf [4]) (.leaf [4])) (.leaf [0, 1, 5]))) (.seq (.draw [] [0, 1, 2, 3, 4, 5, 6, 7, 8, 9, 10, 11, 12, 13, 14, 15, 16, 17, 18, 19, 20, 21, 22, 23, 24, 25, 26, 27, 28, 29, 30, 31, 32, 33, 34, 35, 36, 37, 38, 39, 40, 41, 42, 43, 44, 45] [] [1, 6]) (.seq (.leaf [1, 6]) (.seq (.leaf [4]) (.leaf [4])))))))))

noncomputable def spec_l20Rd_pick_ctx : Ctx := ⟨tlook tys, olook [], ioF, 1, false, []⟩

theorem spec_l20Rd_pick_n1_l (x41 : Int) (x42 : List Int) (x43 : Int) : Link spec_l20Rd_pick_ctx LL (bodyOf Tryd.f30) spec_l20Rd_pick_an ⟨mkE 99 0 [(0, .ptr 0 0), (1, dI x41)], [some (.box [dV x42, dI x43])]⟩ (spec_l20Rd_pick_n1 x41 x42 x43) (fun (t : Int × Int) => (Exit.ret, ⟨mkE 99 0 [(4, dI t.1)], [some (.box [dV x42, dI t.2])]⟩)) := .of fun K h => by
  simp only [spec_l20Rd_pick_n1, wpW] at h
  exact .of (by kernel_rfl) h

theorem spec_l20Rd_pick_e (x41 : Int) (x42 : List Int) (x43 : Int) {r : AV} {H' : Heap} (h : (Ans.mk _ (spec_l20Rd_pick x41 x42 x43) (fun (t : Int × Int) => (dI t.1, [some (.box [dV x42, dI t.2])])) [] none).run = some (r, H')) : Awp spec_l20Rd_pick_ctx LL (bodyOf Tryd.f30) spec_l20Rd_pick_an ⟨mkE 99 0 [(0, .ptr 0 0), (1, dI x41)], [some (.box [dV x42, dI x43])]⟩ (Ret (tlook tys) Tryd.f30.results.toList r H') :=
  ret_of' (spec_l20Rd_pick_n1_l x41 x42 x43) (by unfold spec_l20Rd_pick; kernel_rfl) (by
  intro t
  exact ret_mk [dI t.1] (by kernel_rfl) (by kernel_rfl) (by kernel_rfl) (by kernel_rfl)) h

def F_spec_l20Rd_pick : Fun := fun avs H =>
  match avs, H with
  | [.ptr 0 0, .dat (.int .i64) x41], [some (.box [.dat (.list (.int .u8)) x42, .dat (.int .i64) x43])] => ⟨_, spec_l20Rd_pick x41 x42 x43, fun (t : Int × Int) => (dI t.1, [some (.box [dV x42, dI t.2])]), [], none⟩
  | _, _ => Ans.no

theorem spec_l20Rd_pick_sound : Sound Tryd.prog 30 F_spec_l20Rd_pick := by
  refine fn_sound' (C := spec_l20Rd_pick_ctx) (c := bodyOf Tryd.f30) (cok_of tys_ok (alln) (alln) (by kernel_rfl)) Tryd.func30 (by kernel_rfl) LL spec_l20Rd_pick_an ?_
  intro avs H r H' h
  unfold F_spec_l20Rd_pick at h
  split at h
  · refine Awp.cast ?_ ?_ ?_ (spec_l20Rd_pick_e _ _ _ h) <;> kernel_rfl
  · simp [Ans.no, Ans.run] at h


/-! loop.example/headtrees/spec.l20Order -/

def spec_l20Order_an : Ann := (.seq (.leaf [0, 1]) (.seq (.leaf [0, 1, 5]) (.seq (.leaf [0, 1, 5, 6]) (.seq (.seq (.leaf [0, 1, 5, 6, 7]) (.block (.loop (.seq (.seq (.leaf [0, 1, 5, 6, 7, 15]) (.cond (.leaf [0, 1, 5, 6, 7]) (.leaf [5]))) (.seq (.block (.seq (.leaf [0, 1, 5, 6, 7, 8]) (.seq (.seq (.leaf [0, 1, 5, 6, 7, 8, 26]) (.cond (.leaf [0, 1, 5, 6, 7, 8]) (.leaf [0, 1, 5, 6, 7, 8]))) (.seq (.leaf [0, 1, 5, 6, 7, 8, 9]) (.seq (.leaf [0, 1, 5, 6, 7, 8, 9]) (.leaf [0, 1, 5, 6, 7])))))) (.leaf [0, 1, 5, 6, 7])))))) (.seq (.leaf [4]) (.leaf [4]))))))

noncomputable def spec_l20Order_ctx : Ctx := ⟨tlook tys, olook [(30, F_spec_l20Rd_pick)], ioF, 1, false, []⟩

theorem spec_l20Order_n1_l (x204 : Int) (x205 : List Int) (x206 : Int) : Link spec_l20Order_ctx LL (Code.seq (cq [0] (bodyOf Tryd.f42)) (Code.seq (cq [0,1] (bodyOf Tryd.f42)) (cq [0,1,1] (bodyOf Tryd.f42)))) (Ann.seq (aq [0] spec_l20Order_an) (Ann.seq (aq [0,1] spec_l20Order_an) (aq [0,1,1] spec_l20Order_an))) ⟨mkE 45 0 [(0, .ptr 0 0), (1, dI x204)], [some (.box [dV x205, dI x206])]⟩ (spec_l20Order_n1 x205 x206) (fun (t : Int × Int) => (Exit.normal, ⟨mkE 45 0 [(0, .ptr 0 0), (1, dI x204), (5, .slc 1), (6, dI t.1)], [some (.box [dV x205, dI t.2]), some (sI ([] : List Int))]⟩)) := .of fun K h => by
  simp only [spec_l20Order_n1, wpW] at h
  exact .of (by kernel_rfl) h

theorem spec_l20Order_n2_l (x204 : Int) (x209 : Int) (x205 : List Int) (x210 : Int) : Link spec_l20Order_ctx LL (cq [0,0,1,1,1] (bodyOf Tryd.f42)) (aq [0,0,1,1,1] spec_l20Order_an) ⟨mkE 45 0 [(0, .ptr 0 0), (1, dI x204), (5, .slc 1), (6, dI x209)], [some (.box [dV x205, dI x210]), some (sI ([] : List Int))]⟩ (spec_l20Order_n2) (fun (t : Unit) => (Exit.normal, ⟨mkE 45 0 [(0, .ptr 0 0), (1, dI x204), (5, .slc 1), (6, dI x209), (7, dI 1)], [some (.box [dV x205, dI x210]), some (sI ([] : List Int))]⟩)) := .of fun K h => by
  simp only [spec_l20Order_n2, wpW] at h
  exact .of (by kernel_rfl) h

theorem spec_l20Order_n3_l (x204 : Int) (x209 : Int) (x352 : Int) (x205 : List Int) (x353 : Int) (x354 : List Int) : Link spec_l20Order_ctx LL (cq [0,0,1,0,1,1,1] (bodyOf Tryd.f42)) (aq [0,0,1,0,1,1,1] spec_l20Order_an) ⟨mkE 45 0 [(0, .ptr 0 0), (1, dI x204), (5, .slc 1), (6, dI x209), (7, dI x352)], [some (.box [dV x205, dI x353]), some (sI x354)]⟩ (spec_l20Order_n3 x204 x209 x352 x205 x353 x354) (Sum.elim (fun (t : Int × Int × (List Int)) => (Exit.normal, ⟨mkE 45 0 [(0, .ptr 0 0), (1, dI x204), (5, .slc 1), (6, dI x209), (7, dI t.1)], [some (.box [dV x205, dI t.2.1]), some (sI t.2.2)]⟩)) (fun (t : Int × (List Int)) => ((Exit.exit 0), ⟨mkE 45 0 [(5, .slc 1)], [some (.box [dV x205, dI t.1]), some (sI t.2)]⟩))) := .of fun K h => by
  simp only [spec_l20Order_n3, wpW] at h
  exact .of (by kernel_rfl) h

def spec_l20Order_n4_l (x204 : Int) (x209 : Int) (x205 : List Int) (x210 : Int) := (link_loop (mk := fun (s : Int × Int × (List Int)) => ⟨mkE 45 0 [(0, .ptr 0 0), (1, dI x204), (5, .slc 1), (6, dI x209), (7, dI s.1)], [some (.box [dV x205, dI s.2.1]), some (sI s.2.2)]⟩) (fin := (fun (t : Int × (List Int)) => ((Exit.exit 0), ⟨mkE 45 0 [(5, .slc 1)], [some (.box [dV x205, dI t.1]), some (sI t.2)]⟩))) (by
  rintro t f K h
  · exact h) (fun s => link_map (spec_l20Order_n3_l x204 x209 s.1 x205 s.2.1 s.2.2) (Sum.elim (fun (t : Int × Int × (List Int)) => Sum.inl (t.1, t.2.1, t.2.2)) (fun (t : Int × (List Int)) => Sum.inr t)) (by
  rintro (t | t)
  · kernel_rfl
  · kernel_rfl)) (1, x210, ([] : List Int)))

def spec_l20Order_n5_l (x204 : Int) (x209 : Int) (x205 : List Int) (x210 : Int) := (link_block (fin2 := (fun (t : Int × (List Int)) => (Exit.normal, ⟨mkE 45 0 [(5, .slc 1)], [some (.box [dV x205, dI t.1]), some (sI t.2)]⟩))) (id := 0) (spec_l20Order_n4_l x204 x209 x205 x210) (fun (t : Int × (List Int)) => (t.1, t.2)) (by
  rintro t K h
  · exact Eq.mp (by kernel_rfl) h))

def spec_l20Order_n6_l (x204 : Int) (x209 : Int) (x205 : List Int) (x210 : Int) := (link_seq (spec_l20Order_n2_l x204 x209 x205 x210) (fun (t : Unit) => (spec_l20Order_n5_l x204 x209 x205 x210)))

theorem spec_l20Order_n7_l (x205 : List Int) (x353 : Int) (x354 : List Int) : Link spec_l20Order_ctx LL (cq [1,1,1,1] (bodyOf Tryd.f42)) (aq [1,1,1,1] spec_l20Order_an) ⟨mkE 45 0 [(5, .slc 1)], [some (.box [dV x205, dI x353]), some (sI x354)]⟩ (spec_l20Order_n7 x353 x354) (fun (t : Int × (List Int)) => (Exit.ret, ⟨mkE 45 0 [(4, .slc 1)], [some (.box [dV x205, dI t.1]), some (sI t.2)]⟩)) := .of fun K h => by
  simp only [spec_l20Order_n7, wpW] at h
  exact .of (by kernel_rfl) h

def spec_l20Order_n8_l (x204 : Int) (x209 : Int) (x205 : List Int) (x210 : Int) := (link_seq (spec_l20Order_n6_l x204 x209 x205 x210) (fun (t : Int × (List Int)) => (spec_l20Order_n7_l x205 t.1 t.2)))

def spec_l20Order_n9_l (x204 : Int) (x205 : List Int) (x206 : Int) := (link_group (c := (cq [0,1,1] (bodyOf Tryd.f42))) (a := (aq [0,1,1] spec_l20Order_an)) [(cq [0] (bodyOf Tryd.f42)), (cq [0,1] (bodyOf Tryd.f42))] [(aq [0] spec_l20Order_an), (aq [0,1] spec_l20Order_an)] rfl (link_seq (spec_l20Order_n1_l x204 x205 x206) (fun (t : Int × Int) => (spec_l20Order_n8_l x204 t.1 x205 t.2))))

theorem spec_l20Order_e (x204 : Int) (x205 : List Int) (x206 : Int) {r : AV} {H' : Heap} (h : (Ans.mk _ (spec_l20Order x204 x205 x206) (fun (t : Int × (List Int)) => (.slc 1, [some (.box [dV x205, dI t.1]), some (sI t.2)])) [] none).run = some (r, H')) : Awp spec_l20Order_ctx LL (bodyOf Tryd.f42) spec_l20Order_an ⟨mkE 45 0 [(0, .ptr 0 0), (1, dI x204)], [some (.box [dV x205, dI x206])]⟩ (Ret (tlook tys) Tryd.f42.results.toList r H') :=
  ret_of' (Link.cast (by kernel_rfl) (by kernel_rfl) (spec_l20Order_n9_l x204 x205 x206)) (by unfold spec_l20Order; kernel_rfl) (by
  intro t
  exact ret_mk [.slc 1] (by kernel_rfl) (by kernel_rfl) (by kernel_rfl) (by kernel_rfl)) h

def F_spec_l20Order : Fun := fun avs H =>
  match avs, H with
  | [.ptr 0 0, .dat (.int .i64) x204], [some (.box [.dat (.list (.int .u8)) x205, .dat (.int .i64) x206])] => ⟨_, spec_l20Order x204 x205 x206, fun (t : Int × (List Int)) => (.slc 1, [some (.box [dV x205, dI t.1]), some (sI t.2)]), [], none⟩
  | _, _ => Ans.no

theorem spec_l20Order_sound : Sound Tryd.prog 42 F_spec_l20Order := by
  refine fn_sound' (C := spec_l20Order_ctx) (c := bodyOf Tryd.f42) (cok_of tys_ok (allc spec_l20Rd_pick_sound alln) (allc Tryd.call30 alln) (by kernel_rfl)) Tryd.func42 (by kernel_rfl) LL spec_l20Order_an ?_
  intro avs H r H' h
  unfold F_spec_l20Order at h
  split at h
  · refine Awp.cast ?_ ?_ ?_ (spec_l20Order_e _ _ _ h) <;> kernel_rfl
  · simp [Ans.no, Ans.run] at h


/-! (*loop.example/headtrees/spec.l20Rd).odd -/

def spec_l20Rd_odd_an : Ann := (.seq (.leaf [0, 1]) (.seq (.leaf [4]) (.leaf [4])))

noncomputable def spec_l20Rd_odd_ctx : Ctx := ⟨tlook tys, olook [(30, F_spec_l20Rd_pick)], ioF, 1, false, []⟩

theorem spec_l20Rd_odd_n1_l (x661 : Int) (x662 : List Int) (x663 : Int) : Link spec_l20Rd_odd_ctx LL (bodyOf Tryd.f35) spec_l20Rd_odd_an ⟨mkE 15 0 [(0, .ptr 0 0), (1, dI x661)], [some (.box [dV x662, dI x663])]⟩ (spec_l20Rd_odd_n1 x661 x662 x663) (fun (t : Bool × Int) => (Exit.ret, ⟨mkE 15 0 [(4, dB t.1)], [some (.box [dV x662, dI t.2])]⟩)) := .of fun K h => by
  simp only [spec_l20Rd_odd_n1, wpW] at h
  exact .of (by kernel_rfl) h

theorem spec_l20Rd_odd_e (x661 : Int) (x662 : List Int) (x663 : Int) {r : AV} {H' : Heap} (h : (Ans.mk _ (spec_l20Rd_odd x661 x662 x663) (fun (t : Bool × Int) => (dB t.1, [some (.box [dV x662, dI t.2])])) [] none).run = some (r, H')) : Awp spec_l20Rd_odd_ctx LL (bodyOf Tryd.f35) spec_l20Rd_odd_an ⟨mkE 15 0 [(0, .ptr 0 0), (1, dI x661)], [some (.box [dV x662, dI x663])]⟩ (Ret (tlook tys) Tryd.f35.results.toList r H') :=
  ret_of' (spec_l20Rd_odd_n1_l x661 x662 x663) (by unfold spec_l20Rd_odd; kernel_rfl) (by
  intro t
  exact ret_mk [dB t.1] (by kernel_rfl) (by kernel_rfl) (by kernel_rfl) (by kernel_rfl)) h

def F_spec_l20Rd_odd : Fun := fun avs H =>
  match avs, H with
  | [.ptr 0 0, .dat (.int .i64) x661], [some (.box [.dat (.list (.int .u8)) x662, .dat (.int .i64) x663])] => ⟨_, spec_l20Rd_odd x661 x662 x663, fun (t : Bool × Int) => (dB t.1, [some (.box [dV x662, dI t.2])]), [], none⟩
  | _, _ => Ans.no

theorem spec_l20Rd_odd_sound : Sound Tryd.prog 35 F_spec_l20Rd_odd := by
  refine fn_sound' (C := spec_l20Rd_odd_ctx) (c := bodyOf Tryd.f35) (cok_of tys_ok (allc spec_l20Rd_pick_sound alln) (allc Tryd.call30 alln) (by kernel_rfl)) Tryd.func35 (by kernel_rfl) LL spec_l20Rd_odd_an ?_
  intro avs H r H' h
  unfold F_spec_l20Rd_odd at h
  split at h
  · refine Awp.cast ?_ ?_ ?_ (spec_l20Rd_odd_e _ _ _ h) <;> kernel_rfl
  · simp [Ans.no, Ans.run] at h


/-! loop.example/headtrees/spec.l20Tree -/

def spec_l20Tree_an : Ann := (.seq (.leaf [0, 1]) (.seq (.leaf [0, 1, 5]) (.seq (.leaf [0, 1, 5, 6]) (.seq (.leaf [0, 1, 5, 6, 7]) (.seq (.leaf [0, 1, 5, 6, 7, 8]) (.seq (.seq (.leaf [0, 1, 5, 6, 7, 8, 9]) (.block (.loop (.seq (.seq (.leaf [0, 1, 5, 6, 7, 8, 9, 23]) (.cond (.leaf [0, 1, 5, 6, 7, 8, 9]) (.leaf [0, 1, 5, 7]))) (.seq (.block (.seq (.leaf [0, 1, 5, 6, 7, 8, 9, 10]) (.seq (.seq (.leaf [0, 1, 5, 6, 7, 8, 9, 10, 35]) (.cond (.leaf [0, 1, 5, 6, 7, 8, 9, 10]) (.leaf [0, 1, 5, 6, 7, 8, 9, 10]))) (.draw [] [0, 1, 2, 3, 4, 5, 6, 7, 8, 9, 10, 11] [] [0, 1, 5, 6, 7, 8, 9])))) (.leaf [0, 1, 5, 6, 7, 8, 9])))))) (.seq (.seq (.leaf [0, 5, 7, 51]) (.cond (.seq (.leaf [0, 5, 7, 53]) (.block (.seq (.leaf [0, 5, 7, 53, 63]) (.cond (.seq (.leaf [4]) (.leaf [4])) (.seq (.leaf [0, 5, 7, 53, 66]) (.cond (.seq (.leaf [4]) (.leaf [4])) (.seq (.leaf [0, 5, 7, 69]) (.cond (.seq (.leaf [7]) (.seq (.leaf [4]) (.leaf [4]))) (.leaf [7]))))))))) (.leaf [7]))) (.seq (.leaf [4]) (.leaf [4])))))))))

noncomputable def spec_l20Tree_ctx : Ctx := ⟨tlook tys, olook [(30, F_spec_l20Rd_pick), (42, F_spec_l20Order), (35, F_spec_l20Rd_odd)], ioF, 1, false, []⟩

theorem spec_l20Tree_n1_l (x37 : Int) (x38 : List Int) (x39 : Int) : Link spec_l20Tree_ctx LL (Code.seq (cq [0] (bodyOf Tryd.f39)) (Code.seq (cq [0,1] (bodyOf Tryd.f39)) (Code.seq (cq [0,1,1] (bodyOf Tryd.f39)) (Code.seq (cq [0,1,1,1] (bodyOf Tryd.f39)) (cq [0,1,1,1,1] (bodyOf Tryd.f39)))))) (Ann.seq (aq [0] spec_l20Tree_an) (Ann.seq (aq [0,1] spec_l20Tree_an) (Ann.seq (aq [0,1,1] spec_l20Tree_an) (Ann.seq (aq [0,1,1,1] spec_l20Tree_an) (aq [0,1,1,1,1] spec_l20Tree_an))))) ⟨mkE 80 0 [(0, .ptr 0 0), (1, dI x37)], [some (.box [dV x38, dI x39])]⟩ (spec_l20Tree_n1 x38 x39) (fun (t : Int × Int × Int × (List Int) × (List Int)) => (Exit.normal, ⟨mkE 80 0 [(0, .ptr 0 0), (1, dI x37), (5, dI t.1), (6, .slc 1), (7, .slc 2), (8, dI t.2.1)], [some (.box [dV x38, dI t.2.2.1]), some (sI t.2.2.2.1), some (sI t.2.2.2.2)]⟩)) := .of fun K h => by
  simp only [spec_l20Tree_n1, wpW] at h
  exact .of (by kernel_rfl) h

theorem spec_l20Tree_n2_l (x37 : Int) (x511 : Int) (x518 : Int) (x38 : List Int) (x519 : Int) (x514 : List Int) (x516 : List Int) : Link spec_l20Tree_ctx LL (cq [0,0,1,1,1,1,1] (bodyOf Tryd.f39)) (aq [0,0,1,1,1,1,1] spec_l20Tree_an) ⟨mkE 80 0 [(0, .ptr 0 0), (1, dI x37), (5, dI x511), (6, .slc 1), (7, .slc 2), (8, dI x518)], [some (.box [dV x38, dI x519]), some (sI x514), some (sI x516)]⟩ (spec_l20Tree_n2) (fun (t : Unit) => (Exit.normal, ⟨mkE 80 0 [(0, .ptr 0 0), (1, dI x37), (5, dI x511), (6, .slc 1), (7, .slc 2), (8, dI x518), (9, dI 1)], [some (.box [dV x38, dI x519]), some (sI x514), some (sI x516)]⟩)) := .of fun K h => by
  simp only [spec_l20Tree_n2, wpW] at h
  exact .of (by kernel_rfl) h

theorem spec_l20Tree_n3_l (x37 : Int) (x511 : Int) (x518 : Int) (x589 : Int) (x38 : List Int) (x590 : Int) (x514 : List Int) (x591 : List Int) : Link spec_l20Tree_ctx LL (cq [0,0,1,0,1,1,1,1,1] (bodyOf Tryd.f39)) (aq [0,0,1,0,1,1,1,1,1] spec_l20Tree_an) ⟨mkE 80 0 [(0, .ptr 0 0), (1, dI x37), (5, dI x511), (6, .slc 1), (7, .slc 2), (8, dI x518), (9, dI x589)], [some (.box [dV x38, dI x590]), some (sI x514), some (sI x591)]⟩ (spec_l20Tree_n3 x511 x518 x589 x38 x590 x514 x591) (Sum.elim (fun (t : Int × Int × (List Int)) => (Exit.normal, ⟨mkE 80 0 [(0, .ptr 0 0), (1, dI x37), (5, dI x511), (6, .slc 1), (7, .slc 2), (8, dI x518), (9, dI t.1)], [some (.box [dV x38, dI t.2.1]), some (sI x514), some (sI t.2.2)]⟩)) (fun (t : Int × (List Int)) => ((Exit.exit 0), ⟨mkE 80 0 [(0, .ptr 0 0), (1, dI x37), (5, dI x511), (7, .slc 1)], [some (.box [dV x38, dI t.1]), some (sI t.2)]⟩))) := .of fun K h => by
  simp only [spec_l20Tree_n3, wpW] at h
  exact .of (by kernel_rfl) h

def spec_l20Tree_n4_l (x37 : Int) (x511 : Int) (x518 : Int) (x38 : List Int) (x519 : Int) (x514 : List Int) (x516 : List Int) := (link_loop (mk := fun (s : Int × Int × (List Int)) => ⟨mkE 80 0 [(0, .ptr 0 0), (1, dI x37), (5, dI x511), (6, .slc 1), (7, .slc 2), (8, dI x518), (9, dI s.1)], [some (.box [dV x38, dI s.2.1]), some (sI x514), some (sI s.2.2)]⟩) (fin := (fun (t : Int × (List Int)) => ((Exit.exit 0), ⟨mkE 80 0 [(0, .ptr 0 0), (1, dI x37), (5, dI x511), (7, .slc 1)], [some (.box [dV x38, dI t.1]), some (sI t.2)]⟩))) (by
  rintro t f K h
  · exact h) (fun s => link_map (spec_l20Tree_n3_l x37 x511 x518 s.1 x38 s.2.1 x514 s.2.2) (Sum.elim (fun (t : Int × Int × (List Int)) => Sum.inl (t.1, t.2.1, t.2.2)) (fun (t : Int × (List Int)) => Sum.inr t)) (by
  rintro (t | t)
  · kernel_rfl
  · kernel_rfl)) (1, x519, x516))

def spec_l20Tree_n5_l (x37 : Int) (x511 : Int) (x518 : Int) (x38 : List Int) (x519 : Int) (x514 : List Int) (x516 : List Int) := (link_block (fin2 := (fun (t : Int × (List Int)) => (Exit.normal, ⟨mkE 80 0 [(0, .ptr 0 0), (1, dI x37), (5, dI x511), (7, .slc 1)], [some (.box [dV x38, dI t.1]), some (sI t.2)]⟩))) (id := 0) (spec_l20Tree_n4_l x37 x511 x518 x38 x519 x514 x516) (fun (t : Int × (List Int)) => (t.1, t.2)) (by
  rintro t K h
  · exact Eq.mp (by kernel_rfl) h))

def spec_l20Tree_n6_l (x37 : Int) (x511 : Int) (x518 : Int) (x38 : List Int) (x519 : Int) (x514 : List Int) (x516 : List Int) := (link_seq (spec_l20Tree_n2_l x37 x511 x518 x38 x519 x514 x516) (fun (t : Unit) => (spec_l20Tree_n5_l x37 x511 x518 x38 x519 x514 x516)))

theorem spec_l20Tree_n7_l (x37 : Int) (x511 : Int) (x38 : List Int) (x590 : Int) (x591 : List Int) : Link spec_l20Tree_ctx LL (cq [1,1,1,1,1,1] (bodyOf Tryd.f39)) (aq [1,1,1,1,1,1] spec_l20Tree_an) ⟨mkE 80 0 [(0, .ptr 0 0), (1, dI x37), (5, dI x511), (7, .slc 1)], [some (.box [dV x38, dI x590]), some (sI x591)]⟩ (spec_l20Tree_n7 x37 x511 x38 x590 x591) (fun (t : Int × (List Int)) => (Exit.ret, ⟨mkE 80 0 [(4, .slc 1)], [some (.box [dV x38, dI t.1]), some (sI t.2)]⟩)) := .of fun K h => by
  simp only [spec_l20Tree_n7, wpW] at h
  exact .of (by kernel_rfl) h

def spec_l20Tree_n8_l (x37 : Int) (x511 : Int) (x518 : Int) (x38 : List Int) (x519 : Int) (x514 : List Int) (x516 : List Int) := (link_seq (spec_l20Tree_n6_l x37 x511 x518 x38 x519 x514 x516) (fun (t : Int × (List Int)) => (spec_l20Tree_n7_l x37 x511 x38 t.1 t.2)))

def spec_l20Tree_n9_l (x37 : Int) (x38 : List Int) (x39 : Int) := (link_group (c := (cq [0,1,1,1,1] (bodyOf Tryd.f39))) (a := (aq [0,1,1,1,1] spec_l20Tree_an)) [(cq [0] (bodyOf Tryd.f39)), (cq [0,1] (bodyOf Tryd.f39)), (cq [0,1,1] (bodyOf Tryd.f39)), (cq [0,1,1,1] (bodyOf Tryd.f39))] [(aq [0] spec_l20Tree_an), (aq [0,1] spec_l20Tree_an), (aq [0,1,1] spec_l20Tree_an), (aq [0,1,1,1] spec_l20Tree_an)] rfl (link_seq (spec_l20Tree_n1_l x37 x38 x39) (fun (t : Int × Int × Int × (List Int) × (List Int)) => (spec_l20Tree_n8_l x37 t.1 t.2.1 x38 t.2.2.1 t.2.2.2.1 t.2.2.2.2))))

theorem spec_l20Tree_e (x37 : Int) (x38 : List Int) (x39 : Int) {r : AV} {H' : Heap} (h : (Ans.mk _ (spec_l20Tree x37 x38 x39) (fun (t : Int × (List Int)) => (.slc 1, [some (.box [dV x38, dI t.1]), some (sI t.2)])) [] none).run = some (r, H')) : Awp spec_l20Tree_ctx LL (bodyOf Tryd.f39) spec_l20Tree_an ⟨mkE 80 0 [(0, .ptr 0 0), (1, dI x37)], [some (.box [dV x38, dI x39])]⟩ (Ret (tlook tys) Tryd.f39.results.toList r H') :=
  ret_of' (Link.cast (by kernel_rfl) (by kernel_rfl) (spec_l20Tree_n9_l x37 x38 x39)) (by unfold spec_l20Tree; kernel_rfl) (by
  intro t
  exact ret_mk [.slc 1] (by kernel_rfl) (by kernel_rfl) (by kernel_rfl) (by kernel_rfl)) h

def F_spec_l20Tree : Fun := fun avs H =>
  match avs, H with
  | [.ptr 0 0, .dat (.int .i64) x37], [some (.box [.dat (.list (.int .u8)) x38, .dat (.int .i64) x39])] => ⟨_, spec_l20Tree x37 x38 x39, fun (t : Int × (List Int)) => (.slc 1, [some (.box [dV x38, dI t.1]), some (sI t.2)]), [], none⟩
  | _, _ => Ans.no

theorem spec_l20Tree_sound : Sound Tryd.prog 39 F_spec_l20Tree := by
  refine fn_sound' (C := spec_l20Tree_ctx) (c := bodyOf Tryd.f39) (cok_of tys_ok (allc spec_l20Rd_pick_sound (allc spec_l20Order_sound (allc spec_l20Rd_odd_sound alln))) (allc Tryd.call30 (allc Tryd.call42 (allc Tryd.call35 alln))) (by kernel_rfl)) Tryd.func39 (by kernel_rfl) LL spec_l20Tree_an ?_
  intro avs H r H' h
  unfold F_spec_l20Tree at h
  split at h
  · refine Awp.cast ?_ ?_ ?_ (spec_l20Tree_e _ _ _ h) <;> kernel_rfl
  · simp [Ans.no, Ans.run] at h


/-! loop.example/headtrees/spec.l1In -/

def spec_l1In_an : Ann := (.seq (.leaf [0, 1, 2]) (.seq (.leaf [6]) (.leaf [6])))

noncomputable def spec_l1In_ctx : Ctx := ⟨tlook tys, olook [], ioF, 0, false, []⟩

theorem spec_l1In_n1_l (x780 : Int) (x781 : Int) (x782 : Int) : Link spec_l1In_ctx LL (bodyOf Tryd.f24) spec_l1In_an ⟨mkE 15 0 [(0, dI x780), (1, dI x781), (2, dI x782)], []⟩ (spec_l1In_n1 x780 x781 x782) (fun (t : Bool) => (Exit.ret, ⟨mkE 15 0 [(6, dB t)], []⟩)) := .of fun K h => by
  simp only [spec_l1In_n1, wpW] at h
  exact .of (by kernel_rfl) h

theorem spec_l1In_e (x780 : Int) (x781 : Int) (x782 : Int) {r : AV} {H' : Heap} (h : (Ans.mk _ (spec_l1In x780 x781 x782) (fun (t : Bool) => (dB t, [])) [] none).run = some (r, H')) : Awp spec_l1In_ctx LL (bodyOf Tryd.f24) spec_l1In_an ⟨mkE 15 0 [(0, dI x780), (1, dI x781), (2, dI x782)], []⟩ (Ret (tlook tys) Tryd.f24.results.toList r H') :=
  ret_of' (spec_l1In_n1_l x780 x781 x782) (by unfold spec_l1In; kernel_rfl) (by
  intro t
  exact ret_mk [dB t] (by kernel_rfl) (by kernel_rfl) (by kernel_rfl) (by kernel_rfl)) h

def F_spec_l1In : Fun := fun avs H =>
  match avs, H with
  | [.dat (.int .i64) x780, .dat (.int .i64) x781, .dat (.int .i64) x782], [] => ⟨_, spec_l1In x780 x781 x782, fun (t : Bool) => (dB t, []), [], none⟩
  | _, _ => Ans.no

theorem spec_l1In_sound : Sound Tryd.prog 24 F_spec_l1In := by
  refine fn_sound' (C := spec_l1In_ctx) (c := bodyOf Tryd.f24) (cok_of tys_ok (alln) (alln) (by kernel_rfl)) Tryd.func24 (by kernel_rfl) LL spec_l1In_an ?_
  intro avs H r H' h
  unfold F_spec_l1In at h
  split at h
  · refine Awp.cast ?_ ?_ ?_ (spec_l1In_e _ _ _ h) <;> kernel_rfl
  · simp [Ans.no, Ans.run] at h


/-! loop.example/headtrees/spec.TreeOk -/

def spec_TreeOk_an : Ann := (.seq (.leaf [0]) (.seq (.leaf [0, 3]) (.seq (.seq (.leaf [0, 3, 12]) (.cond (.seq (.leaf [2]) (.leaf [2])) (.leaf [0, 3]))) (.seq (.leaf [0, 3, 4]) (.seq (.seq (.leaf [0, 3, 4, 5]) (.block (.loop (.seq (.seq (.leaf [0, 3, 4, 5, 15]) (.cond (.leaf [0, 3, 4, 5]) (.leaf [4]))) (.seq (.block (.seq (.seq (.leaf [0, 3, 4, 5, 33]) (.cond (.seq (.leaf [2]) (.leaf [2])) (.leaf [0, 3, 4, 5]))) (.seq (.seq (.leaf [0, 3, 4, 5, 38]) (.cond (.leaf [0, 3, 4, 5]) (.leaf [0, 3, 4, 5]))) (.seq (.leaf [0, 3, 4, 5, 6]) (.seq (.seq (.leaf [0, 3, 4, 5, 6, 7]) (.block (.loop (.seq (.seq (.leaf [0, 3, 4, 5, 6, 7, 49]) (.cond (.leaf [0, 3, 4, 5, 6, 7]) (.leaf [0, 3, 4, 5, 6]))) (.seq (.block (.seq (.leaf [0, 3, 4, 5, 6, 7]) (.seq (.leaf [0, 3, 4, 5, 6, 7, 60]) (.cond (.seq (.leaf [2]) (.leaf [2])) (.leaf [0, 3, 4, 5, 6, 7]))))) (.leaf [0, 3, 4, 5, 6, 7])))))) (.seq (.leaf [0, 3, 4, 5, 62]) (.cond (.seq (.leaf [2]) (.leaf [2])) (.leaf [0, 3, 4, 5])))))))) (.leaf [0, 3, 4, 5])))))) (.seq (.leaf [2]) (.leaf [2])))))))

noncomputable def spec_TreeOk_ctx : Ctx := ⟨tlook tys, olook [(24, F_spec_l1In)], ioF, 0, false, []⟩

theorem spec_TreeOk_n1_l (x776 : List Int) : Link spec_TreeOk_ctx LL (Code.seq (cq [0] (bodyOf Tryd.f40)) (Code.seq (cq [0,1] (bodyOf Tryd.f40)) (Code.seq (cq [0,1,1] (bodyOf Tryd.f40)) (cq [0,1,1,1] (bodyOf Tryd.f40))))) (Ann.seq (aq [0] spec_TreeOk_an) (Ann.seq (aq [0,1] spec_TreeOk_an) (Ann.seq (aq [0,1,1] spec_TreeOk_an) (aq [0,1,1,1] spec_TreeOk_an)))) ⟨mkE 65 0 [(0, dL x776)], []⟩ (spec_TreeOk_n1 x776) (Sum.elim (fun (t : Int) => (Exit.normal, ⟨mkE 65 0 [(0, dL x776), (3, dI t), (4, dI 0)], []⟩)) (fun (t : Bool) => (Exit.ret, ⟨mkE 65 0 [(2, dB t)], []⟩))) := .of fun K h => by
  simp only [spec_TreeOk_n1, wpW] at h
  exact .of (by kernel_rfl) h

theorem spec_TreeOk_n2_l (x776 : List Int) (x790 : Int) : Link spec_TreeOk_ctx LL (cq [0,0,1,1,1,1] (bodyOf Tryd.f40)) (aq [0,0,1,1,1,1] spec_TreeOk_an) ⟨mkE 65 0 [(0, dL x776), (3, dI x790), (4, dI 0)], []⟩ (spec_TreeOk_n2) (fun (t : Unit) => (Exit.normal, ⟨mkE 65 0 [(0, dL x776), (3, dI x790), (4, dI 0), (5, dI 0)], []⟩)) := .of fun K h => by
  simp only [spec_TreeOk_n2, wpW] at h
  exact .of (by kernel_rfl) h

theorem spec_TreeOk_n3_l (x776 : List Int) (x790 : Int) (x857 : Int) (x858 : Int) : Link spec_TreeOk_ctx LL (cq [0,0,0,1,0,1,1,1,1] (bodyOf Tryd.f40)) (aq [0,0,0,1,0,1,1,1,1] spec_TreeOk_an) ⟨mkE 65 0 [(0, dL x776), (3, dI x790), (4, dI x857), (5, dI x858)], []⟩ (spec_TreeOk_n3 x790 x857 x858) (Sum.elim (fun (t : Unit) => (Exit.normal, ⟨mkE 65 0 [(0, dL x776), (3, dI x790), (4, dI x857), (5, dI x858)], []⟩)) (fun (t : Int) => ((Exit.exit 0), ⟨mkE 65 0 [(4, dI t)], []⟩))) := .of fun K h => by
  simp only [spec_TreeOk_n3, wpW] at h
  exact .of (by kernel_rfl) h

theorem spec_TreeOk_n4_l (x776 : List Int) (x790 : Int) (x857 : Int) (x858 : Int) : Link spec_TreeOk_ctx LL (Code.seq (cq [0,0,0,1,0,0,1,0,1,1,1,1] (bodyOf Tryd.f40)) (Code.seq (cq [0,1,0,0,1,0,0,1,0,1,1,1,1] (bodyOf Tryd.f40)) (cq [0,1,1,0,0,1,0,0,1,0,1,1,1,1] (bodyOf Tryd.f40)))) (Ann.seq (aq [0,0,0,1,0,0,1,0,1,1,1,1] spec_TreeOk_an) (Ann.seq (aq [0,1,0,0,1,0,0,1,0,1,1,1,1] spec_TreeOk_an) (aq [0,1,1,0,0,1,0,0,1,0,1,1,1,1] spec_TreeOk_an))) ⟨mkE 65 0 [(0, dL x776), (3, dI x790), (4, dI x857), (5, dI x858)], []⟩ (spec_TreeOk_n4 x776 x790 x857 x858) (Sum.elim (fun (t : Int × Int) => (Exit.normal, ⟨mkE 65 0 [(0, dL x776), (3, dI x790), (4, dI t.1), (5, dI x858), (6, dI t.2)], []⟩)) (fun (t : Bool) => (Exit.ret, ⟨mkE 65 0 [(2, dB t)], []⟩))) := .of fun K h => by
  simp only [spec_TreeOk_n4, wpW] at h
  exact .of (by kernel_rfl) h

theorem spec_TreeOk_n5_l (x776 : List Int) (x790 : Int) (x886 : Int) (x858 : Int) (x887 : Int) : Link spec_TreeOk_ctx LL (cq [0,0,1,1,1,0,0,1,0,0,1,0,1,1,1,1] (bodyOf Tryd.f40)) (aq [0,0,1,1,1,0,0,1,0,0,1,0,1,1,1,1] spec_TreeOk_an) ⟨mkE 65 0 [(0, dL x776), (3, dI x790), (4, dI x886), (5, dI x858), (6, dI x887)], []⟩ (spec_TreeOk_n5) (fun (t : Unit) => (Exit.normal, ⟨mkE 65 0 [(0, dL x776), (3, dI x790), (4, dI x886), (5, dI x858), (6, dI x887), (7, dI 0)], []⟩)) := .of fun K h => by
  simp only [spec_TreeOk_n5, wpW] at h
  exact .of (by kernel_rfl) h

theorem spec_TreeOk_n6_l (x776 : List Int) (x790 : Int) (x886 : Int) (x858 : Int) (x903 : Int) (x904 : Int) : Link spec_TreeOk_ctx LL (cq [0,0,1,0,1,1,1,0,0,1,0,0,1,0,1,1,1,1] (bodyOf Tryd.f40)) (aq [0,0,1,0,1,1,1,0,0,1,0,0,1,0,1,1,1,1] spec_TreeOk_an) ⟨mkE 65 0 [(0, dL x776), (3, dI x790), (4, dI x886), (5, dI x858), (6, dI x903), (7, dI x904)], []⟩ (spec_TreeOk_n6 x776 x790 x903 x904) (Sum.elim (fun (t : Int × Int) => (Exit.normal, ⟨mkE 65 0 [(0, dL x776), (3, dI x790), (4, dI x886), (5, dI x858), (6, dI t.1), (7, dI t.2)], []⟩)) (Sum.elim (fun (t : Bool) => (Exit.ret, ⟨mkE 65 0 [(2, dB t)], []⟩)) (fun (t : Int) => ((Exit.exit 2), ⟨mkE 65 0 [(0, dL x776), (3, dI x790), (4, dI x886), (5, dI x858), (6, dI t)], []⟩)))) := .of fun K h => by
  simp only [spec_TreeOk_n6, wpW] at h
  exact .of (by kernel_rfl) h

def spec_TreeOk_n7_l (x776 : List Int) (x790 : Int) (x886 : Int) (x858 : Int) (x887 : Int) := (link_loop (mk := fun (s : Int × Int) => ⟨mkE 65 0 [(0, dL x776), (3, dI x790), (4, dI x886), (5, dI x858), (6, dI s.1), (7, dI s.2)], []⟩) (fin := (Sum.elim (fun (t : Bool) => (Exit.ret, ⟨mkE 65 0 [(2, dB t)], []⟩)) (fun (t : Int) => ((Exit.exit 2), ⟨mkE 65 0 [(0, dL x776), (3, dI x790), (4, dI x886), (5, dI x858), (6, dI t)], []⟩)))) (by
  rintro (t | t) f K h
  · exact h
  · exact h) (fun s => link_map (spec_TreeOk_n6_l x776 x790 x886 x858 s.1 s.2) (Sum.elim (fun (t : Int × Int) => Sum.inl (t.1, t.2)) (Sum.elim (fun (t : Bool) => Sum.inr (Sum.inl t)) (fun (t : Int) => Sum.inr (Sum.inr t)))) (by
  rintro (t | t | t)
  · kernel_rfl
  · kernel_rfl
  · kernel_rfl)) (x887, 0))

def spec_TreeOk_n8_l (x776 : List Int) (x790 : Int) (x886 : Int) (x858 : Int) (x887 : Int) := (link_block (fin2 := (Sum.elim (fun (t : Int) => (Exit.normal, ⟨mkE 65 0 [(0, dL x776), (3, dI x790), (4, dI x886), (5, dI x858), (6, dI t)], []⟩)) (fun (t : Bool) => (Exit.ret, ⟨mkE 65 0 [(2, dB t)], []⟩)))) (id := 2) (spec_TreeOk_n7_l x776 x790 x886 x858 x887) (Sum.elim (fun (t : Bool) => (Sum.inr t)) (fun (t : Int) => (Sum.inl t))) (by
  rintro (t | t) K h
  · exact Eq.mp (by kernel_rfl) h
  · exact Eq.mp (by kernel_rfl) h))

def spec_TreeOk_n9_l (x776 : List Int) (x790 : Int) (x886 : Int) (x858 : Int) (x887 : Int) := (link_seq (spec_TreeOk_n5_l x776 x790 x886 x858 x887) (fun (t : Unit) => (spec_TreeOk_n8_l x776 x790 x886 x858 x887)))

theorem spec_TreeOk_n10_l (x776 : List Int) (x790 : Int) (x886 : Int) (x858 : Int) (x903 : Int) : Link spec_TreeOk_ctx LL (cq [1,1,1,1,0,0,1,0,0,1,0,1,1,1,1] (bodyOf Tryd.f40)) (aq [1,1,1,1,0,0,1,0,0,1,0,1,1,1,1] spec_TreeOk_an) ⟨mkE 65 0 [(0, dL x776), (3, dI x790), (4, dI x886), (5, dI x858), (6, dI x903)], []⟩ (spec_TreeOk_n10 x903) (Sum.elim (fun (t : Unit) => (Exit.normal, ⟨mkE 65 0 [(0, dL x776), (3, dI x790), (4, dI x886), (5, dI x858)], []⟩)) (fun (t : Bool) => (Exit.ret, ⟨mkE 65 0 [(2, dB t)], []⟩))) := .of fun K h => by
  simp only [spec_TreeOk_n10, wpW] at h
  exact .of (by kernel_rfl) h

def spec_TreeOk_n11_l (x776 : List Int) (x790 : Int) (x886 : Int) (x858 : Int) (x887 : Int) := (link_seq2 (spec_TreeOk_n9_l x776 x790 x886 x858 x887) (fun (t : Int) => (spec_TreeOk_n10_l x776 x790 x886 x858 t)) (fun (t : Bool) => (Sum.inr t)) (by
  rintro t
  · kernel_rfl) (by
  rintro t f K h
  · exact h))

def spec_TreeOk_n12_l (x776 : List Int) (x790 : Int) (x857 : Int) (x858 : Int) := (link_group (c := (cq [0,1,1,0,0,1,0,0,1,0,1,1,1,1] (bodyOf Tryd.f40))) (a := (aq [0,1,1,0,0,1,0,0,1,0,1,1,1,1] spec_TreeOk_an)) [(cq [0,0,0,1,0,0,1,0,1,1,1,1] (bodyOf Tryd.f40)), (cq [0,1,0,0,1,0,0,1,0,1,1,1,1] (bodyOf Tryd.f40))] [(aq [0,0,0,1,0,0,1,0,1,1,1,1] spec_TreeOk_an), (aq [0,1,0,0,1,0,0,1,0,1,1,1,1] spec_TreeOk_an)] rfl (link_seq2 (spec_TreeOk_n4_l x776 x790 x857 x858) (fun (t : Int × Int) => (link_map (fin2 := (Sum.elim (fun (t : Int) => (Exit.normal, ⟨mkE 65 0 [(0, dL x776), (3, dI x790), (4, dI t), (5, dI x858)], []⟩)) (fun (t : Bool) => (Exit.ret, ⟨mkE 65 0 [(2, dB t)], []⟩)))) (spec_TreeOk_n11_l x776 x790 t.1 x858 t.2) (Sum.elim (fun (u : Unit) => (Sum.inl t.1)) (fun (u : Bool) => (Sum.inr u))) (by
  rintro (t | t)
  · kernel_rfl
  · kernel_rfl))) (fun (t : Bool) => (Sum.inr t)) (by
  rintro t
  · kernel_rfl) (by
  rintro t f K h
  · exact h)))

def spec_TreeOk_n13_l (x776 : List Int) (x790 : Int) (x857 : Int) (x858 : Int) := (link_block (fin2 := (Sum.elim (fun (t : Int) => (Exit.normal, ⟨mkE 65 0 [(0, dL x776), (3, dI x790), (4, dI t), (5, dI x858)], []⟩)) (fun (t : Bool) => (Exit.ret, ⟨mkE 65 0 [(2, dB t)], []⟩)))) (id := 1) (spec_TreeOk_n12_l x776 x790 x857 x858) (Sum.elim (fun (t : Int) => (Sum.inl t)) (fun (t : Bool) => (Sum.inr t))) (by
  rintro (t | t) K h
  · exact Eq.mp (by kernel_rfl) h
  · exact Eq.mp (by kernel_rfl) h))

theorem spec_TreeOk_n14_l (x776 : List Int) (x790 : Int) (x886 : Int) (x858 : Int) : Link spec_TreeOk_ctx LL (cq [1,1,0,0,1,0,1,1,1,1] (bodyOf Tryd.f40)) (aq [1,1,0,0,1,0,1,1,1,1] spec_TreeOk_an) ⟨mkE 65 0 [(0, dL x776), (3, dI x790), (4, dI x886), (5, dI x858)], []⟩ (spec_TreeOk_n14 x858) (fun (t : Int) => (Exit.normal, ⟨mkE 65 0 [(0, dL x776), (3, dI x790), (4, dI x886), (5, dI t)], []⟩)) := .of fun K h => by
  simp only [spec_TreeOk_n14, wpW] at h
  exact .of (by kernel_rfl) h

def spec_TreeOk_n15_l (x776 : List Int) (x790 : Int) (x857 : Int) (x858 : Int) := (link_seq2 (spec_TreeOk_n13_l x776 x790 x857 x858) (fun (t : Int) => (link_map (fin2 := (Sum.elim (fun (t : Int × Int) => (Exit.normal, ⟨mkE 65 0 [(0, dL x776), (3, dI x790), (4, dI t.1), (5, dI t.2)], []⟩)) (fun (t : Bool) => (Exit.ret, ⟨mkE 65 0 [(2, dB t)], []⟩)))) (spec_TreeOk_n14_l x776 x790 t x858) (fun (u : Int) => (Sum.inl (t, u))) (by
  rintro t
  · kernel_rfl))) (fun (t : Bool) => (Sum.inr t)) (by
  rintro t
  · kernel_rfl) (by
  rintro t f K h
  · exact h))

def spec_TreeOk_n16_l (x776 : List Int) (x790 : Int) (x857 : Int) (x858 : Int) := (link_seq2 (spec_TreeOk_n3_l x776 x790 x857 x858) (fun (t : Unit) => (link_map (fin2 := (Sum.elim (fun (t : Int × Int) => (Exit.normal, ⟨mkE 65 0 [(0, dL x776), (3, dI x790), (4, dI t.1), (5, dI t.2)], []⟩)) (Sum.elim (fun (t : Bool) => (Exit.ret, ⟨mkE 65 0 [(2, dB t)], []⟩)) (fun (t : Int) => ((Exit.exit 0), ⟨mkE 65 0 [(4, dI t)], []⟩))))) (spec_TreeOk_n15_l x776 x790 x857 x858) (Sum.elim (fun (t : Int × Int) => (Sum.inl (t.1, t.2))) (fun (t : Bool) => (Sum.inr (Sum.inl t)))) (by
  rintro (t | t)
  · kernel_rfl
  · kernel_rfl))) (fun (t : Int) => (Sum.inr (Sum.inr t))) (by
  rintro t
  · kernel_rfl) (by
  rintro t f K h
  · exact h))

def spec_TreeOk_n17_l (x776 : List Int) (x790 : Int) := (link_loop (mk := fun (s : Int × Int) => ⟨mkE 65 0 [(0, dL x776), (3, dI x790), (4, dI s.1), (5, dI s.2)], []⟩) (fin := (Sum.elim (fun (t : Bool) => (Exit.ret, ⟨mkE 65 0 [(2, dB t)], []⟩)) (fun (t : Int) => ((Exit.exit 0), ⟨mkE 65 0 [(4, dI t)], []⟩)))) (by
  rintro (t | t) f K h
  · exact h
  · exact h) (fun s => link_map (spec_TreeOk_n16_l x776 x790 s.1 s.2) (Sum.elim (fun (t : Int × Int) => Sum.inl (t.1, t.2)) (Sum.elim (fun (t : Bool) => Sum.inr (Sum.inl t)) (fun (t : Int) => Sum.inr (Sum.inr t)))) (by
  rintro (t | t | t)
  · kernel_rfl
  · kernel_rfl
  · kernel_rfl)) (0, 0))

def spec_TreeOk_n18_l (x776 : List Int) (x790 : Int) := (link_block (fin2 := (Sum.elim (fun (t : Int) => (Exit.normal, ⟨mkE 65 0 [(4, dI t)], []⟩)) (fun (t : Bool) => (Exit.ret, ⟨mkE 65 0 [(2, dB t)], []⟩)))) (id := 0) (spec_TreeOk_n17_l x776 x790) (Sum.elim (fun (t : Bool) => (Sum.inr t)) (fun (t : Int) => (Sum.inl t))) (by
  rintro (t | t) K h
  · exact Eq.mp (by kernel_rfl) h
  · exact Eq.mp (by kernel_rfl) h))

def spec_TreeOk_n19_l (x776 : List Int) (x790 : Int) := (link_seq (spec_TreeOk_n2_l x776 x790) (fun (t : Unit) => (spec_TreeOk_n18_l x776 x790)))

theorem spec_TreeOk_n20_l (x857 : Int) : Link spec_TreeOk_ctx LL (cq [1,1,1,1,1] (bodyOf Tryd.f40)) (aq [1,1,1,1,1] spec_TreeOk_an) ⟨mkE 65 0 [(4, dI x857)], []⟩ (spec_TreeOk_n20 x857) (fun (t : Bool) => (Exit.ret, ⟨mkE 65 0 [(2, dB t)], []⟩)) := .of fun K h => by
  simp only [spec_TreeOk_n20, wpW] at h
  exact .of (by kernel_rfl) h

def spec_TreeOk_n21_l (x776 : List Int) (x790 : Int) := (link_seq2 (spec_TreeOk_n19_l x776 x790) (fun (t : Int) => (spec_TreeOk_n20_l t)) (fun (t : Bool) => t) (by
  rintro t
  · kernel_rfl) (by
  rintro t f K h
  · exact h))

def spec_TreeOk_n22_l (x776 : List Int) := (link_group (c := (cq [0,1,1,1] (bodyOf Tryd.f40))) (a := (aq [0,1,1,1] spec_TreeOk_an)) [(cq [0] (bodyOf Tryd.f40)), (cq [0,1] (bodyOf Tryd.f40)), (cq [0,1,1] (bodyOf Tryd.f40))] [(aq [0] spec_TreeOk_an), (aq [0,1] spec_TreeOk_an), (aq [0,1,1] spec_TreeOk_an)] rfl (link_seq2 (spec_TreeOk_n1_l x776) (fun (t : Int) => (spec_TreeOk_n21_l x776 t)) (fun (t : Bool) => t) (by
  rintro t
  · kernel_rfl) (by
  rintro t f K h
  · exact h)))

theorem spec_TreeOk_e (x776 : List Int) {r : AV} {H' : Heap} (h : (Ans.mk _ (spec_TreeOk x776) (fun (t : Bool) => (dB t, [])) [] none).run = some (r, H')) : Awp spec_TreeOk_ctx LL (bodyOf Tryd.f40) spec_TreeOk_an ⟨mkE 65 0 [(0, dL x776)], []⟩ (Ret (tlook tys) Tryd.f40.results.toList r H') :=
  ret_of' (Link.cast (by kernel_rfl) (by kernel_rfl) (spec_TreeOk_n22_l x776)) (by unfold spec_TreeOk; kernel_rfl) (by
  intro t
  exact ret_mk [dB t] (by kernel_rfl) (by kernel_rfl) (by kernel_rfl) (by kernel_rfl)) h

def F_spec_TreeOk : Fun := fun avs H =>
  match avs, H with
  | [.dat (.list (.int .i64)) x776], [] => ⟨_, spec_TreeOk x776, fun (t : Bool) => (dB t, []), [], none⟩
  | _, _ => Ans.no

theorem spec_TreeOk_sound : Sound Tryd.prog 40 F_spec_TreeOk := by
  refine fn_sound' (C := spec_TreeOk_ctx) (c := bodyOf Tryd.f40) (cok_of tys_ok (allc spec_l1In_sound alln) (allc Tryd.call24 alln) (by kernel_rfl)) Tryd.func40 (by kernel_rfl) LL spec_TreeOk_an ?_
  intro avs H r H' h
  unfold F_spec_TreeOk at h
  split at h
  · refine Awp.cast ?_ ?_ ?_ (spec_TreeOk_e _ h) <;> kernel_rfl
  · simp [Ans.no, Ans.run] at h


/-! loop.example/headtrees/spec.OrderOk -/

def spec_OrderOk_an : Ann := (.seq (.leaf [0, 1]) (.seq (.seq (.leaf [0, 1, 5]) (.block (.loop (.seq (.seq (.leaf [0, 1, 5, 10]) (.cond (.leaf [0, 1, 5]) (.leaf [0, 1]))) (.seq (.block (.seq (.seq (.leaf [0, 1, 5, 19]) (.cond (.seq (.leaf [4]) (.leaf [4])) (.leaf [0, 1, 5]))) (.seq (.leaf [0, 1, 5, 6]) (.block (.loop (.seq (.seq (.leaf [0, 1, 5, 6, 22]) (.cond (.leaf [0, 1, 5, 6]) (.leaf [0, 1, 5]))) (.seq (.block (.seq (.draw [] [0, 1, 2, 3, 4, 5, 6, 7, 8] [] [0, 1, 5, 6, 33]) (.cond (.seq (.leaf [4]) (.leaf [4])) (.leaf [0, 1, 5, 6])))) (.leaf [0, 1, 5, 6])))))))) (.leaf [0, 1, 5])))))) (.seq (.leaf [4]) (.leaf [4]))))

noncomputable def spec_OrderOk_ctx : Ctx := ⟨tlook tys, olook [(24, F_spec_l1In)], ioF, 0, false, []⟩

theorem spec_OrderOk_n1_l (x936 : List Int) (x937 : Int) : Link spec_OrderOk_ctx LL (cq [0] (bodyOf Tryd.f54)) (aq [0] spec_OrderOk_an) ⟨mkE 42 0 [(0, dL x936), (1, dI x937)], []⟩ (spec_OrderOk_n1) (fun (t : Unit) => (Exit.normal, ⟨mkE 42 0 [(0, dL x936), (1, dI x937)], []⟩)) := .of fun K h => by
  simp only [spec_OrderOk_n1, wpW] at h
  exact .of (by kernel_rfl) h

theorem spec_OrderOk_n2_l (x936 : List Int) (x937 : Int) : Link spec_OrderOk_ctx LL (cq [0,0,1] (bodyOf Tryd.f54)) (aq [0,0,1] spec_OrderOk_an) ⟨mkE 42 0 [(0, dL x936), (1, dI x937)], []⟩ (spec_OrderOk_n2) (fun (t : Unit) => (Exit.normal, ⟨mkE 42 0 [(0, dL x936), (1, dI x937), (5, dI 0)], []⟩)) := .of fun K h => by
  simp only [spec_OrderOk_n2, wpW] at h
  exact .of (by kernel_rfl) h

theorem spec_OrderOk_n3_l (x936 : List Int) (x937 : Int) (x968 : Int) : Link spec_OrderOk_ctx LL (cq [0,0,0,1,0,1] (bodyOf Tryd.f54)) (aq [0,0,0,1,0,1] spec_OrderOk_an) ⟨mkE 42 0 [(0, dL x936), (1, dI x937), (5, dI x968)], []⟩ (spec_OrderOk_n3 x936 x968) (Sum.elim (fun (t : Unit) => (Exit.normal, ⟨mkE 42 0 [(0, dL x936), (1, dI x937), (5, dI x968)], []⟩)) (fun (t : Unit) => ((Exit.exit 0), ⟨mkE 42 0 [(0, dL x936), (1, dI x937)], []⟩))) := .of fun K h => by
  simp only [spec_OrderOk_n3, wpW] at h
  exact .of (by kernel_rfl) h

theorem spec_OrderOk_n4_l (x936 : List Int) (x937 : Int) (x968 : Int) : Link spec_OrderOk_ctx LL (Code.seq (cq [0,0,0,1,0,0,1,0,1] (bodyOf Tryd.f54)) (cq [0,1,0,0,1,0,0,1,0,1] (bodyOf Tryd.f54))) (Ann.seq (aq [0,0,0,1,0,0,1,0,1] spec_OrderOk_an) (aq [0,1,0,0,1,0,0,1,0,1] spec_OrderOk_an)) ⟨mkE 42 0 [(0, dL x936), (1, dI x937), (5, dI x968)], []⟩ (spec_OrderOk_n4 x936 x937 x968) (Sum.elim (fun (t : Unit) => (Exit.normal, ⟨mkE 42 0 [(0, dL x936), (1, dI x937), (5, dI x968), (6, dI 0)], []⟩)) (fun (t : Bool) => (Exit.ret, ⟨mkE 42 0 [(4, dB t)], []⟩))) := .of fun K h => by
  simp only [spec_OrderOk_n4, wpW] at h
  exact .of (by kernel_rfl) h

theorem spec_OrderOk_n5_l (x936 : List Int) (x937 : Int) (x968 : Int) (x987 : Int) : Link spec_OrderOk_ctx LL (cq [0,0,1,1,0,0,1,0,0,1,0,1] (bodyOf Tryd.f54)) (aq [0,0,1,1,0,0,1,0,0,1,0,1] spec_OrderOk_an) ⟨mkE 42 0 [(0, dL x936), (1, dI x937), (5, dI x968), (6, dI x987)], []⟩ (spec_OrderOk_n5 x936 x968 x987) (Sum.elim (fun (t : Int) => (Exit.normal, ⟨mkE 42 0 [(0, dL x936), (1, dI x937), (5, dI x968), (6, dI t)], []⟩)) (Sum.elim (fun (t : Bool) => (Exit.ret, ⟨mkE 42 0 [(4, dB t)], []⟩)) (fun (t : Unit) => ((Exit.exit 2), ⟨mkE 42 0 [(0, dL x936), (1, dI x937), (5, dI x968)], []⟩)))) := .of fun K h => by
  simp only [spec_OrderOk_n5, wpW] at h
  exact .of (by kernel_rfl) h

def spec_OrderOk_n6_l (x936 : List Int) (x937 : Int) (x968 : Int) := (link_loop (mk := fun (s : Int) => ⟨mkE 42 0 [(0, dL x936), (1, dI x937), (5, dI x968), (6, dI s)], []⟩) (fin := (Sum.elim (fun (t : Bool) => (Exit.ret, ⟨mkE 42 0 [(4, dB t)], []⟩)) (fun (t : Unit) => ((Exit.exit 2), ⟨mkE 42 0 [(0, dL x936), (1, dI x937), (5, dI x968)], []⟩)))) (by
  rintro (t | t) f K h
  · exact h
  · exact h) (fun s => link_map (spec_OrderOk_n5_l x936 x937 x968 s) (Sum.elim (fun (t : Int) => Sum.inl t) (Sum.elim (fun (t : Bool) => Sum.inr (Sum.inl t)) (fun (t : Unit) => Sum.inr (Sum.inr t)))) (by
  rintro (t | t | t)
  · kernel_rfl
  · kernel_rfl
  · kernel_rfl)) 0)

def spec_OrderOk_n7_l (x936 : List Int) (x937 : Int) (x968 : Int) := (link_block (fin2 := (Sum.elim (fun (t : Unit) => (Exit.normal, ⟨mkE 42 0 [(0, dL x936), (1, dI x937), (5, dI x968)], []⟩)) (fun (t : Bool) => (Exit.ret, ⟨mkE 42 0 [(4, dB t)], []⟩)))) (id := 2) (spec_OrderOk_n6_l x936 x937 x968) (Sum.elim (fun (t : Bool) => (Sum.inr t)) (fun (t : Unit) => (Sum.inl ()))) (by
  rintro (t | t) K h
  · exact Eq.mp (by kernel_rfl) h
  · exact Eq.mp (by kernel_rfl) h))

def spec_OrderOk_n8_l (x936 : List Int) (x937 : Int) (x968 : Int) := (link_group (c := (cq [0,1,0,0,1,0,0,1,0,1] (bodyOf Tryd.f54))) (a := (aq [0,1,0,0,1,0,0,1,0,1] spec_OrderOk_an)) [(cq [0,0,0,1,0,0,1,0,1] (bodyOf Tryd.f54))] [(aq [0,0,0,1,0,0,1,0,1] spec_OrderOk_an)] rfl (link_seq2 (spec_OrderOk_n4_l x936 x937 x968) (fun (t : Unit) => (spec_OrderOk_n7_l x936 x937 x968)) (fun (t : Bool) => (Sum.inr t)) (by
  rintro t
  · kernel_rfl) (by
  rintro t f K h
  · exact h)))

def spec_OrderOk_n9_l (x936 : List Int) (x937 : Int) (x968 : Int) := (link_block (fin2 := (Sum.elim (fun (t : Unit) => (Exit.normal, ⟨mkE 42 0 [(0, dL x936), (1, dI x937), (5, dI x968)], []⟩)) (fun (t : Bool) => (Exit.ret, ⟨mkE 42 0 [(4, dB t)], []⟩)))) (id := 1) (spec_OrderOk_n8_l x936 x937 x968) (Sum.elim (fun (t : Unit) => (Sum.inl ())) (fun (t : Bool) => (Sum.inr t))) (by
  rintro (t | t) K h
  · exact Eq.mp (by kernel_rfl) h
  · exact Eq.mp (by kernel_rfl) h))

theorem spec_OrderOk_n10_l (x936 : List Int) (x937 : Int) (x968 : Int) : Link spec_OrderOk_ctx LL (cq [1,1,0,0,1,0,1] (bodyOf Tryd.f54)) (aq [1,1,0,0,1,0,1] spec_OrderOk_an) ⟨mkE 42 0 [(0, dL x936), (1, dI x937), (5, dI x968)], []⟩ (spec_OrderOk_n10 x968) (fun (t : Int) => (Exit.normal, ⟨mkE 42 0 [(0, dL x936), (1, dI x937), (5, dI t)], []⟩)) := .of fun K h => by
  simp only [spec_OrderOk_n10, wpW] at h
  exact .of (by kernel_rfl) h

def spec_OrderOk_n11_l (x936 : List Int) (x937 : Int) (x968 : Int) := (link_seq2 (spec_OrderOk_n9_l x936 x937 x968) (fun (t : Unit) => (link_map (fin2 := (Sum.elim (fun (t : Int) => (Exit.normal, ⟨mkE 42 0 [(0, dL x936), (1, dI x937), (5, dI t)], []⟩)) (fun (t : Bool) => (Exit.ret, ⟨mkE 42 0 [(4, dB t)], []⟩)))) (spec_OrderOk_n10_l x936 x937 x968) (fun (t : Int) => (Sum.inl t)) (by
  rintro t
  · kernel_rfl))) (fun (t : Bool) => (Sum.inr t)) (by
  rintro t
  · kernel_rfl) (by
  rintro t f K h
  · exact h))

def spec_OrderOk_n12_l (x936 : List Int) (x937 : Int) (x968 : Int) := (link_seq2 (spec_OrderOk_n3_l x936 x937 x968) (fun (t : Unit) => (link_map (fin2 := (Sum.elim (fun (t : Int) => (Exit.normal, ⟨mkE 42 0 [(0, dL x936), (1, dI x937), (5, dI t)], []⟩)) (Sum.elim (fun (t : Bool) => (Exit.ret, ⟨mkE 42 0 [(4, dB t)], []⟩)) (fun (t : Unit) => ((Exit.exit 0), ⟨mkE 42 0 [(0, dL x936), (1, dI x937)], []⟩))))) (spec_OrderOk_n11_l x936 x937 x968) (Sum.elim (fun (t : Int) => (Sum.inl t)) (fun (t : Bool) => (Sum.inr (Sum.inl t)))) (by
  rintro (t | t)
  · kernel_rfl
  · kernel_rfl))) (fun (t : Unit) => (Sum.inr (Sum.inr t))) (by
  rintro t
  · kernel_rfl) (by
  rintro t f K h
  · exact h))

def spec_OrderOk_n13_l (x936 : List Int) (x937 : Int) := (link_loop (mk := fun (s : Int) => ⟨mkE 42 0 [(0, dL x936), (1, dI x937), (5, dI s)], []⟩) (fin := (Sum.elim (fun (t : Bool) => (Exit.ret, ⟨mkE 42 0 [(4, dB t)], []⟩)) (fun (t : Unit) => ((Exit.exit 0), ⟨mkE 42 0 [(0, dL x936), (1, dI x937)], []⟩)))) (by
  rintro (t | t) f K h
  · exact h
  · exact h) (fun s => link_map (spec_OrderOk_n12_l x936 x937 s) (Sum.elim (fun (t : Int) => Sum.inl t) (Sum.elim (fun (t : Bool) => Sum.inr (Sum.inl t)) (fun (t : Unit) => Sum.inr (Sum.inr t)))) (by
  rintro (t | t | t)
  · kernel_rfl
  · kernel_rfl
  · kernel_rfl)) 0)

def spec_OrderOk_n14_l (x936 : List Int) (x937 : Int) := (link_block (fin2 := (Sum.elim (fun (t : Unit) => (Exit.normal, ⟨mkE 42 0 [(0, dL x936), (1, dI x937)], []⟩)) (fun (t : Bool) => (Exit.ret, ⟨mkE 42 0 [(4, dB t)], []⟩)))) (id := 0) (spec_OrderOk_n13_l x936 x937) (Sum.elim (fun (t : Bool) => (Sum.inr t)) (fun (t : Unit) => (Sum.inl ()))) (by
  rintro (t | t) K h
  · exact Eq.mp (by kernel_rfl) h
  · exact Eq.mp (by kernel_rfl) h))

def spec_OrderOk_n15_l (x936 : List Int) (x937 : Int) := (link_seq (spec_OrderOk_n2_l x936 x937) (fun (t : Unit) => (spec_OrderOk_n14_l x936 x937)))

theorem spec_OrderOk_n16_l (x936 : List Int) (x937 : Int) : Link spec_OrderOk_ctx LL (cq [1,1] (bodyOf Tryd.f54)) (aq [1,1] spec_OrderOk_an) ⟨mkE 42 0 [(0, dL x936), (1, dI x937)], []⟩ (spec_OrderOk_n16 x936 x937) (fun (t : Bool) => (Exit.ret, ⟨mkE 42 0 [(4, dB t)], []⟩)) := .of fun K h => by
  simp only [spec_OrderOk_n16, wpW] at h
  exact .of (by kernel_rfl) h

def spec_OrderOk_n17_l (x936 : List Int) (x937 : Int) := (link_seq2 (spec_OrderOk_n15_l x936 x937) (fun (t : Unit) => (spec_OrderOk_n16_l x936 x937)) (fun (t : Bool) => t) (by
  rintro t
  · kernel_rfl) (by
  rintro t f K h
  · exact h))

def spec_OrderOk_n18_l (x936 : List Int) (x937 : Int) := (link_seq (spec_OrderOk_n1_l x936 x937) (fun (t : Unit) => (spec_OrderOk_n17_l x936 x937)))

theorem spec_OrderOk_e (x936 : List Int) (x937 : Int) {r : AV} {H' : Heap} (h : (Ans.mk _ (spec_OrderOk x936 x937) (fun (t : Bool) => (dB t, [])) [] none).run = some (r, H')) : Awp spec_OrderOk_ctx LL (bodyOf Tryd.f54) spec_OrderOk_an ⟨mkE 42 0 [(0, dL x936), (1, dI x937)], []⟩ (Ret (tlook tys) Tryd.f54.results.toList r H') :=
  ret_of' (Link.cast (by kernel_rfl) (by kernel_rfl) (spec_OrderOk_n18_l x936 x937)) (by unfold spec_OrderOk; kernel_rfl) (by
  intro t
  exact ret_mk [dB t] (by kernel_rfl) (by kernel_rfl) (by kernel_rfl) (by kernel_rfl)) h

def F_spec_OrderOk : Fun := fun avs H =>
  match avs, H with
  | [.dat (.list (.int .i64)) x936, .dat (.int .i64) x937], [] => ⟨_, spec_OrderOk x936 x937, fun (t : Bool) => (dB t, []), [], none⟩
  | _, _ => Ans.no

theorem spec_OrderOk_sound : Sound Tryd.prog 54 F_spec_OrderOk := by
  refine fn_sound' (C := spec_OrderOk_ctx) (c := bodyOf Tryd.f54) (cok_of tys_ok (allc spec_l1In_sound alln) (allc Tryd.call24 alln) (by kernel_rfl)) Tryd.func54 (by kernel_rfl) LL spec_OrderOk_an ?_
  intro avs H r H' h
  unfold F_spec_OrderOk at h
  split at h
  · refine Awp.cast ?_ ?_ ?_ (spec_OrderOk_e _ _ h) <;> kernel_rfl
  · simp [Ans.no, Ans.run] at h


/-! loop.example/headtrees/spec.PutInOrder -/

def spec_PutInOrder_an : Ann := (.seq (.leaf [0, 1]) (.seq (.seq (.leaf [0, 1, 19]) (.cond (.seq (.leaf [4, 5]) (.leaf [4, 5])) (.leaf [0, 1]))) (.seq (.leaf [0, 1, 6]) (.seq (.seq (.leaf [0, 1, 6, 7]) (.block (.loop (.seq (.seq (.leaf [0, 1, 6, 7, 28]) (.cond (.leaf [0, 1, 6, 7]) (.leaf [0, 1, 6]))) (.seq (.block (.leaf [0, 1, 6, 7])) (.leaf [0, 1, 6, 7])))))) (.seq (.leaf [0, 1, 6, 8]) (.seq (.seq (.leaf [0, 1, 6, 8, 9]) (.block (.loop (.seq (.seq (.leaf [0, 1, 6, 8, 9, 43]) (.cond (.leaf [0, 1, 6, 8, 9]) (.leaf [8]))) (.seq (.block (.leaf [0, 1, 6, 8, 9])) (.leaf [0, 1, 6, 8, 9])))))) (.seq (.leaf [4, 5]) (.leaf [4, 5]))))))))

noncomputable def spec_PutInOrder_ctx : Ctx := ⟨tlook tys, olook [(40, F_spec_TreeOk), (54, F_spec_OrderOk)], ioF, 0, false, []⟩

theorem spec_PutInOrder_n1_l (x931 : List Int) (x932 : List Int) : Link spec_PutInOrder_ctx LL (Code.seq (cq [0] (bodyOf Tryd.f41)) (Code.seq (cq [0,1] (bodyOf Tryd.f41)) (cq [0,1,1] (bodyOf Tryd.f41)))) (Ann.seq (aq [0] spec_PutInOrder_an) (Ann.seq (aq [0,1] spec_PutInOrder_an) (aq [0,1,1] spec_PutInOrder_an))) ⟨mkE 61 0 [(0, dL x931), (1, dL x932)], []⟩ (spec_PutInOrder_n1 x931 x932) (Sum.elim (fun (t : (List Int)) => (Exit.normal, ⟨mkE 61 0 [(0, dL x931), (1, dL x932), (6, .slc 0)], [some (sI t)]⟩)) (fun (t : Bool × (List Int)) => (Exit.ret, ⟨mkE 61 0 [(4, .slc 0), (5, dB t.1)], [some (sI t.2)]⟩))) := .of fun K h => by
  simp only [spec_PutInOrder_n1, wpW] at h
  exact .of (by kernel_rfl) h

theorem spec_PutInOrder_n2_l (x931 : List Int) (x932 : List Int) (x1016 : List Int) : Link spec_PutInOrder_ctx LL (cq [0,0,1,1,1] (bodyOf Tryd.f41)) (aq [0,0,1,1,1] spec_PutInOrder_an) ⟨mkE 61 0 [(0, dL x931), (1, dL x932), (6, .slc 0)], [some (sI x1016)]⟩ (spec_PutInOrder_n2) (fun (t : Unit) => (Exit.normal, ⟨mkE 61 0 [(0, dL x931), (1, dL x932), (6, .slc 0), (7, dI 0)], [some (sI x1016)]⟩)) := .of fun K h => by
  simp only [spec_PutInOrder_n2, wpW] at h
  exact .of (by kernel_rfl) h

theorem spec_PutInOrder_n3_l (x931 : List Int) (x932 : List Int) (x1032 : Int) (x1033 : List Int) : Link spec_PutInOrder_ctx LL (cq [0,0,1,0,1,1,1] (bodyOf Tryd.f41)) (aq [0,0,1,0,1,1,1] spec_PutInOrder_an) ⟨mkE 61 0 [(0, dL x931), (1, dL x932), (6, .slc 0), (7, dI x1032)], [some (sI x1033)]⟩ (spec_PutInOrder_n3 x932 x1032 x1033) (Sum.elim (fun (t : Int × (List Int)) => (Exit.normal, ⟨mkE 61 0 [(0, dL x931), (1, dL x932), (6, .slc 0), (7, dI t.1)], [some (sI t.2)]⟩)) (fun (t : (List Int)) => ((Exit.exit 0), ⟨mkE 61 0 [(0, dL x931), (1, dL x932), (6, .slc 0)], [some (sI t)]⟩))) := .of fun K h => by
  simp only [spec_PutInOrder_n3, wpW] at h
  exact .of (by kernel_rfl) h

def spec_PutInOrder_n4_l (x931 : List Int) (x932 : List Int) (x1016 : List Int) := (link_loop (mk := fun (s : Int × (List Int)) => ⟨mkE 61 0 [(0, dL x931), (1, dL x932), (6, .slc 0), (7, dI s.1)], [some (sI s.2)]⟩) (fin := (fun (t : (List Int)) => ((Exit.exit 0), ⟨mkE 61 0 [(0, dL x931), (1, dL x932), (6, .slc 0)], [some (sI t)]⟩))) (by
  rintro t f K h
  · exact h) (fun s => link_map (spec_PutInOrder_n3_l x931 x932 s.1 s.2) (Sum.elim (fun (t : Int × (List Int)) => Sum.inl (t.1, t.2)) (fun (t : (List Int)) => Sum.inr t)) (by
  rintro (t | t)
  · kernel_rfl
  · kernel_rfl)) (0, x1016))

def spec_PutInOrder_n5_l (x931 : List Int) (x932 : List Int) (x1016 : List Int) := (link_block (fin2 := (fun (t : (List Int)) => (Exit.normal, ⟨mkE 61 0 [(0, dL x931), (1, dL x932), (6, .slc 0)], [some (sI t)]⟩))) (id := 0) (spec_PutInOrder_n4_l x931 x932 x1016) (fun (t : (List Int)) => t) (by
  rintro t K h
  · exact Eq.mp (by kernel_rfl) h))

def spec_PutInOrder_n6_l (x931 : List Int) (x932 : List Int) (x1016 : List Int) := (link_seq (spec_PutInOrder_n2_l x931 x932 x1016) (fun (t : Unit) => (spec_PutInOrder_n5_l x931 x932 x1016)))

theorem spec_PutInOrder_n7_l (x931 : List Int) (x932 : List Int) (x1033 : List Int) : Link spec_PutInOrder_ctx LL (cq [0,1,1,1,1] (bodyOf Tryd.f41)) (aq [0,1,1,1,1] spec_PutInOrder_an) ⟨mkE 61 0 [(0, dL x931), (1, dL x932), (6, .slc 0)], [some (sI x1033)]⟩ (spec_PutInOrder_n7) (fun (t : Unit) => (Exit.normal, ⟨mkE 61 0 [(0, dL x931), (1, dL x932), (6, .slc 0), (8, .slc 1)], [some (sI x1033), some (sI ([] : List Int))]⟩)) := .of fun K h => by
  simp only [spec_PutInOrder_n7, wpW] at h
  exact .of (by kernel_rfl) h

theorem spec_PutInOrder_n8_l (x931 : List Int) (x932 : List Int) (x1033 : List Int) : Link spec_PutInOrder_ctx LL (cq [0,0,1,1,1,1,1] (bodyOf Tryd.f41)) (aq [0,0,1,1,1,1,1] spec_PutInOrder_an) ⟨mkE 61 0 [(0, dL x931), (1, dL x932), (6, .slc 0), (8, .slc 1)], [some (sI x1033), some (sI ([] : List Int))]⟩ (spec_PutInOrder_n8) (fun (t : Unit) => (Exit.normal, ⟨mkE 61 0 [(0, dL x931), (1, dL x932), (6, .slc 0), (8, .slc 1), (9, dI 0)], [some (sI x1033), some (sI ([] : List Int))]⟩)) := .of fun K h => by
  simp only [spec_PutInOrder_n8, wpW] at h
  exact .of (by kernel_rfl) h

theorem spec_PutInOrder_n9_l (x931 : List Int) (x932 : List Int) (x1074 : Int) (x1033 : List Int) (x1075 : List Int) : Link spec_PutInOrder_ctx LL (cq [0,0,1,0,1,1,1,1,1] (bodyOf Tryd.f41)) (aq [0,0,1,0,1,1,1,1,1] spec_PutInOrder_an) ⟨mkE 61 0 [(0, dL x931), (1, dL x932), (6, .slc 0), (8, .slc 1), (9, dI x1074)], [some (sI x1033), some (sI x1075)]⟩ (spec_PutInOrder_n9 x931 x932 x1074 x1033 x1075) (Sum.elim (fun (t : Int × (List Int)) => (Exit.normal, ⟨mkE 61 0 [(0, dL x931), (1, dL x932), (6, .slc 0), (8, .slc 1), (9, dI t.1)], [some (sI x1033), some (sI t.2)]⟩)) (fun (t : (List Int)) => ((Exit.exit 2), ⟨mkE 61 0 [(8, .slc 0)], [some (sI t)]⟩))) := .of fun K h => by
  simp only [spec_PutInOrder_n9, wpW] at h
  exact .of (by kernel_rfl) h

def spec_PutInOrder_n10_l (x931 : List Int) (x932 : List Int) (x1033 : List Int) := (link_loop (mk := fun (s : Int × (List Int)) => ⟨mkE 61 0 [(0, dL x931), (1, dL x932), (6, .slc 0), (8, .slc 1), (9, dI s.1)], [some (sI x1033), some (sI s.2)]⟩) (fin := (fun (t : (List Int)) => ((Exit.exit 2), ⟨mkE 61 0 [(8, .slc 0)], [some (sI t)]⟩))) (by
  rintro t f K h
  · exact h) (fun s => link_map (spec_PutInOrder_n9_l x931 x932 s.1 x1033 s.2) (Sum.elim (fun (t : Int × (List Int)) => Sum.inl (t.1, t.2)) (fun (t : (List Int)) => Sum.inr t)) (by
  rintro (t | t)
  · kernel_rfl
  · kernel_rfl)) (0, ([] : List Int)))

def spec_PutInOrder_n11_l (x931 : List Int) (x932 : List Int) (x1033 : List Int) := (link_block (fin2 := (fun (t : (List Int)) => (Exit.normal, ⟨mkE 61 0 [(8, .slc 0)], [some (sI t)]⟩))) (id := 2) (spec_PutInOrder_n10_l x931 x932 x1033) (fun (t : (List Int)) => t) (by
  rintro t K h
  · exact Eq.mp (by kernel_rfl) h))

def spec_PutInOrder_n12_l (x931 : List Int) (x932 : List Int) (x1033 : List Int) := (link_seq (spec_PutInOrder_n8_l x931 x932 x1033) (fun (t : Unit) => (spec_PutInOrder_n11_l x931 x932 x1033)))

theorem spec_PutInOrder_n13_l (x1075 : List Int) : Link spec_PutInOrder_ctx LL (cq [1,1,1,1,1,1] (bodyOf Tryd.f41)) (aq [1,1,1,1,1,1] spec_PutInOrder_an) ⟨mkE 61 0 [(8, .slc 0)], [some (sI x1075)]⟩ (spec_PutInOrder_n13 x1075) (fun (t : Bool × (List Int)) => (Exit.ret, ⟨mkE 61 0 [(4, .slc 0), (5, dB t.1)], [some (sI t.2)]⟩)) := .of fun K h => by
  simp only [spec_PutInOrder_n13, wpW] at h
  exact .of (by kernel_rfl) h

def spec_PutInOrder_n14_l (x931 : List Int) (x932 : List Int) (x1033 : List Int) := (link_seq (spec_PutInOrder_n12_l x931 x932 x1033) (fun (t : (List Int)) => (spec_PutInOrder_n13_l t)))

def spec_PutInOrder_n15_l (x931 : List Int) (x932 : List Int) (x1033 : List Int) := (link_seq (spec_PutInOrder_n7_l x931 x932 x1033) (fun (t : Unit) => (spec_PutInOrder_n14_l x931 x932 x1033)))

def spec_PutInOrder_n16_l (x931 : List Int) (x932 : List Int) (x1016 : List Int) := (link_seq (spec_PutInOrder_n6_l x931 x932 x1016) (fun (t : (List Int)) => (spec_PutInOrder_n15_l x931 x932 t)))

def spec_PutInOrder_n17_l (x931 : List Int) (x932 : List Int) := (link_group (c := (cq [0,1,1] (bodyOf Tryd.f41))) (a := (aq [0,1,1] spec_PutInOrder_an)) [(cq [0] (bodyOf Tryd.f41)), (cq [0,1] (bodyOf Tryd.f41))] [(aq [0] spec_PutInOrder_an), (aq [0,1] spec_PutInOrder_an)] rfl (link_seq2 (spec_PutInOrder_n1_l x931 x932) (fun (t : (List Int)) => (spec_PutInOrder_n16_l x931 x932 t)) (fun (t : Bool × (List Int)) => t) (by
  rintro t
  · kernel_rfl) (by
  rintro t f K h
  · exact h)))

theorem spec_PutInOrder_e (x931 : List Int) (x932 : List Int) {r : AV} {H' : Heap} (h : (Ans.mk _ (spec_PutInOrder x931 x932) (fun (t : Bool × (List Int)) => (.tup [.slc 0, dB t.1], [some (sI t.2)])) [] none).run = some (r, H')) : Awp spec_PutInOrder_ctx LL (bodyOf Tryd.f41) spec_PutInOrder_an ⟨mkE 61 0 [(0, dL x931), (1, dL x932)], []⟩ (Ret (tlook tys) Tryd.f41.results.toList r H') :=
  ret_of' (Link.cast (by kernel_rfl) (by kernel_rfl) (spec_PutInOrder_n17_l x931 x932)) (by unfold spec_PutInOrder; kernel_rfl) (by
  intro t
  exact ret_mk [.slc 0, dB t.1] (by kernel_rfl) (by kernel_rfl) (by kernel_rfl) (by kernel_rfl)) h

def F_spec_PutInOrder : Fun := fun avs H =>
  match avs, H with
  | [.dat (.list (.int .i64)) x931, .dat (.list (.int .i64)) x932], [] => ⟨_, spec_PutInOrder x931 x932, fun (t : Bool × (List Int)) => (.tup [.slc 0, dB t.1], [some (sI t.2)]), [], none⟩
  | _, _ => Ans.no

theorem spec_PutInOrder_sound : Sound Tryd.prog 41 F_spec_PutInOrder := by
  refine fn_sound' (C := spec_PutInOrder_ctx) (c := bodyOf Tryd.f41) (cok_of tys_ok (allc spec_TreeOk_sound (allc spec_OrderOk_sound alln)) (allc Tryd.call40 (allc Tryd.call54 alln)) (by kernel_rfl)) Tryd.func41 (by kernel_rfl) LL spec_PutInOrder_an ?_
  intro avs H r H' h
  unfold F_spec_PutInOrder at h
  split at h
  · refine Awp.cast ?_ ?_ ?_ (spec_PutInOrder_e _ _ h) <;> kernel_rfl
  · simp [Ans.no, Ans.run] at h


/-! loop.example/headtrees/spec.l20Fill -/

def spec_l20Fill_an : Ann := (.seq (.seq (.leaf [0, 1, 2, 3, 4, 16]) (.cond (.leaf []) (.leaf [0, 1, 2, 3, 4]))) (.seq (.leaf [0, 1, 2, 3, 4, 10]) (.seq (.leaf [0, 1, 2, 3, 10]) (.seq (.leaf [0, 1, 3, 10, 11]) (.seq (.block (.loop (.seq (.seq (.leaf [0, 1, 3, 10, 11, 33]) (.cond (.leaf [0, 1, 3, 10, 11]) (.leaf [0, 1, 3, 10]))) (.block (.seq (.leaf [0, 1, 3, 10, 11, 12]) (.seq (.leaf [0, 1, 3, 10, 12]) (.leaf [0, 1, 3, 10, 11]))))))) (.seq (.leaf [0, 1, 3, 10, 11]) (.block (.loop (.seq (.seq (.leaf [0, 1, 3, 10, 11, 53]) (.cond (.leaf [0, 1, 3, 10, 11]) (.leaf []))) (.block (.seq (.leaf [0, 1, 3, 10, 11, 13]) (.seq (.leaf [0, 1, 3, 10, 13]) (.leaf [0, 1, 3, 10, 11])))))))))))))

def F_spec_l20Fill_fuel (n : Nat) : Fun := fun avs H =>
  match avs, H with
  | [.ptr 0 0, .slc 1, .dat (.int .i64) x1172, .dat (.int .i64) x1173, .dat (.int .i64) x1174], [some (.box [.dat (.list (.int .u8)) x1175, .dat (.int .i64) x1176]), some (.seq (.int .i64) x1177)] => ⟨_, spec_l20Fill_fuel n x1172 x1173 x1174 x1175 x1176 x1177, fun (t : Int × (List Int)) => (.tup [], [some (.box [dV x1175, dI t.1]), some (sI t.2)]), [], none⟩
  | _, _ => Ans.no

noncomputable def spec_l20Fill_ctx (n : Nat) : Ctx := ⟨tlook tys, olook [(30, F_spec_l20Rd_pick), (55, F_spec_l20Fill_fuel n)], ioF, 2, false, []⟩

theorem spec_l20Fill_n1_l (n : Nat) (x1172 : Int) (x1173 : Int) (x1174 : Int) (x1175 : List Int) (x1176 : Int) (x1177 : List Int) : Link (spec_l20Fill_ctx n) LL (Code.seq (cq [0] (bodyOf Tryd.f55)) (Code.seq (cq [0,1] (bodyOf Tryd.f55)) (Code.seq (cq [0,1,1] (bodyOf Tryd.f55)) (cq [0,1,1,1] (bodyOf Tryd.f55))))) (Ann.seq (aq [0] spec_l20Fill_an) (Ann.seq (aq [0,1] spec_l20Fill_an) (Ann.seq (aq [0,1,1] spec_l20Fill_an) (aq [0,1,1,1] spec_l20Fill_an)))) ⟨mkE 70 0 [(0, .ptr 0 0), (1, .slc 1), (2, dI x1172), (3, dI x1173), (4, dI x1174)], [some (.box [dV x1175, dI x1176]), some (sI x1177)]⟩ (spec_l20Fill_n1 (spec_l20Fill_fuel n) x1172 x1173 x1174 x1175 x1176 x1177) (Sum.elim (fun (t : Int × Int × (List Int)) => (Exit.normal, ⟨mkE 70 0 [(0, .ptr 0 0), (1, .slc 1), (3, dI x1173), (10, dI t.1), (11, dI x1172)], [some (.box [dV x1175, dI t.2.1]), some (sI t.2.2)]⟩)) (fun (t : Int × (List Int)) => (Exit.ret, ⟨mkE 70 0 [], [some (.box [dV x1175, dI t.1]), some (sI t.2)]⟩))) := .of fun K h => by
  simp only [spec_l20Fill_n1, wpW] at h
  exact .of (by kernel_rfl) h

theorem spec_l20Fill_n2_l (n : Nat) (x1173 : Int) (x1248 : Int) (x1263 : Int) (x1175 : List Int) (x1264 : Int) (x1265 : List Int) : Link (spec_l20Fill_ctx n) LL (cq [0,0,0,1,1,1,1] (bodyOf Tryd.f55)) (aq [0,0,0,1,1,1,1] spec_l20Fill_an) ⟨mkE 70 0 [(0, .ptr 0 0), (1, .slc 1), (3, dI x1173), (10, dI x1248), (11, dI x1263)], [some (.box [dV x1175, dI x1264]), some (sI x1265)]⟩ (spec_l20Fill_n2 (spec_l20Fill_fuel n) x1248 x1263 x1175 x1264 x1265) (Sum.elim (fun (t : Int × Int × (List Int)) => (Exit.normal, ⟨mkE 70 0 [(0, .ptr 0 0), (1, .slc 1), (3, dI x1173), (10, dI x1248), (11, dI t.1)], [some (.box [dV x1175, dI t.2.1]), some (sI t.2.2)]⟩)) (fun (t : Int × (List Int)) => ((Exit.exit 0), ⟨mkE 70 0 [(0, .ptr 0 0), (1, .slc 1), (3, dI x1173), (10, dI x1248)], [some (.box [dV x1175, dI t.1]), some (sI t.2)]⟩))) := .of fun K h => by
  simp only [spec_l20Fill_n2, wpW] at h
  exact .of (by kernel_rfl) h

def spec_l20Fill_n3_l (n : Nat) (x1173 : Int) (x1248 : Int) (x1172 : Int) (x1175 : List Int) (x1247 : Int) (x1251 : List Int) := (link_loop (mk := fun (s : Int × Int × (List Int)) => ⟨mkE 70 0 [(0, .ptr 0 0), (1, .slc 1), (3, dI x1173), (10, dI x1248), (11, dI s.1)], [some (.box [dV x1175, dI s.2.1]), some (sI s.2.2)]⟩) (fin := (fun (t : Int × (List Int)) => ((Exit.exit 0), ⟨mkE 70 0 [(0, .ptr 0 0), (1, .slc 1), (3, dI x1173), (10, dI x1248)], [some (.box [dV x1175, dI t.1]), some (sI t.2)]⟩))) (by
  rintro t f K h
  · exact h) (fun s => link_map (spec_l20Fill_n2_l n x1173 x1248 s.1 x1175 s.2.1 s.2.2) (Sum.elim (fun (t : Int × Int × (List Int)) => Sum.inl (t.1, t.2.1, t.2.2)) (fun (t : Int × (List Int)) => Sum.inr t)) (by
  rintro (t | t)
  · kernel_rfl
  · kernel_rfl)) (x1172, x1247, x1251))

def spec_l20Fill_n4_l (n : Nat) (x1173 : Int) (x1248 : Int) (x1172 : Int) (x1175 : List Int) (x1247 : Int) (x1251 : List Int) := (link_block (fin2 := (fun (t : Int × (List Int)) => (Exit.normal, ⟨mkE 70 0 [(0, .ptr 0 0), (1, .slc 1), (3, dI x1173), (10, dI x1248)], [some (.box [dV x1175, dI t.1]), some (sI t.2)]⟩))) (id := 0) (spec_l20Fill_n3_l n x1173 x1248 x1172 x1175 x1247 x1251) (fun (t : Int × (List Int)) => (t.1, t.2)) (by
  rintro t K h
  · exact Eq.mp (by kernel_rfl) h))

theorem spec_l20Fill_n5_l (n : Nat) (x1173 : Int) (x1248 : Int) (x1175 : List Int) (x1264 : Int) (x1265 : List Int) : Link (spec_l20Fill_ctx n) LL (cq [0,1,1,1,1,1] (bodyOf Tryd.f55)) (aq [0,1,1,1,1,1] spec_l20Fill_an) ⟨mkE 70 0 [(0, .ptr 0 0), (1, .slc 1), (3, dI x1173), (10, dI x1248)], [some (.box [dV x1175, dI x1264]), some (sI x1265)]⟩ (spec_l20Fill_n5 (spec_l20Fill_fuel n) x1248) (fun (t : Int) => (Exit.normal, ⟨mkE 70 0 [(0, .ptr 0 0), (1, .slc 1), (3, dI x1173), (10, dI x1248), (11, dI t)], [some (.box [dV x1175, dI x1264]), some (sI x1265)]⟩)) := .of fun K h => by
  simp only [spec_l20Fill_n5, wpW] at h
  exact .of (by kernel_rfl) h

theorem spec_l20Fill_n6_l (n : Nat) (x1173 : Int) (x1248 : Int) (x1290 : Int) (x1175 : List Int) (x1291 : Int) (x1292 : List Int) : Link (spec_l20Fill_ctx n) LL (cq [0,0,1,1,1,1,1,1] (bodyOf Tryd.f55)) (aq [0,0,1,1,1,1,1,1] spec_l20Fill_an) ⟨mkE 70 0 [(0, .ptr 0 0), (1, .slc 1), (3, dI x1173), (10, dI x1248), (11, dI x1290)], [some (.box [dV x1175, dI x1291]), some (sI x1292)]⟩ (spec_l20Fill_n6 (spec_l20Fill_fuel n) x1173 x1248 x1290 x1175 x1291 x1292) (Sum.elim (fun (t : Int × Int × (List Int)) => (Exit.normal, ⟨mkE 70 0 [(0, .ptr 0 0), (1, .slc 1), (3, dI x1173), (10, dI x1248), (11, dI t.1)], [some (.box [dV x1175, dI t.2.1]), some (sI t.2.2)]⟩)) (fun (t : Int × (List Int)) => ((Exit.exit 2), ⟨mkE 70 0 [], [some (.box [dV x1175, dI t.1]), some (sI t.2)]⟩))) := .of fun K h => by
  simp only [spec_l20Fill_n6, wpW] at h
  exact .of (by kernel_rfl) h

def spec_l20Fill_n7_l (n : Nat) (x1173 : Int) (x1248 : Int) (x1277 : Int) (x1175 : List Int) (x1264 : Int) (x1265 : List Int) := (link_loop (mk := fun (s : Int × Int × (List Int)) => ⟨mkE 70 0 [(0, .ptr 0 0), (1, .slc 1), (3, dI x1173), (10, dI x1248), (11, dI s.1)], [some (.box [dV x1175, dI s.2.1]), some (sI s.2.2)]⟩) (fin := (fun (t : Int × (List Int)) => ((Exit.exit 2), ⟨mkE 70 0 [], [some (.box [dV x1175, dI t.1]), some (sI t.2)]⟩))) (by
  rintro t f K h
  · exact h) (fun s => link_map (spec_l20Fill_n6_l n x1173 x1248 s.1 x1175 s.2.1 s.2.2) (Sum.elim (fun (t : Int × Int × (List Int)) => Sum.inl (t.1, t.2.1, t.2.2)) (fun (t : Int × (List Int)) => Sum.inr t)) (by
  rintro (t | t)
  · kernel_rfl
  · kernel_rfl)) (x1277, x1264, x1265))

def spec_l20Fill_n8_l (n : Nat) (x1173 : Int) (x1248 : Int) (x1277 : Int) (x1175 : List Int) (x1264 : Int) (x1265 : List Int) := (link_block (fin2 := (fun (t : Int × (List Int)) => (Exit.normal, ⟨mkE 70 0 [], [some (.box [dV x1175, dI t.1]), some (sI t.2)]⟩))) (id := 2) (spec_l20Fill_n7_l n x1173 x1248 x1277 x1175 x1264 x1265) (fun (t : Int × (List Int)) => (t.1, t.2)) (by
  rintro t K h
  · exact Eq.mp (by kernel_rfl) h))

def spec_l20Fill_n9_l (n : Nat) (x1173 : Int) (x1248 : Int) (x1175 : List Int) (x1264 : Int) (x1265 : List Int) := (link_seq (spec_l20Fill_n5_l n x1173 x1248 x1175 x1264 x1265) (fun (t : Int) => (spec_l20Fill_n8_l n x1173 x1248 t x1175 x1264 x1265)))

def spec_l20Fill_n10_l (n : Nat) (x1173 : Int) (x1248 : Int) (x1172 : Int) (x1175 : List Int) (x1247 : Int) (x1251 : List Int) := (link_seq (spec_l20Fill_n4_l n x1173 x1248 x1172 x1175 x1247 x1251) (fun (t : Int × (List Int)) => (spec_l20Fill_n9_l n x1173 x1248 x1175 t.1 t.2)))

def spec_l20Fill_n11_l (n : Nat) (x1172 : Int) (x1173 : Int) (x1174 : Int) (x1175 : List Int) (x1176 : Int) (x1177 : List Int) := (link_group (c := (cq [0,1,1,1] (bodyOf Tryd.f55))) (a := (aq [0,1,1,1] spec_l20Fill_an)) [(cq [0] (bodyOf Tryd.f55)), (cq [0,1] (bodyOf Tryd.f55)), (cq [0,1,1] (bodyOf Tryd.f55))] [(aq [0] spec_l20Fill_an), (aq [0,1] spec_l20Fill_an), (aq [0,1,1] spec_l20Fill_an)] rfl (link_seq2 (spec_l20Fill_n1_l n x1172 x1173 x1174 x1175 x1176 x1177) (fun (t : Int × Int × (List Int)) => (link_map (fin2 := (Sum.elim (fun (t : Int × (List Int)) => (Exit.normal, ⟨mkE 70 0 [], [some (.box [dV x1175, dI t.1]), some (sI t.2)]⟩)) (fun (t : Int × (List Int)) => (Exit.ret, ⟨mkE 70 0 [], [some (.box [dV x1175, dI t.1]), some (sI t.2)]⟩)))) (spec_l20Fill_n10_l n x1173 t.1 x1172 x1175 t.2.1 t.2.2) (fun (u : Int × (List Int)) => (Sum.inl (u.1, u.2))) (by
  rintro t
  · kernel_rfl))) (fun (t : Int × (List Int)) => (Sum.inr t)) (by
  rintro t
  · kernel_rfl) (by
  rintro t f K h
  · exact h)))

theorem spec_l20Fill_e (n : Nat) (x1172 : Int) (x1173 : Int) (x1174 : Int) (x1175 : List Int) (x1176 : Int) (x1177 : List Int) {r : AV} {H' : Heap} (h : (Ans.mk _ (spec_l20Fill_fuel (n + 1) x1172 x1173 x1174 x1175 x1176 x1177) (fun (t : Int × (List Int)) => (.tup [], [some (.box [dV x1175, dI t.1]), some (sI t.2)])) [] none).run = some (r, H')) : Awp (spec_l20Fill_ctx n) LL (bodyOf Tryd.f55) spec_l20Fill_an ⟨mkE 70 0 [(0, .ptr 0 0), (1, .slc 1), (2, dI x1172), (3, dI x1173), (4, dI x1174)], [some (.box [dV x1175, dI x1176]), some (sI x1177)]⟩ (Ret (tlook tys) Tryd.f55.results.toList r H') :=
  ret_of (Link.cast (by kernel_rfl) (by kernel_rfl) (spec_l20Fill_n11_l n x1172 x1173 x1174 x1175 x1176 x1177)) (Sum.elim (fun (t : Int × (List Int)) => (t.1, t.2)) (fun (t : Int × (List Int)) => t)) (by (show _ = _); kernel_rfl) (by
  rintro (t | t)
  · exact ret_mk [] (by kernel_rfl) (by kernel_rfl) (by kernel_rfl) (by kernel_rfl)
  · exact ret_mk [] (by kernel_rfl) (by kernel_rfl) (by kernel_rfl) (by kernel_rfl)) h

theorem spec_l20Fill_step (n : Nat) (h55 : Sound Tryd.prog 55 (F_spec_l20Fill_fuel n)) : Sound Tryd.prog 55 (F_spec_l20Fill_fuel (n + 1)) := by
  refine fn_sound' (C := spec_l20Fill_ctx n) (c := bodyOf Tryd.f55) (cok_of tys_ok (allc spec_l20Rd_pick_sound (allc h55 alln)) (allc Tryd.call30 (allc Tryd.call55 alln)) (by kernel_rfl)) Tryd.func55 (by kernel_rfl) LL spec_l20Fill_an ?_
  intro avs H r H' h
  unfold F_spec_l20Fill_fuel at h
  split at h
  · refine Awp.cast ?_ ?_ ?_ (spec_l20Fill_e n _ _ _ _ _ _ h) <;> kernel_rfl
  · simp [Ans.no, Ans.run] at h

theorem spec_l20Fill_null : Sound Tryd.prog 55 (F_spec_l20Fill_fuel 0) := by
  intro avs H r H' h
  unfold F_spec_l20Fill_fuel at h
  split at h
  · simp [spec_l20Fill_fuel, spec_l20Fill_knot, Ans.run] at h
  · simp [Ans.no, Ans.run] at h

theorem spec_l20Fill_knot_all : ∀ n, Sound Tryd.prog 55 (F_spec_l20Fill_fuel n)
  | 0 => spec_l20Fill_null
  | n + 1 => by
    have h55 := spec_l20Fill_knot_all n
    exact spec_l20Fill_step n h55

def F_spec_l20Fill : Fun := fun avs H =>
  match avs, H with
  | [.ptr 0 0, .slc 1, .dat (.int .i64) x1172, .dat (.int .i64) x1173, .dat (.int .i64) x1174], [some (.box [.dat (.list (.int .u8)) x1175, .dat (.int .i64) x1176]), some (.seq (.int .i64) x1177)] => ⟨_, spec_l20Fill x1172 x1173 x1174 x1175 x1176 x1177, fun (t : Int × (List Int)) => (.tup [], [some (.box [dV x1175, dI t.1]), some (sI t.2)]), [], none⟩
  | _, _ => Ans.no

theorem spec_l20Fill_sound : Sound Tryd.prog 55 F_spec_l20Fill := by
  have e : F_spec_l20Fill = F_spec_l20Fill_fuel RR := by
    funext avs H
    unfold F_spec_l20Fill F_spec_l20Fill_fuel
    split <;> first | rfl | (simp only [spec_l20Fill])
  rw [e]
  exact (spec_l20Fill_knot_all RR)


/-! loop.example/headtrees/spec.l20Flat -/

def spec_l20Flat_an : Ann := (.seq (.leaf [0, 1]) (.seq (.seq (.leaf [0, 1, 9]) (.cond (.seq (.leaf [4]) (.leaf [4])) (.leaf [0]))) (.seq (.leaf [0, 5]) (.seq (.leaf [0, 5, 6]) (.seq (.leaf [6]) (.seq (.leaf [4]) (.leaf [4])))))))

noncomputable def spec_l20Flat_ctx : Ctx := ⟨tlook tys, olook [(30, F_spec_l20Rd_pick), (39, F_spec_l20Tree), (55, F_spec_l20Fill)], ioF, 1, false, []⟩

theorem spec_l20Flat_n1_l (x1125 : Int) (x1126 : List Int) (x1127 : Int) : Link spec_l20Flat_ctx LL (bodyOf Tryd.f43) spec_l20Flat_an ⟨mkE 23 0 [(0, .ptr 0 0), (1, dI x1125)], [some (.box [dV x1126, dI x1127])]⟩ (spec_l20Flat_n1 x1125 x1126 x1127) (fun (t : Int × (List Int)) => (Exit.ret, ⟨mkE 23 0 [(4, .slc 1)], [some (.box [dV x1126, dI t.1]), some (sI t.2)]⟩)) := .of fun K h => by
  simp only [spec_l20Flat_n1, wpW] at h
  exact .of (by kernel_rfl) h

theorem spec_l20Flat_e (x1125 : Int) (x1126 : List Int) (x1127 : Int) {r : AV} {H' : Heap} (h : (Ans.mk _ (spec_l20Flat x1125 x1126 x1127) (fun (t : Int × (List Int)) => (.slc 1, [some (.box [dV x1126, dI t.1]), some (sI t.2)])) [] none).run = some (r, H')) : Awp spec_l20Flat_ctx LL (bodyOf Tryd.f43) spec_l20Flat_an ⟨mkE 23 0 [(0, .ptr 0 0), (1, dI x1125)], [some (.box [dV x1126, dI x1127])]⟩ (Ret (tlook tys) Tryd.f43.results.toList r H') :=
  ret_of' (spec_l20Flat_n1_l x1125 x1126 x1127) (by unfold spec_l20Flat; kernel_rfl) (by
  intro t
  exact ret_mk [.slc 1] (by kernel_rfl) (by kernel_rfl) (by kernel_rfl) (by kernel_rfl)) h

def F_spec_l20Flat : Fun := fun avs H =>
  match avs, H with
  | [.ptr 0 0, .dat (.int .i64) x1125], [some (.box [.dat (.list (.int .u8)) x1126, .dat (.int .i64) x1127])] => ⟨_, spec_l20Flat x1125 x1126 x1127, fun (t : Int × (List Int)) => (.slc 1, [some (.box [dV x1126, dI t.1]), some (sI t.2)]), [], none⟩
  | _, _ => Ans.no

theorem spec_l20Flat_sound : Sound Tryd.prog 43 F_spec_l20Flat := by
  refine fn_sound' (C := spec_l20Flat_ctx) (c := bodyOf Tryd.f43) (cok_of tys_ok (allc spec_l20Rd_pick_sound (allc spec_l20Tree_sound (allc spec_l20Fill_sound alln))) (allc Tryd.call30 (allc Tryd.call39 (allc Tryd.call55 alln))) (by kernel_rfl)) Tryd.func43 (by kernel_rfl) LL spec_l20Flat_an ?_
  intro avs H r H' h
  unfold F_spec_l20Flat at h
  split at h
  · refine Awp.cast ?_ ?_ ?_ (spec_l20Flat_e _ _ _ h) <;> kernel_rfl
  · simp [Ans.no, Ans.run] at h


/-! loop.example/headtrees/spec.l20Wild -/

def spec_l20Wild_an : Ann := (.seq (.leaf [0, 1]) (.seq (.leaf [0, 1, 5]) (.seq (.seq (.leaf [0, 1, 5, 17]) (.cond (.seq (.leaf [6]) (.seq (.leaf [4]) (.leaf [4]))) (.leaf [0, 1, 5]))) (.seq (.seq (.leaf [0, 1, 5, 30]) (.cond (.seq (.leaf [4]) (.leaf [4])) (.leaf [5]))) (.seq (.leaf [4]) (.leaf [4]))))))

noncomputable def spec_l20Wild_ctx : Ctx := ⟨tlook tys, olook [(39, F_spec_l20Tree), (30, F_spec_l20Rd_pick), (40, F_spec_TreeOk), (42, F_spec_l20Order), (41, F_spec_PutInOrder), (43, F_spec_l20Flat)], ioF, 1, false, []⟩

theorem spec_l20Wild_n1_l (x33 : Int) (x34 : List Int) (x35 : Int) : Link spec_l20Wild_ctx LL (bodyOf Tryd.f20) spec_l20Wild_an ⟨mkE 35 0 [(0, .ptr 0 0), (1, dI x33)], [some (.box [dV x34, dI x35])]⟩ (spec_l20Wild_n1 x33 x34 x35) (fun (t : Int × (List Int)) => (Exit.ret, ⟨mkE 35 0 [(4, .slc 1)], [some (.box [dV x34, dI t.1]), some (sI t.2)]⟩)) := .of fun K h => by
  simp only [spec_l20Wild_n1, wpW] at h
  exact .of (by kernel_rfl) h

theorem spec_l20Wild_e (x33 : Int) (x34 : List Int) (x35 : Int) {r : AV} {H' : Heap} (h : (Ans.mk _ (spec_l20Wild x33 x34 x35) (fun (t : Int × (List Int)) => (.slc 1, [some (.box [dV x34, dI t.1]), some (sI t.2)])) [] none).run = some (r, H')) : Awp spec_l20Wild_ctx LL (bodyOf Tryd.f20) spec_l20Wild_an ⟨mkE 35 0 [(0, .ptr 0 0), (1, dI x33)], [some (.box [dV x34, dI x35])]⟩ (Ret (tlook tys) Tryd.f20.results.toList r H') :=
  ret_of' (spec_l20Wild_n1_l x33 x34 x35) (by unfold spec_l20Wild; kernel_rfl) (by
  intro t
  exact ret_mk [.slc 1] (by kernel_rfl) (by kernel_rfl) (by kernel_rfl) (by kernel_rfl)) h

def F_spec_l20Wild : Fun := fun avs H =>
  match avs, H with
  | [.ptr 0 0, .dat (.int .i64) x33], [some (.box [.dat (.list (.int .u8)) x34, .dat (.int .i64) x35])] => ⟨_, spec_l20Wild x33 x34 x35, fun (t : Int × (List Int)) => (.slc 1, [some (.box [dV x34, dI t.1]), some (sI t.2)]), [], none⟩
  | _, _ => Ans.no

theorem spec_l20Wild_sound : Sound Tryd.prog 20 F_spec_l20Wild := by
  refine fn_sound' (C := spec_l20Wild_ctx) (c := bodyOf Tryd.f20) (cok_of tys_ok (allc spec_l20Tree_sound (allc spec_l20Rd_pick_sound (allc spec_TreeOk_sound (allc spec_l20Order_sound (allc spec_PutInOrder_sound (allc spec_l20Flat_sound alln)))))) (allc Tryd.call39 (allc Tryd.call30 (allc Tryd.call40 (allc Tryd.call42 (allc Tryd.call41 (allc Tryd.call43 alln)))))) (by kernel_rfl)) Tryd.func20 (by kernel_rfl) LL spec_l20Wild_an ?_
  intro avs H r H' h
  unfold F_spec_l20Wild at h
  split at h
  · refine Awp.cast ?_ ?_ ?_ (spec_l20Wild_e _ _ _ h) <;> kernel_rfl
  · simp [Ans.no, Ans.run] at h


/-! loop.example/headtrees/spec.l20Deed -/

def spec_l20Deed_an : Ann := (.seq (.leaf [0, 1, 4]) (.seq (.draw [0, 3, 4] [0, 1, 5, 2, 3, 4, 6, 7, 8, 9, 10, 11, 12] [] [0, 1, 4, 5]) (.seq (.seq (.leaf [0, 1, 4, 5, 18]) (.block (.seq (.leaf [0, 1, 4, 5, 18, 19]) (.cond (.seq (.leaf [0, 1, 4, 5]) (.leaf [0, 4, 5])) (.seq (.leaf [0, 1, 4, 5, 34]) (.cond (.leaf [0, 4, 5]) (.leaf [0, 4, 5]))))))) (.seq (.seq (.leaf [0, 4, 5, 47]) (.cond (.leaf [4, 5]) (.leaf [4, 5]))) (.seq (.leaf [4]) (.leaf [4]))))))

noncomputable def spec_l20Deed_ctx : Ctx := ⟨tlook tys, olook [(30, F_spec_l20Rd_pick), (35, F_spec_l20Rd_odd)], ioF, 1, false, []⟩

theorem spec_l20Deed_n1_l (x1417 : List Int) (x1418 : List Int) (x1419 : Int) : Link spec_l20Deed_ctx LL (bodyOf Tryd.f19) spec_l20Deed_an ⟨mkE 55 0 [(0, .ptr 0 0), (1, dL x1417)], [some (.box [dV x1418, dI x1419])]⟩ (spec_l20Deed_n1 x1417 x1418 x1419) (fun (t : Int × Int × Int × Int) => (Exit.ret, ⟨mkE 55 0 [(4, .ptr 1 0)], [some (.box [dV x1418, dI t.1]), some (.box [dI t.2.1, dI t.2.2.1, dI t.2.2.2])]⟩)) := .of fun K h => by
  simp only [spec_l20Deed_n1, wpW] at h
  exact .of (by kernel_rfl) h

theorem spec_l20Deed_e (x1417 : List Int) (x1418 : List Int) (x1419 : Int) {r : AV} {H' : Heap} (h : (Ans.mk _ (spec_l20Deed x1417 x1418 x1419) (fun (t : Int × Int × Int × Int) => (.agg [dI t.2.1, dI t.2.2.1, dI t.2.2.2], [some (.box [dV x1418, dI t.1]), some (.box [dI t.2.1, dI t.2.2.1, dI t.2.2.2])])) [] none).run = some (r, H')) : Awp spec_l20Deed_ctx LL (bodyOf Tryd.f19) spec_l20Deed_an ⟨mkE 55 0 [(0, .ptr 0 0), (1, dL x1417)], [some (.box [dV x1418, dI x1419])]⟩ (Ret (tlook tys) Tryd.f19.results.toList r H') :=
  ret_of' (spec_l20Deed_n1_l x1417 x1418 x1419) (by unfold spec_l20Deed; kernel_rfl) (by
  intro t
  exact ret_mk [.agg [dI t.2.1, dI t.2.2.1, dI t.2.2.2]] (by kernel_rfl) (by kernel_rfl) (by kernel_rfl) (by kernel_rfl)) h

def F_spec_l20Deed : Fun := fun avs H =>
  match avs, H with
  | [.ptr 0 0, .dat (.list (.int .i64)) x1417], [some (.box [.dat (.list (.int .u8)) x1418, .dat (.int .i64) x1419])] => ⟨_, spec_l20Deed x1417 x1418 x1419, fun (t : Int × Int × Int × Int) => (.agg [dI t.2.1, dI t.2.2.1, dI t.2.2.2], [some (.box [dV x1418, dI t.1]), some (.box [dI t.2.1, dI t.2.2.1, dI t.2.2.2])]), [], none⟩
  | _, _ => Ans.no

theorem spec_l20Deed_sound : Sound Tryd.prog 19 F_spec_l20Deed := by
  refine fn_sound' (C := spec_l20Deed_ctx) (c := bodyOf Tryd.f19) (cok_of tys_ok (allc spec_l20Rd_pick_sound (allc spec_l20Rd_odd_sound alln)) (allc Tryd.call30 (allc Tryd.call35 alln)) (by kernel_rfl)) Tryd.func19 (by kernel_rfl) LL spec_l20Deed_an ?_
  intro avs H r H' h
  unfold F_spec_l20Deed at h
  split at h
  · refine Awp.cast ?_ ?_ ?_ (spec_l20Deed_e _ _ _ h) <;> kernel_rfl
  · simp [Ans.no, Ans.run] at h


/-! loop.example/headtrees/impl.numbersIn -/

def impl_numbersIn_an : Ann := (.seq (.leaf [0]) (.seq (.seq (.leaf [3]) (.block (.seq (.leaf [3, 4]) (.cond (.seq (.leaf [2]) (.leaf [2])) (.seq (.leaf [6]) (.cond (.seq (.leaf [2]) (.leaf [2])) (.leaf []))))))) (.seq (.leaf [2]) (.leaf [2]))))

noncomputable def impl_numbersIn_ctx : Ctx := ⟨tlook tys, olook [], ioF, 0, false, []⟩

theorem impl_numbersIn_n1_l (x1705 : Int) : Link impl_numbersIn_ctx LL (bodyOf Tryd.f22) impl_numbersIn_an ⟨mkE 8 0 [(0, dI x1705)], []⟩ (impl_numbersIn_n1 x1705) (fun (t : Int) => (Exit.ret, ⟨mkE 8 0 [(2, dI t)], []⟩)) := .of fun K h => by
  simp only [impl_numbersIn_n1, wpW] at h
  exact .of (by kernel_rfl) h

theorem impl_numbersIn_e (x1705 : Int) {r : AV} {H' : Heap} (h : (Ans.mk _ (impl_numbersIn x1705) (fun (t : Int) => (dI t, [])) [] none).run = some (r, H')) : Awp impl_numbersIn_ctx LL (bodyOf Tryd.f22) impl_numbersIn_an ⟨mkE 8 0 [(0, dI x1705)], []⟩ (Ret (tlook tys) Tryd.f22.results.toList r H') :=
  ret_of' (impl_numbersIn_n1_l x1705) (by unfold impl_numbersIn; kernel_rfl) (by
  intro t
  exact ret_mk [dI t] (by kernel_rfl) (by kernel_rfl) (by kernel_rfl) (by kernel_rfl)) h

def F_impl_numbersIn : Fun := fun avs H =>
  match avs, H with
  | [.dat (.int .i64) x1705], [] => ⟨_, impl_numbersIn x1705, fun (t : Int) => (dI t, []), [], none⟩
  | _, _ => Ans.no

theorem impl_numbersIn_sound : Sound Tryd.prog 22 F_impl_numbersIn := by
  refine fn_sound' (C := impl_numbersIn_ctx) (c := bodyOf Tryd.f22) (cok_of tys_ok (alln) (alln) (by kernel_rfl)) Tryd.func22 (by kernel_rfl) LL impl_numbersIn_an ?_
  intro avs H r H' h
  unfold F_impl_numbersIn at h
  split at h
  · refine Awp.cast ?_ ?_ ?_ (impl_numbersIn_e _ h) <;> kernel_rfl
  · simp [Ans.no, Ans.run] at h


/-! (loop.example/headtrees/impl.Deed).restOk -/

def impl_Deed_restOk_an : Ann := (.seq (.leaf [1]) (.seq (.leaf [1, 3]) (.seq (.leaf [2]) (.leaf [2]))))

noncomputable def impl_Deed_restOk_ctx : Ctx := ⟨tlook tys, olook [(22, F_impl_numbersIn)], ioF, 0, false, []⟩

theorem impl_Deed_restOk_n1_l (x1702 : Int) (x1703 : Int) (x1704 : Int) : Link impl_Deed_restOk_ctx LL (bodyOf Tryd.f44) impl_Deed_restOk_an ⟨mkE 23 0 [(0, .agg [dI x1702, dI x1703, dI x1704])], []⟩ (impl_Deed_restOk_n1 x1702 x1703 x1704) (fun (t : Bool) => (Exit.ret, ⟨mkE 23 0 [(2, dB t)], []⟩)) := .of fun K h => by
  simp only [impl_Deed_restOk_n1, wpW] at h
  exact .of (by kernel_rfl) h

theorem impl_Deed_restOk_e (x1702 : Int) (x1703 : Int) (x1704 : Int) {r : AV} {H' : Heap} (h : (Ans.mk _ (impl_Deed_restOk x1702 x1703 x1704) (fun (t : Bool) => (dB t, [])) [] none).run = some (r, H')) : Awp impl_Deed_restOk_ctx LL (bodyOf Tryd.f44) impl_Deed_restOk_an ⟨mkE 23 0 [(0, .agg [dI x1702, dI x1703, dI x1704])], []⟩ (Ret (tlook tys) Tryd.f44.results.toList r H') :=
  ret_of' (impl_Deed_restOk_n1_l x1702 x1703 x1704) (by unfold impl_Deed_restOk; kernel_rfl) (by
  intro t
  exact ret_mk [dB t] (by kernel_rfl) (by kernel_rfl) (by kernel_rfl) (by kernel_rfl)) h

def F_impl_Deed_restOk : Fun := fun avs H =>
  match avs, H with
  | [.agg [.dat (.int .i64) x1702, .dat (.int .i64) x1703, .dat (.int .i64) x1704]], [] => ⟨_, impl_Deed_restOk x1702 x1703 x1704, fun (t : Bool) => (dB t, []), [], none⟩
  | _, _ => Ans.no

theorem impl_Deed_restOk_sound : Sound Tryd.prog 44 F_impl_Deed_restOk := by
  refine fn_sound' (C := impl_Deed_restOk_ctx) (c := bodyOf Tryd.f44) (cok_of tys_ok (allc impl_numbersIn_sound alln) (allc Tryd.call22 alln) (by kernel_rfl)) Tryd.func44 (by kernel_rfl) LL impl_Deed_restOk_an ?_
  intro avs H r H' h
  unfold F_impl_Deed_restOk at h
  split at h
  · refine Awp.cast ?_ ?_ ?_ (impl_Deed_restOk_e _ _ _ h) <;> kernel_rfl
  · simp [Ans.no, Ans.run] at h


/-! (loop.example/headtrees/impl.Deed).inText -/

def impl_Deed_inText_an : Ann := (.seq (.leaf [1]) (.seq (.leaf [2]) (.leaf [2])))

noncomputable def impl_Deed_inText_ctx : Ctx := ⟨tlook tys, olook [(44, F_impl_Deed_restOk)], ioF, 0, false, []⟩

theorem impl_Deed_inText_n1_l (x1697 : Int) (x1698 : Int) (x1699 : Int) : Link impl_Deed_inText_ctx LL (bodyOf Tryd.f21) impl_Deed_inText_an ⟨mkE 35 0 [(0, .agg [dI x1697, dI x1698, dI x1699])], []⟩ (impl_Deed_inText_n1 x1697 x1698 x1699) (fun (t : Bool) => (Exit.ret, ⟨mkE 35 0 [(2, dB t)], []⟩)) := .of fun K h => by
  simp only [impl_Deed_inText_n1, wpW] at h
  exact .of (by kernel_rfl) h

theorem impl_Deed_inText_e (x1697 : Int) (x1698 : Int) (x1699 : Int) {r : AV} {H' : Heap} (h : (Ans.mk _ (impl_Deed_inText x1697 x1698 x1699) (fun (t : Bool) => (dB t, [])) [] none).run = some (r, H')) : Awp impl_Deed_inText_ctx LL (bodyOf Tryd.f21) impl_Deed_inText_an ⟨mkE 35 0 [(0, .agg [dI x1697, dI x1698, dI x1699])], []⟩ (Ret (tlook tys) Tryd.f21.results.toList r H') :=
  ret_of' (impl_Deed_inText_n1_l x1697 x1698 x1699) (by unfold impl_Deed_inText; kernel_rfl) (by
  intro t
  exact ret_mk [dB t] (by kernel_rfl) (by kernel_rfl) (by kernel_rfl) (by kernel_rfl)) h

def F_impl_Deed_inText : Fun := fun avs H =>
  match avs, H with
  | [.agg [.dat (.int .i64) x1697, .dat (.int .i64) x1698, .dat (.int .i64) x1699]], [] => ⟨_, impl_Deed_inText x1697 x1698 x1699, fun (t : Bool) => (dB t, []), [], none⟩
  | _, _ => Ans.no

theorem impl_Deed_inText_sound : Sound Tryd.prog 21 F_impl_Deed_inText := by
  refine fn_sound' (C := impl_Deed_inText_ctx) (c := bodyOf Tryd.f21) (cok_of tys_ok (allc impl_Deed_restOk_sound alln) (allc Tryd.call44 alln) (by kernel_rfl)) Tryd.func21 (by kernel_rfl) LL impl_Deed_inText_an ?_
  intro avs H r H' h
  unfold F_impl_Deed_inText at h
  split at h
  · refine Awp.cast ?_ ?_ ?_ (impl_Deed_inText_e _ _ _ h) <;> kernel_rfl
  · simp [Ans.no, Ans.run] at h


/-! strconv.Itoa -/

def ren_itoaS : Go.Shelf.Ren := ⟨fun | 129 => 83 | 171 => 23 | 243 => 45 | 246 => 56 | 283 => 68 | 284 => 69 | 285 => 70 | 286 => 71 | 317 => 82 | 318 => 84 | 319 => 85 | 320 => 86 | 337 => 92 | 338 => 93 | n => n, fun | 0 => 0 | 2 => 2 | 3 => 3 | 4 => 4 | 5 => 5 | 9 => 9 | 20 => 20 | 37 => 22 | 46 => 102 | 51 => 109 | 53 => 91 | 171 => 90 | 173 => 94 | 212 => 108 | 213 => 110 | 232 => 124 | 233 => 125 | n => n, fun | 17 => 4 | 18 => 7 | 19 => 8 | n => n⟩
theorem lay_itoaS : Lays.n171 Tryd.prog ren_itoaS := {
  mixed := by kernel_rfl
  f129 := Tryd.func83.trans (congrArg some (by kernel_rfl))
  f171 := Tryd.func23.trans (congrArg some (by kernel_rfl))
  f243 := Tryd.func45.trans (congrArg some (by kernel_rfl))
  f246 := Tryd.func56.trans (congrArg some (by kernel_rfl))
  f283 := Tryd.func68.trans (congrArg some (by kernel_rfl))
  f284 := Tryd.func69.trans (congrArg some (by kernel_rfl))
  f285 := Tryd.func70.trans (congrArg some (by kernel_rfl))
  f286 := Tryd.func71.trans (congrArg some (by kernel_rfl))
  f317 := Tryd.func82.trans (congrArg some (by kernel_rfl))
  f318 := Tryd.func84.trans (congrArg some (by kernel_rfl))
  f319 := Tryd.func85.trans (congrArg some (by kernel_rfl))
  f320 := Tryd.func86.trans (congrArg some (by kernel_rfl))
  f337 := Tryd.func92.trans (congrArg some (by kernel_rfl))
  f338 := Tryd.func93.trans (congrArg some (by kernel_rfl))
  t0 := Tryd.underlying0
  a0 := Tryd.isAgg0
  z0 := Tryd.sizeOf0
  v0 := Tryd.zeroValue0
  t2 := Tryd.underlying2
  a2 := Tryd.isAgg2
  z2 := Tryd.sizeOf2
  v2 := Tryd.zeroValue2
  t3 := Tryd.underlying3
  a3 := Tryd.isAgg3
  z3 := Tryd.sizeOf3
  v3 := Tryd.zeroValue3
  t4 := Tryd.underlying4
  a4 := Tryd.isAgg4
  z4 := Tryd.sizeOf4
  v4 := Tryd.zeroValue4
  t5 := Tryd.underlying5
  a5 := Tryd.isAgg5
  z5 := Tryd.sizeOf5
  v5 := Tryd.zeroValue5
  t9 := Tryd.underlying9
  a9 := Tryd.isAgg9
  z9 := Tryd.sizeOf9
  v9 := Tryd.zeroValue9
  t20 := Tryd.underlying20
  a20 := Tryd.isAgg20
  z20 := Tryd.sizeOf20
  v20 := Tryd.zeroValue20
  t37 := Tryd.underlying22
  a37 := Tryd.isAgg22
  z37 := Tryd.sizeOf22
  v37 := Tryd.zeroValue22
  t46 := Tryd.underlying102
  a46 := Tryd.isAgg102
  z46 := Tryd.sizeOf102
  v46 := Tryd.zeroValue102
  t51 := Tryd.underlying109
  a51 := Tryd.isAgg109
  z51 := Tryd.sizeOf109
  v51 := Tryd.zeroValue109
  t53 := Tryd.underlying91
  a53 := Tryd.isAgg91
  z53 := Tryd.sizeOf91
  v53 := Tryd.zeroValue91
  t171 := Tryd.underlying90
  a171 := Tryd.isAgg90
  z171 := Tryd.sizeOf90
  v171 := Tryd.zeroValue90
  t173 := Tryd.underlying94
  a173 := Tryd.isAgg94
  z173 := Tryd.sizeOf94
  v173 := Tryd.zeroValue94
  t212 := Tryd.underlying108
  a212 := Tryd.isAgg108
  z212 := Tryd.sizeOf108
  v212 := Tryd.zeroValue108
  t213 := Tryd.underlying110
  a213 := Tryd.isAgg110
  z213 := Tryd.sizeOf110
  t232 := Tryd.underlying124
  a232 := Tryd.isAgg124
  z232 := Tryd.sizeOf124
  v232 := Tryd.zeroValue124
  t233 := Tryd.underlying125
  a233 := Tryd.isAgg125
  z233 := Tryd.sizeOf125
  v233 := Tryd.zeroValue125
  g17 := by kernel_rfl
  g18 := by kernel_rfl
  g19 := by kernel_rfl }

def F_strconv_Itoa : Fun := F_itoaS
theorem strconv_Itoa_sound : Sound Tryd.prog 23 F_strconv_Itoa := itoaS_sound lay_itoaS


/-! loop.example/headtrees/impl.DeedText -/

def impl_DeedText_an : Ann := (.seq (.leaf [1]) (.seq (.seq (.leaf [1, 8]) (.cond (.seq (.leaf [2]) (.leaf [2])) (.leaf [1]))) (.seq (.leaf [1, 3]) (.seq (.seq (.draw [7, 4] [0, 1, 2, 3, 4, 5, 6, 10, 7, 8, 9] [] [3, 21, 22, 23]) (.block (.loop (.seq (.leaf [3, 21, 22, 23, 24]) (.seq (.cond (.leaf [3, 21, 22, 23]) (.leaf [3])) (.seq (.block (.seq (.leaf [3, 5, 21, 22, 23]) (.leaf [3, 21, 22, 23]))) (.leaf [3, 21, 22, 23]))))))) (.seq (.leaf [2]) (.leaf [2]))))))

noncomputable def impl_DeedText_ctx : Ctx := ⟨tlook tys, olook [(21, F_impl_Deed_inText), (22, F_impl_numbersIn), (23, F_strconv_Itoa)], ioF, 0, false, []⟩

theorem impl_DeedText_n1_l (x1693 : Int) (x1694 : Int) (x1695 : Int) : Link impl_DeedText_ctx LL (Code.seq (cq [0] (bodyOf Tryd.f7)) (Code.seq (cq [0,1] (bodyOf Tryd.f7)) (cq [0,1,1] (bodyOf Tryd.f7)))) (Ann.seq (aq [0] impl_DeedText_an) (Ann.seq (aq [0,1] impl_DeedText_an) (aq [0,1,1] impl_DeedText_an))) ⟨mkE 34 0 [(0, .agg [dI x1693, dI x1694, dI x1695])], []⟩ (impl_DeedText_n1 x1693 x1694 x1695) (Sum.elim (fun (t : ByteArray) => (Exit.normal, ⟨mkE 34 0 [(1, .ptr 0 0), (3, dS t)], [some (.box [dI x1693, dI x1694, dI x1695])]⟩)) (fun (t : ByteArray) => (Exit.ret, ⟨mkE 34 0 [(2, dS t)], []⟩))) := .of fun K h => by
  simp only [impl_DeedText_n1, wpW] at h
  exact .of (by kernel_rfl) h

theorem impl_DeedText_n2_l (x1755 : ByteArray) (x1693 : Int) (x1694 : Int) (x1695 : Int) : Link impl_DeedText_ctx LL (cq [0,0,1,1,1] (bodyOf Tryd.f7)) (aq [0,0,1,1,1] impl_DeedText_an) ⟨mkE 34 0 [(1, .ptr 0 0), (3, dS x1755)], [some (.box [dI x1693, dI x1694, dI x1695])]⟩ (impl_DeedText_n2 x1693 x1694 x1695) (fun (t : (List Int) × Int) => (Exit.normal, ⟨mkE 34 0 [(3, dS x1755), (21, dL t.1), (22, dI t.2), (23, dI 0)], []⟩)) := .of fun K h => by
  simp only [impl_DeedText_n2, wpW] at h
  exact .of (by kernel_rfl) h

theorem impl_DeedText_n3_l (x1778 : ByteArray) (x1760 : List Int) (x1761 : Int) (x1779 : Int) : Link impl_DeedText_ctx LL (cq [0,0,1,0,1,1,1] (bodyOf Tryd.f7)) (aq [0,0,1,0,1,1,1] impl_DeedText_an) ⟨mkE 34 0 [(3, dS x1778), (21, dL x1760), (22, dI x1761), (23, dI x1779)], []⟩ (impl_DeedText_n3 x1778 x1760 x1761 x1779) (Sum.elim (fun (t : ByteArray × Int) => (Exit.normal, ⟨mkE 34 0 [(3, dS t.1), (21, dL x1760), (22, dI x1761), (23, dI t.2)], []⟩)) (fun (t : ByteArray) => ((Exit.exit 0), ⟨mkE 34 0 [(3, dS t)], []⟩))) := .of fun K h => by
  simp only [impl_DeedText_n3, wpW] at h
  exact .of (by kernel_rfl) h

def impl_DeedText_n4_l (x1755 : ByteArray) (x1760 : List Int) (x1761 : Int) := (link_loop (mk := fun (s : ByteArray × Int) => ⟨mkE 34 0 [(3, dS s.1), (21, dL x1760), (22, dI x1761), (23, dI s.2)], []⟩) (fin := (fun (t : ByteArray) => ((Exit.exit 0), ⟨mkE 34 0 [(3, dS t)], []⟩))) (by
  rintro t f K h
  · exact h) (fun s => link_map (impl_DeedText_n3_l s.1 x1760 x1761 s.2) (Sum.elim (fun (t : ByteArray × Int) => Sum.inl (t.1, t.2)) (fun (t : ByteArray) => Sum.inr t)) (by
  rintro (t | t)
  · kernel_rfl
  · kernel_rfl)) (x1755, 0))

def impl_DeedText_n5_l (x1755 : ByteArray) (x1760 : List Int) (x1761 : Int) := (link_block (fin2 := (fun (t : ByteArray) => (Exit.normal, ⟨mkE 34 0 [(3, dS t)], []⟩))) (id := 0) (impl_DeedText_n4_l x1755 x1760 x1761) (fun (t : ByteArray) => t) (by
  rintro t K h
  · exact Eq.mp (by kernel_rfl) h))

def impl_DeedText_n6_l (x1755 : ByteArray) (x1693 : Int) (x1694 : Int) (x1695 : Int) := (link_seq (impl_DeedText_n2_l x1755 x1693 x1694 x1695) (fun (t : (List Int) × Int) => (impl_DeedText_n5_l x1755 t.1 t.2)))

theorem impl_DeedText_n7_l (x1778 : ByteArray) : Link impl_DeedText_ctx LL (cq [1,1,1,1] (bodyOf Tryd.f7)) (aq [1,1,1,1] impl_DeedText_an) ⟨mkE 34 0 [(3, dS x1778)], []⟩ (impl_DeedText_n7 x1778) (fun (t : ByteArray) => (Exit.ret, ⟨mkE 34 0 [(2, dS t)], []⟩)) := .of fun K h => by
  simp only [impl_DeedText_n7, wpW] at h
  exact .of (by kernel_rfl) h

def impl_DeedText_n8_l (x1755 : ByteArray) (x1693 : Int) (x1694 : Int) (x1695 : Int) := (link_seq (impl_DeedText_n6_l x1755 x1693 x1694 x1695) (fun (t : ByteArray) => (impl_DeedText_n7_l t)))

def impl_DeedText_n9_l (x1693 : Int) (x1694 : Int) (x1695 : Int) := (link_group (c := (cq [0,1,1] (bodyOf Tryd.f7))) (a := (aq [0,1,1] impl_DeedText_an)) [(cq [0] (bodyOf Tryd.f7)), (cq [0,1] (bodyOf Tryd.f7))] [(aq [0] impl_DeedText_an), (aq [0,1] impl_DeedText_an)] rfl (link_seq2 (impl_DeedText_n1_l x1693 x1694 x1695) (fun (t : ByteArray) => (impl_DeedText_n8_l t x1693 x1694 x1695)) (fun (t : ByteArray) => t) (by
  rintro t
  · kernel_rfl) (by
  rintro t f K h
  · exact h)))

theorem impl_DeedText_e (x1693 : Int) (x1694 : Int) (x1695 : Int) {r : AV} {H' : Heap} (h : (Ans.mk _ (impl_DeedText x1693 x1694 x1695) (fun (t : ByteArray) => (dS t, [])) [] none).run = some (r, H')) : Awp impl_DeedText_ctx LL (bodyOf Tryd.f7) impl_DeedText_an ⟨mkE 34 0 [(0, .agg [dI x1693, dI x1694, dI x1695])], []⟩ (Ret (tlook tys) Tryd.f7.results.toList r H') :=
  ret_of' (Link.cast (by kernel_rfl) (by kernel_rfl) (impl_DeedText_n9_l x1693 x1694 x1695)) (by unfold impl_DeedText; kernel_rfl) (by
  intro t
  exact ret_mk [dS t] (by kernel_rfl) (by kernel_rfl) (by kernel_rfl) (by kernel_rfl)) h

def F_impl_DeedText : Fun := fun avs H =>
  match avs, H with
  | [.agg [.dat (.int .i64) x1693, .dat (.int .i64) x1694, .dat (.int .i64) x1695]], [] => ⟨_, impl_DeedText x1693 x1694 x1695, fun (t : ByteArray) => (dS t, []), [], none⟩
  | _, _ => Ans.no

theorem impl_DeedText_sound : Sound Tryd.prog 7 F_impl_DeedText := by
  refine fn_sound' (C := impl_DeedText_ctx) (c := bodyOf Tryd.f7) (cok_of tys_ok (allc impl_Deed_inText_sound (allc impl_numbersIn_sound (allc strconv_Itoa_sound alln))) (allc Tryd.call21 (allc Tryd.call22 (allc Tryd.call23 alln))) (by kernel_rfl)) Tryd.func7 (by kernel_rfl) LL impl_DeedText_an ?_
  intro avs H r H' h
  unfold F_impl_DeedText at h
  split at h
  · refine Awp.cast ?_ ?_ ?_ (impl_DeedText_e _ _ _ h) <;> kernel_rfl
  · simp [Ans.no, Ans.run] at h


/-! loop.example/headtrees/spec.l1Number -/

def spec_l1Number_an : Ann := (.seq (.leaf [0]) (.seq (.seq (.leaf [0, 4]) (.cond (.seq (.leafF [⟨5, 9, false, none, none⟩] [2]) (.leaf [2])) (.leaf [0]))) (.seq (.draw [2, 7] [0, 1, 3, 4, 5, 6, 7, 8, 2, 9, 10] [] [2]) (.leaf [2]))))

def F_spec_l1Number_fuel (n : Nat) : Fun := fun avs H =>
  match avs, H with
  | [.dat (.int .i64) x1808], [] => ⟨_, spec_l1Number_fuel n x1808, fun (t : ByteArray) => (dS t, []), [], none⟩
  | _, _ => Ans.no

noncomputable def spec_l1Number_ctx (n : Nat) : Ctx := ⟨tlook tys, olook [(25, F_spec_l1Number_fuel n)], ioF, 0, false, []⟩

theorem spec_l1Number_n1_l (n : Nat) (x1808 : Int) : Link (spec_l1Number_ctx n) LL (bodyOf Tryd.f25) spec_l1Number_an ⟨mkE 21 0 [(0, dI x1808)], []⟩ (spec_l1Number_n1 (spec_l1Number_fuel n) x1808) (fun (t : ByteArray) => (Exit.ret, ⟨mkE 21 0 [(2, dS t)], []⟩)) := .of fun K h => by
  simp only [spec_l1Number_n1, wpW] at h
  exact .of (by kernel_rfl) h

theorem spec_l1Number_e (n : Nat) (x1808 : Int) {r : AV} {H' : Heap} (h : (Ans.mk _ (spec_l1Number_fuel (n + 1) x1808) (fun (t : ByteArray) => (dS t, [])) [] none).run = some (r, H')) : Awp (spec_l1Number_ctx n) LL (bodyOf Tryd.f25) spec_l1Number_an ⟨mkE 21 0 [(0, dI x1808)], []⟩ (Ret (tlook tys) Tryd.f25.results.toList r H') :=
  ret_of' (spec_l1Number_n1_l n x1808) (by (show _ = _); kernel_rfl) (by
  intro t
  exact ret_mk [dS t] (by kernel_rfl) (by kernel_rfl) (by kernel_rfl) (by kernel_rfl)) h

theorem spec_l1Number_step (n : Nat) (h25 : Sound Tryd.prog 25 (F_spec_l1Number_fuel n)) : Sound Tryd.prog 25 (F_spec_l1Number_fuel (n + 1)) := by
  refine fn_sound' (C := spec_l1Number_ctx n) (c := bodyOf Tryd.f25) (cok_of tys_ok (allc h25 alln) (allc Tryd.call25 alln) (by kernel_rfl)) Tryd.func25 (by kernel_rfl) LL spec_l1Number_an ?_
  intro avs H r H' h
  unfold F_spec_l1Number_fuel at h
  split at h
  · refine Awp.cast ?_ ?_ ?_ (spec_l1Number_e n _ h) <;> kernel_rfl
  · simp [Ans.no, Ans.run] at h

theorem spec_l1Number_null : Sound Tryd.prog 25 (F_spec_l1Number_fuel 0) := by
  intro avs H r H' h
  unfold F_spec_l1Number_fuel at h
  split at h
  · simp [spec_l1Number_fuel, spec_l1Number_knot, Ans.run] at h
  · simp [Ans.no, Ans.run] at h

theorem spec_l1Number_knot_all : ∀ n, Sound Tryd.prog 25 (F_spec_l1Number_fuel n)
  | 0 => spec_l1Number_null
  | n + 1 => by
    have h25 := spec_l1Number_knot_all n
    exact spec_l1Number_step n h25

def F_spec_l1Number : Fun := fun avs H =>
  match avs, H with
  | [.dat (.int .i64) x1808], [] => ⟨_, spec_l1Number x1808, fun (t : ByteArray) => (dS t, []), [], none⟩
  | _, _ => Ans.no

theorem spec_l1Number_sound : Sound Tryd.prog 25 F_spec_l1Number := by
  have e : F_spec_l1Number = F_spec_l1Number_fuel RR := by
    funext avs H
    unfold F_spec_l1Number F_spec_l1Number_fuel
    split <;> first | rfl | (simp only [spec_l1Number])
  rw [e]
  exact (spec_l1Number_knot_all RR)


/-! loop.example/headtrees/spec.DeedText -/

def spec_DeedText_an : Ann := (.seq (.leaf [1]) (.seq (.block (.seq (.leaf [1, 3]) (.cond (.seq (.draw [2, 7] [0, 1, 5, 6, 2, 3, 4, 7, 8, 9] [] [2]) (.leaf [2])) (.seq (.leaf [1, 26]) (.cond (.seq (.leaf [2]) (.leaf [2])) (.seq (.leaf [1, 44]) (.cond (.seq (.leaf [2]) (.leaf [2])) (.seq (.leaf [1, 48]) (.cond (.seq (.leaf [2]) (.leaf [2])) (.seq (.leaf [1, 52]) (.cond (.seq (.leaf [2]) (.leaf [2])) (.seq (.leaf [56]) (.cond (.seq (.leaf [2]) (.leaf [2])) (.leaf [])))))))))))))) (.seq (.leaf [2]) (.leaf [2]))))

noncomputable def spec_DeedText_ctx : Ctx := ⟨tlook tys, olook [(24, F_spec_l1In), (25, F_spec_l1Number)], ioF, 0, false, []⟩

theorem spec_DeedText_n1_l (x1802 : Int) (x1803 : Int) (x1804 : Int) : Link spec_DeedText_ctx LL (cq [0] (bodyOf Tryd.f8)) (aq [0] spec_DeedText_an) ⟨mkE 60 0 [(0, .agg [dI x1802, dI x1803, dI x1804])], []⟩ (spec_DeedText_n1) (fun (t : Unit) => (Exit.normal, ⟨mkE 60 0 [(1, .ptr 0 0)], [some (.box [dI x1802, dI x1803, dI x1804])]⟩)) := .of fun K h => by
  simp only [spec_DeedText_n1, wpW] at h
  exact .of (by kernel_rfl) h

theorem spec_DeedText_n2_l (x1802 : Int) (x1803 : Int) (x1804 : Int) : Link spec_DeedText_ctx LL (cq [0,0,0,1] (bodyOf Tryd.f8)) (aq [0,0,0,1] spec_DeedText_an) ⟨mkE 60 0 [(1, .ptr 0 0)], [some (.box [dI x1802, dI x1803, dI x1804])]⟩ (spec_DeedText_n2 x1802 x1803 x1804) (fun (t : Bool) => (Exit.normal, ⟨mkE 60 0 [(1, .ptr 0 0), (3, dB t)], [some (.box [dI x1802, dI x1803, dI x1804])]⟩)) := .of fun K h => by
  simp only [spec_DeedText_n2, wpW] at h
  exact .of (by kernel_rfl) h

theorem spec_DeedText_n3_l (x2025 : Bool) (x1802 : Int) (x1803 : Int) (x1804 : Int) : Link spec_DeedText_ctx LL (cq [0,1,0,0,1] (bodyOf Tryd.f8)) (aq [0,1,0,0,1] spec_DeedText_an) ⟨mkE 60 0 [(1, .ptr 0 0), (3, dB x2025)], [some (.box [dI x1802, dI x1803, dI x1804])]⟩ (spec_DeedText_n3 x1803 x1804) (fun (t : ByteArray) => (Exit.ret, ⟨mkE 60 0 [(2, dS t)], []⟩)) := .of fun K h => by
  simp only [spec_DeedText_n3, wpW] at h
  exact .of (by kernel_rfl) h

theorem spec_DeedText_n4_l (x2025 : Bool) (x1802 : Int) (x1803 : Int) (x1804 : Int) : Link spec_DeedText_ctx LL (cq [0,1,1,0,0,1] (bodyOf Tryd.f8)) (aq [0,1,1,0,0,1] spec_DeedText_an) ⟨mkE 60 0 [(1, .ptr 0 0), (3, dB x2025)], [some (.box [dI x1802, dI x1803, dI x1804])]⟩ (spec_DeedText_n4 x1802 x1803 x1804) (fun (t : Bool) => (Exit.normal, ⟨mkE 60 0 [(1, .ptr 0 0), (26, dB t)], [some (.box [dI x1802, dI x1803, dI x1804])]⟩)) := .of fun K h => by
  simp only [spec_DeedText_n4, wpW] at h
  exact .of (by kernel_rfl) h

theorem spec_DeedText_n5_l (x2123 : Bool) (x1802 : Int) (x1803 : Int) (x1804 : Int) : Link spec_DeedText_ctx LL (cq [1,1,1,0,0,1] (bodyOf Tryd.f8)) (aq [1,1,1,0,0,1] spec_DeedText_an) ⟨mkE 60 0 [(1, .ptr 0 0), (26, dB x2123)], [some (.box [dI x1802, dI x1803, dI x1804])]⟩ (spec_DeedText_n5 x2123 x1802 x1803 x1804) (Sum.elim (fun (t : Unit) => (Exit.normal, ⟨mkE 60 0 [], []⟩)) (fun (t : ByteArray) => (Exit.ret, ⟨mkE 60 0 [(2, dS t)], []⟩))) := .of fun K h => by
  simp only [spec_DeedText_n5, wpW] at h
  exact .of (by kernel_rfl) h

def spec_DeedText_n6_l (x2025 : Bool) (x1802 : Int) (x1803 : Int) (x1804 : Int) := (link_seq (spec_DeedText_n4_l x2025 x1802 x1803 x1804) (fun (t : Bool) => (spec_DeedText_n5_l t x1802 x1803 x1804)))

def spec_DeedText_n7_l (x2025 : Bool) (x1802 : Int) (x1803 : Int) (x1804 : Int) := (link_cond (c := .tmp 3) (g := x2025) (by kernel_rfl) ((link_map (fin2 := (Sum.elim (fun (t : Unit) => (Exit.normal, ⟨mkE 60 0 [], []⟩)) (fun (t : ByteArray) => (Exit.ret, ⟨mkE 60 0 [(2, dS t)], []⟩)))) (spec_DeedText_n3_l x2025 x1802 x1803 x1804) (fun (t : ByteArray) => (Sum.inr t)) (by
  rintro t
  · kernel_rfl))) ((spec_DeedText_n6_l x2025 x1802 x1803 x1804)))

def spec_DeedText_n8_l (x1802 : Int) (x1803 : Int) (x1804 : Int) := (link_seq (spec_DeedText_n2_l x1802 x1803 x1804) (fun (t : Bool) => (spec_DeedText_n7_l t x1802 x1803 x1804)))

def spec_DeedText_n9_l (x1802 : Int) (x1803 : Int) (x1804 : Int) := (link_block (fin2 := (Sum.elim (fun (t : Unit) => (Exit.normal, ⟨mkE 60 0 [], []⟩)) (fun (t : ByteArray) => (Exit.ret, ⟨mkE 60 0 [(2, dS t)], []⟩)))) (id := 0) (spec_DeedText_n8_l x1802 x1803 x1804) (Sum.elim (fun (t : Unit) => (Sum.inl ())) (fun (t : ByteArray) => (Sum.inr t))) (by
  rintro (t | t) K h
  · exact Eq.mp (by kernel_rfl) h
  · exact Eq.mp (by kernel_rfl) h))

theorem spec_DeedText_n10_l : Link spec_DeedText_ctx LL (cq [1,1] (bodyOf Tryd.f8)) (aq [1,1] spec_DeedText_an) ⟨mkE 60 0 [], []⟩ (spec_DeedText_n10) (fun (t : ByteArray) => (Exit.ret, ⟨mkE 60 0 [(2, dS t)], []⟩)) := .of fun K h => by
  simp only [spec_DeedText_n10, wpW] at h
  exact .of (by kernel_rfl) h

def spec_DeedText_n11_l (x1802 : Int) (x1803 : Int) (x1804 : Int) := (link_seq2 (spec_DeedText_n9_l x1802 x1803 x1804) (fun (t : Unit) => (spec_DeedText_n10_l)) (fun (t : ByteArray) => t) (by
  rintro t
  · kernel_rfl) (by
  rintro t f K h
  · exact h))

def spec_DeedText_n12_l (x1802 : Int) (x1803 : Int) (x1804 : Int) := (link_seq (spec_DeedText_n1_l x1802 x1803 x1804) (fun (t : Unit) => (spec_DeedText_n11_l x1802 x1803 x1804)))

theorem spec_DeedText_e (x1802 : Int) (x1803 : Int) (x1804 : Int) {r : AV} {H' : Heap} (h : (Ans.mk _ (spec_DeedText x1802 x1803 x1804) (fun (t : ByteArray) => (dS t, [])) [] none).run = some (r, H')) : Awp spec_DeedText_ctx LL (bodyOf Tryd.f8) spec_DeedText_an ⟨mkE 60 0 [(0, .agg [dI x1802, dI x1803, dI x1804])], []⟩ (Ret (tlook tys) Tryd.f8.results.toList r H') :=
  ret_of' (Link.cast (by kernel_rfl) (by kernel_rfl) (spec_DeedText_n12_l x1802 x1803 x1804)) (by unfold spec_DeedText; kernel_rfl) (by
  intro t
  exact ret_mk [dS t] (by kernel_rfl) (by kernel_rfl) (by kernel_rfl) (by kernel_rfl)) h

def F_spec_DeedText : Fun := fun avs H =>
  match avs, H with
  | [.agg [.dat (.int .i64) x1802, .dat (.int .i64) x1803, .dat (.int .i64) x1804]], [] => ⟨_, spec_DeedText x1802 x1803 x1804, fun (t : ByteArray) => (dS t, []), [], none⟩
  | _, _ => Ans.no

theorem spec_DeedText_sound : Sound Tryd.prog 8 F_spec_DeedText := by
  refine fn_sound' (C := spec_DeedText_ctx) (c := bodyOf Tryd.f8) (cok_of tys_ok (allc spec_l1In_sound (allc spec_l1Number_sound alln)) (allc Tryd.call24 (allc Tryd.call25 alln)) (by kernel_rfl)) Tryd.func8 (by kernel_rfl) LL spec_DeedText_an ?_
  intro avs H r H' h
  unfold F_spec_DeedText at h
  split at h
  · refine Awp.cast ?_ ?_ ?_ (spec_DeedText_e _ _ _ h) <;> kernel_rfl
  · simp [Ans.no, Ans.run] at h


/-! loop.example/headtrees/impl.oneRoot -/

def impl_oneRoot_an : Ann := (.seq (.leaf [0]) (.seq (.leaf [0, 3]) (.seq (.seq (.leaf [0, 3, 6, 7, 8]) (.block (.loop (.seq (.leaf [0, 3, 6, 7, 8, 9]) (.seq (.cond (.leaf [0, 3, 6, 7, 8]) (.leaf [3])) (.seq (.block (.seq (.leaf [0, 3, 5, 6, 7, 8]) (.seq (.seq (.leaf [0, 3, 5, 6, 7, 8, 19]) (.cond (.seq (.leaf [2]) (.leaf [2])) (.leaf [0, 3, 5, 6, 7, 8]))) (.seq (.leaf [0, 3, 6, 7, 8, 21]) (.cond (.leaf [0, 3, 6, 7, 8]) (.leaf [0, 3, 6, 7, 8])))))) (.leaf [0, 3, 6, 7, 8]))))))) (.seq (.leaf [2]) (.leaf [2])))))

noncomputable def impl_oneRoot_ctx : Ctx := ⟨tlook tys, olook [], ioF, 0, false, []⟩

theorem impl_oneRoot_n1_l (x2157 : List Int) : Link impl_oneRoot_ctx LL (Code.seq (cq [0] (bodyOf Tryd.f46)) (cq [0,1] (bodyOf Tryd.f46))) (Ann.seq (aq [0] impl_oneRoot_an) (aq [0,1] impl_oneRoot_an)) ⟨mkE 27 0 [(0, dL x2157)], []⟩ (impl_oneRoot_n1) (fun (t : Unit) => (Exit.normal, ⟨mkE 27 0 [(0, dL x2157), (3, dI 0)], []⟩)) := .of fun K h => by
  simp only [impl_oneRoot_n1, wpW] at h
  exact .of (by kernel_rfl) h

theorem impl_oneRoot_n2_l (x2157 : List Int) : Link impl_oneRoot_ctx LL (cq [0,0,1,1] (bodyOf Tryd.f46)) (aq [0,0,1,1] impl_oneRoot_an) ⟨mkE 27 0 [(0, dL x2157), (3, dI 0)], []⟩ (impl_oneRoot_n2 x2157) (fun (t : Int) => (Exit.normal, ⟨mkE 27 0 [(0, dL x2157), (3, dI 0), (6, dL x2157), (7, dI t), (8, dI 0)], []⟩)) := .of fun K h => by
  simp only [impl_oneRoot_n2, wpW] at h
  exact .of (by kernel_rfl) h

theorem impl_oneRoot_n3_l (x2157 : List Int) (x2179 : Int) (x2158 : Int) (x2180 : Int) : Link impl_oneRoot_ctx LL (cq [0,0,1,0,1,1] (bodyOf Tryd.f46)) (aq [0,0,1,0,1,1] impl_oneRoot_an) ⟨mkE 27 0 [(0, dL x2157), (3, dI x2179), (6, dL x2157), (7, dI x2158), (8, dI x2180)], []⟩ (impl_oneRoot_n3 x2157 x2179 x2158 x2180) (Sum.elim (fun (t : Int × Int) => (Exit.normal, ⟨mkE 27 0 [(0, dL x2157), (3, dI t.1), (6, dL x2157), (7, dI x2158), (8, dI t.2)], []⟩)) (Sum.elim (fun (t : Bool) => (Exit.ret, ⟨mkE 27 0 [(2, dB t)], []⟩)) (fun (t : Int) => ((Exit.exit 0), ⟨mkE 27 0 [(3, dI t)], []⟩)))) := .of fun K h => by
  simp only [impl_oneRoot_n3, wpW] at h
  exact .of (by kernel_rfl) h

def impl_oneRoot_n4_l (x2157 : List Int) (x2158 : Int) := (link_loop (mk := fun (s : Int × Int) => ⟨mkE 27 0 [(0, dL x2157), (3, dI s.1), (6, dL x2157), (7, dI x2158), (8, dI s.2)], []⟩) (fin := (Sum.elim (fun (t : Bool) => (Exit.ret, ⟨mkE 27 0 [(2, dB t)], []⟩)) (fun (t : Int) => ((Exit.exit 0), ⟨mkE 27 0 [(3, dI t)], []⟩)))) (by
  rintro (t | t) f K h
  · exact h
  · exact h) (fun s => link_map (impl_oneRoot_n3_l x2157 s.1 x2158 s.2) (Sum.elim (fun (t : Int × Int) => Sum.inl (t.1, t.2)) (Sum.elim (fun (t : Bool) => Sum.inr (Sum.inl t)) (fun (t : Int) => Sum.inr (Sum.inr t)))) (by
  rintro (t | t | t)
  · kernel_rfl
  · kernel_rfl
  · kernel_rfl)) (0, 0))

def impl_oneRoot_n5_l (x2157 : List Int) (x2158 : Int) := (link_block (fin2 := (Sum.elim (fun (t : Int) => (Exit.normal, ⟨mkE 27 0 [(3, dI t)], []⟩)) (fun (t : Bool) => (Exit.ret, ⟨mkE 27 0 [(2, dB t)], []⟩)))) (id := 0) (impl_oneRoot_n4_l x2157 x2158) (Sum.elim (fun (t : Bool) => (Sum.inr t)) (fun (t : Int) => (Sum.inl t))) (by
  rintro (t | t) K h
  · exact Eq.mp (by kernel_rfl) h
  · exact Eq.mp (by kernel_rfl) h))

def impl_oneRoot_n6_l (x2157 : List Int) := (link_seq (impl_oneRoot_n2_l x2157) (fun (t : Int) => (impl_oneRoot_n5_l x2157 t)))

theorem impl_oneRoot_n7_l (x2179 : Int) : Link impl_oneRoot_ctx LL (cq [1,1,1] (bodyOf Tryd.f46)) (aq [1,1,1] impl_oneRoot_an) ⟨mkE 27 0 [(3, dI x2179)], []⟩ (impl_oneRoot_n7 x2179) (fun (t : Bool) => (Exit.ret, ⟨mkE 27 0 [(2, dB t)], []⟩)) := .of fun K h => by
  simp only [impl_oneRoot_n7, wpW] at h
  exact .of (by kernel_rfl) h

def impl_oneRoot_n8_l (x2157 : List Int) := (link_seq2 (impl_oneRoot_n6_l x2157) (fun (t : Int) => (impl_oneRoot_n7_l t)) (fun (t : Bool) => t) (by
  rintro t
  · kernel_rfl) (by
  rintro t f K h
  · exact h))

def impl_oneRoot_n9_l (x2157 : List Int) := (link_group (c := (cq [0,1] (bodyOf Tryd.f46))) (a := (aq [0,1] impl_oneRoot_an)) [(cq [0] (bodyOf Tryd.f46))] [(aq [0] impl_oneRoot_an)] rfl (link_seq (impl_oneRoot_n1_l x2157) (fun (t : Unit) => (impl_oneRoot_n8_l x2157))))

theorem impl_oneRoot_e (x2157 : List Int) {r : AV} {H' : Heap} (h : (Ans.mk _ (impl_oneRoot x2157) (fun (t : Bool) => (dB t, [])) [] none).run = some (r, H')) : Awp impl_oneRoot_ctx LL (bodyOf Tryd.f46) impl_oneRoot_an ⟨mkE 27 0 [(0, dL x2157)], []⟩ (Ret (tlook tys) Tryd.f46.results.toList r H') :=
  ret_of' (Link.cast (by kernel_rfl) (by kernel_rfl) (impl_oneRoot_n9_l x2157)) (by unfold impl_oneRoot; kernel_rfl) (by
  intro t
  exact ret_mk [dB t] (by kernel_rfl) (by kernel_rfl) (by kernel_rfl) (by kernel_rfl)) h

def F_impl_oneRoot : Fun := fun avs H =>
  match avs, H with
  | [.dat (.list (.int .i64)) x2157], [] => ⟨_, impl_oneRoot x2157, fun (t : Bool) => (dB t, []), [], none⟩
  | _, _ => Ans.no

theorem impl_oneRoot_sound : Sound Tryd.prog 46 F_impl_oneRoot := by
  refine fn_sound' (C := impl_oneRoot_ctx) (c := bodyOf Tryd.f46) (cok_of tys_ok (alln) (alln) (by kernel_rfl)) Tryd.func46 (by kernel_rfl) LL impl_oneRoot_an ?_
  intro avs H r H' h
  unfold F_impl_oneRoot at h
  split at h
  · refine Awp.cast ?_ ?_ ?_ (impl_oneRoot_e _ h) <;> kernel_rfl
  · simp [Ans.no, Ans.run] at h


/-! (*loop.example/headtrees/impl.walker).up -/

def impl_walker_up_an : Ann := (.seq (.leaf [0]) (.seq (.draw [] [0, 1, 2, 3, 4, 5, 6, 7, 8, 9, 10, 11] [] [0, 3]) (.seq (.seq (.leaf [0, 3, 16]) (.cond (.seq (.leaf [2]) (.leaf [2])) (.leaf [0, 3]))) (.seq (.leaf [0]) (.seq (.leaf []) (.seq (.leaf [2]) (.leaf [2])))))))

noncomputable def impl_walker_up_ctx : Ctx := ⟨tlook tys, olook [], ioF, 1, false, []⟩

theorem impl_walker_up_n1_l (x2213 : List Int) (x2214 : Int) (x2215 : Int) : Link impl_walker_up_ctx LL (bodyOf Tryd.f57) impl_walker_up_an ⟨mkE 28 0 [(0, .ptr 0 0)], [some (.box [dL x2213, dI x2214, dI x2215])]⟩ (impl_walker_up_n1 x2213 x2214 x2215) (fun (t : Bool × Int × Int) => (Exit.ret, ⟨mkE 28 0 [(2, dB t.1)], [some (.box [dL x2213, dI t.2.1, dI t.2.2])]⟩)) := .of fun K h => by
  simp only [impl_walker_up_n1, wpW] at h
  exact .of (by kernel_rfl) h

theorem impl_walker_up_e (x2213 : List Int) (x2214 : Int) (x2215 : Int) {r : AV} {H' : Heap} (h : (Ans.mk _ (impl_walker_up x2213 x2214 x2215) (fun (t : Bool × Int × Int) => (dB t.1, [some (.box [dL x2213, dI t.2.1, dI t.2.2])])) [] none).run = some (r, H')) : Awp impl_walker_up_ctx LL (bodyOf Tryd.f57) impl_walker_up_an ⟨mkE 28 0 [(0, .ptr 0 0)], [some (.box [dL x2213, dI x2214, dI x2215])]⟩ (Ret (tlook tys) Tryd.f57.results.toList r H') :=
  ret_of' (impl_walker_up_n1_l x2213 x2214 x2215) (by unfold impl_walker_up; kernel_rfl) (by
  intro t
  exact ret_mk [dB t.1] (by kernel_rfl) (by kernel_rfl) (by kernel_rfl) (by kernel_rfl)) h

def F_impl_walker_up : Fun := fun avs H =>
  match avs, H with
  | [.ptr 0 0], [some (.box [.dat (.list (.int .i64)) x2213, .dat (.int .i64) x2214, .dat (.int .i64) x2215])] => ⟨_, impl_walker_up x2213 x2214 x2215, fun (t : Bool × Int × Int) => (dB t.1, [some (.box [dL x2213, dI t.2.1, dI t.2.2])]), [], none⟩
  | _, _ => Ans.no

theorem impl_walker_up_sound : Sound Tryd.prog 57 F_impl_walker_up := by
  refine fn_sound' (C := impl_walker_up_ctx) (c := bodyOf Tryd.f57) (cok_of tys_ok (alln) (alln) (by kernel_rfl)) Tryd.func57 (by kernel_rfl) LL impl_walker_up_an ?_
  intro avs H r H' h
  unfold F_impl_walker_up at h
  split at h
  · refine Awp.cast ?_ ?_ ?_ (impl_walker_up_e _ _ _ h) <;> kernel_rfl
  · simp [Ans.no, Ans.run] at h


/-! loop.example/headtrees/impl.stepsToRoot -/

def impl_stepsToRoot_an : Ann := (.seq (.leaf [0, 1]) (.seq (.leaf [0, 6]) (.seq (.block (.loop (.seq (.seq (.leaf [0, 6, 10]) (.cond (.leaf [0, 6]) (.leaf [6]))) (.block (.seq (.leaf [0, 6, 15]) (.cond (.seq (.leaf [4, 5]) (.leaf [4, 5])) (.leaf [0, 6]))))))) (.seq (.leaf [4, 5]) (.leaf [4, 5])))))

noncomputable def impl_stepsToRoot_ctx : Ctx := ⟨tlook tys, olook [(57, F_impl_walker_up)], ioF, 0, false, []⟩

theorem impl_stepsToRoot_n1_l (x2211 : List Int) (x2212 : Int) : Link impl_stepsToRoot_ctx LL (Code.seq (cq [0] (bodyOf Tryd.f47)) (cq [0,1] (bodyOf Tryd.f47))) (Ann.seq (aq [0] impl_stepsToRoot_an) (aq [0,1] impl_stepsToRoot_an)) ⟨mkE 18 0 [(0, dL x2211), (1, dI x2212)], []⟩ (impl_stepsToRoot_n1) (fun (t : Unit) => (Exit.normal, ⟨mkE 18 0 [(0, dL x2211), (6, .ptr 0 0)], [some (.box [dL x2211, dI x2212, dI 0])]⟩)) := .of fun K h => by
  simp only [impl_stepsToRoot_n1, wpW] at h
  exact .of (by kernel_rfl) h

theorem impl_stepsToRoot_n2_l (x2211 : List Int) (x2249 : Int) (x2250 : Int) : Link impl_stepsToRoot_ctx LL (cq [0,0,0,1,1] (bodyOf Tryd.f47)) (aq [0,0,0,1,1] impl_stepsToRoot_an) ⟨mkE 18 0 [(0, dL x2211), (6, .ptr 0 0)], [some (.box [dL x2211, dI x2249, dI x2250])]⟩ (impl_stepsToRoot_n2 x2211 x2249 x2250) (Sum.elim (fun (t : Int × Int) => (Exit.normal, ⟨mkE 18 0 [(0, dL x2211), (6, .ptr 0 0)], [some (.box [dL x2211, dI t.1, dI t.2])]⟩)) (Sum.elim (fun (t : Int × Bool) => (Exit.ret, ⟨mkE 18 0 [(4, dI t.1), (5, dB t.2)], []⟩)) (fun (t : Int × Int) => ((Exit.exit 0), ⟨mkE 18 0 [(6, .ptr 0 0)], [some (.box [dL x2211, dI t.1, dI t.2])]⟩)))) := .of fun K h => by
  simp only [impl_stepsToRoot_n2, wpW] at h
  exact .of (by kernel_rfl) h

def impl_stepsToRoot_n3_l (x2211 : List Int) (x2212 : Int) := (link_loop (mk := fun (s : Int × Int) => ⟨mkE 18 0 [(0, dL x2211), (6, .ptr 0 0)], [some (.box [dL x2211, dI s.1, dI s.2])]⟩) (fin := (Sum.elim (fun (t : Int × Bool) => (Exit.ret, ⟨mkE 18 0 [(4, dI t.1), (5, dB t.2)], []⟩)) (fun (t : Int × Int) => ((Exit.exit 0), ⟨mkE 18 0 [(6, .ptr 0 0)], [some (.box [dL x2211, dI t.1, dI t.2])]⟩)))) (by
  rintro (t | t) f K h
  · exact h
  · exact h) (fun s => link_map (impl_stepsToRoot_n2_l x2211 s.1 s.2) (Sum.elim (fun (t : Int × Int) => Sum.inl (t.1, t.2)) (Sum.elim (fun (t : Int × Bool) => Sum.inr (Sum.inl t)) (fun (t : Int × Int) => Sum.inr (Sum.inr t)))) (by
  rintro (t | t | t)
  · kernel_rfl
  · kernel_rfl
  · kernel_rfl)) (x2212, 0))

def impl_stepsToRoot_n4_l (x2211 : List Int) (x2212 : Int) := (link_block (fin2 := (Sum.elim (fun (t : Int × Int) => (Exit.normal, ⟨mkE 18 0 [(6, .ptr 0 0)], [some (.box [dL x2211, dI t.1, dI t.2])]⟩)) (fun (t : Int × Bool) => (Exit.ret, ⟨mkE 18 0 [(4, dI t.1), (5, dB t.2)], []⟩)))) (id := 0) (impl_stepsToRoot_n3_l x2211 x2212) (Sum.elim (fun (t : Int × Bool) => (Sum.inr t)) (fun (t : Int × Int) => (Sum.inl (t.1, t.2)))) (by
  rintro (t | t) K h
  · exact Eq.mp (by kernel_rfl) h
  · exact Eq.mp (by kernel_rfl) h))

theorem impl_stepsToRoot_n5_l (x2211 : List Int) (x2257 : Int) (x2258 : Int) : Link impl_stepsToRoot_ctx LL (cq [1,1,1] (bodyOf Tryd.f47)) (aq [1,1,1] impl_stepsToRoot_an) ⟨mkE 18 0 [(6, .ptr 0 0)], [some (.box [dL x2211, dI x2257, dI x2258])]⟩ (impl_stepsToRoot_n5 x2258) (fun (t : Int × Bool) => (Exit.ret, ⟨mkE 18 0 [(4, dI t.1), (5, dB t.2)], []⟩)) := .of fun K h => by
  simp only [impl_stepsToRoot_n5, wpW] at h
  exact .of (by kernel_rfl) h

def impl_stepsToRoot_n6_l (x2211 : List Int) (x2212 : Int) := (link_seq2 (impl_stepsToRoot_n4_l x2211 x2212) (fun (t : Int × Int) => (impl_stepsToRoot_n5_l x2211 t.1 t.2)) (fun (t : Int × Bool) => t) (by
  rintro t
  · kernel_rfl) (by
  rintro t f K h
  · exact h))

def impl_stepsToRoot_n7_l (x2211 : List Int) (x2212 : Int) := (link_group (c := (cq [0,1] (bodyOf Tryd.f47))) (a := (aq [0,1] impl_stepsToRoot_an)) [(cq [0] (bodyOf Tryd.f47))] [(aq [0] impl_stepsToRoot_an)] rfl (link_seq (impl_stepsToRoot_n1_l x2211 x2212) (fun (t : Unit) => (impl_stepsToRoot_n6_l x2211 x2212))))

theorem impl_stepsToRoot_e (x2211 : List Int) (x2212 : Int) {r : AV} {H' : Heap} (h : (Ans.mk _ (impl_stepsToRoot x2211 x2212) (fun (t : Int × Bool) => (.tup [dI t.1, dB t.2], [])) [] none).run = some (r, H')) : Awp impl_stepsToRoot_ctx LL (bodyOf Tryd.f47) impl_stepsToRoot_an ⟨mkE 18 0 [(0, dL x2211), (1, dI x2212)], []⟩ (Ret (tlook tys) Tryd.f47.results.toList r H') :=
  ret_of' (Link.cast (by kernel_rfl) (by kernel_rfl) (impl_stepsToRoot_n7_l x2211 x2212)) (by unfold impl_stepsToRoot; kernel_rfl) (by
  intro t
  exact ret_mk [dI t.1, dB t.2] (by kernel_rfl) (by kernel_rfl) (by kernel_rfl) (by kernel_rfl)) h

def F_impl_stepsToRoot : Fun := fun avs H =>
  match avs, H with
  | [.dat (.list (.int .i64)) x2211, .dat (.int .i64) x2212], [] => ⟨_, impl_stepsToRoot x2211 x2212, fun (t : Int × Bool) => (.tup [dI t.1, dB t.2], []), [], none⟩
  | _, _ => Ans.no

theorem impl_stepsToRoot_sound : Sound Tryd.prog 47 F_impl_stepsToRoot := by
  refine fn_sound' (C := impl_stepsToRoot_ctx) (c := bodyOf Tryd.f47) (cok_of tys_ok (allc impl_walker_up_sound alln) (allc Tryd.call57 alln) (by kernel_rfl)) Tryd.func47 (by kernel_rfl) LL impl_stepsToRoot_an ?_
  intro avs H r H' h
  unfold F_impl_stepsToRoot at h
  split at h
  · refine Awp.cast ?_ ?_ ?_ (impl_stepsToRoot_e _ _ h) <;> kernel_rfl
  · simp [Ans.no, Ans.run] at h


/-! loop.example/headtrees/impl.TreeOk -/

def impl_TreeOk_an : Ann := (.seq (.leaf [0]) (.seq (.seq (.leaf [0, 18]) (.cond (.seq (.leaf [2]) (.leaf [2])) (.leaf [0]))) (.seq (.seq (.leaf [0, 20, 21]) (.block (.loop (.seq (.leaf [0, 20, 21, 22]) (.seq (.cond (.leaf [0, 20, 21]) (.leaf [])) (.seq (.block (.seq (.leaf [0, 3, 20, 21]) (.seq (.leaf [0, 5, 20, 21]) (.seq (.leaf [0, 20, 21, 32]) (.cond (.seq (.leaf [2]) (.leaf [2])) (.leaf [0, 20, 21])))))) (.leaf [0, 20, 21]))))))) (.seq (.leaf [2]) (.leaf [2])))))

noncomputable def impl_TreeOk_ctx : Ctx := ⟨tlook tys, olook [(46, F_impl_oneRoot), (47, F_impl_stepsToRoot)], ioF, 0, false, []⟩

theorem impl_TreeOk_n1_l (x2152 : List Int) : Link impl_TreeOk_ctx LL (Code.seq (cq [0] (bodyOf Tryd.f26)) (cq [0,1] (bodyOf Tryd.f26))) (Ann.seq (aq [0] impl_TreeOk_an) (aq [0,1] impl_TreeOk_an)) ⟨mkE 34 0 [(0, dL x2152)], []⟩ (impl_TreeOk_n1 x2152) (Sum.elim (fun (t : Unit) => (Exit.normal, ⟨mkE 34 0 [(0, dL x2152)], []⟩)) (fun (t : Bool) => (Exit.ret, ⟨mkE 34 0 [(2, dB t)], []⟩))) := .of fun K h => by
  simp only [impl_TreeOk_n1, wpW] at h
  exact .of (by kernel_rfl) h

theorem impl_TreeOk_n2_l (x2152 : List Int) : Link impl_TreeOk_ctx LL (cq [0,0,1,1] (bodyOf Tryd.f26)) (aq [0,0,1,1] impl_TreeOk_an) ⟨mkE 34 0 [(0, dL x2152)], []⟩ (impl_TreeOk_n2 x2152) (fun (t : Int) => (Exit.normal, ⟨mkE 34 0 [(0, dL x2152), (20, dI t), (21, dI 0)], []⟩)) := .of fun K h => by
  simp only [impl_TreeOk_n2, wpW] at h
  exact .of (by kernel_rfl) h

theorem impl_TreeOk_n3_l (x2152 : List Int) (x2206 : Int) (x2274 : Int) : Link impl_TreeOk_ctx LL (cq [0,0,1,0,1,1] (bodyOf Tryd.f26)) (aq [0,0,1,0,1,1] impl_TreeOk_an) ⟨mkE 34 0 [(0, dL x2152), (20, dI x2206), (21, dI x2274)], []⟩ (impl_TreeOk_n3 x2152 x2206 x2274) (Sum.elim (fun (t : Int) => (Exit.normal, ⟨mkE 34 0 [(0, dL x2152), (20, dI x2206), (21, dI t)], []⟩)) (Sum.elim (fun (t : Bool) => (Exit.ret, ⟨mkE 34 0 [(2, dB t)], []⟩)) (fun (t : Unit) => ((Exit.exit 0), ⟨mkE 34 0 [], []⟩)))) := .of fun K h => by
  simp only [impl_TreeOk_n3, wpW] at h
  exact .of (by kernel_rfl) h

def impl_TreeOk_n4_l (x2152 : List Int) (x2206 : Int) := (link_loop (mk := fun (s : Int) => ⟨mkE 34 0 [(0, dL x2152), (20, dI x2206), (21, dI s)], []⟩) (fin := (Sum.elim (fun (t : Bool) => (Exit.ret, ⟨mkE 34 0 [(2, dB t)], []⟩)) (fun (t : Unit) => ((Exit.exit 0), ⟨mkE 34 0 [], []⟩)))) (by
  rintro (t | t) f K h
  · exact h
  · exact h) (fun s => link_map (impl_TreeOk_n3_l x2152 x2206 s) (Sum.elim (fun (t : Int) => Sum.inl t) (Sum.elim (fun (t : Bool) => Sum.inr (Sum.inl t)) (fun (t : Unit) => Sum.inr (Sum.inr t)))) (by
  rintro (t | t | t)
  · kernel_rfl
  · kernel_rfl
  · kernel_rfl)) 0)

def impl_TreeOk_n5_l (x2152 : List Int) (x2206 : Int) := (link_block (fin2 := (Sum.elim (fun (t : Unit) => (Exit.normal, ⟨mkE 34 0 [], []⟩)) (fun (t : Bool) => (Exit.ret, ⟨mkE 34 0 [(2, dB t)], []⟩)))) (id := 0) (impl_TreeOk_n4_l x2152 x2206) (Sum.elim (fun (t : Bool) => (Sum.inr t)) (fun (t : Unit) => (Sum.inl ()))) (by
  rintro (t | t) K h
  · exact Eq.mp (by kernel_rfl) h
  · exact Eq.mp (by kernel_rfl) h))

def impl_TreeOk_n6_l (x2152 : List Int) := (link_seq (impl_TreeOk_n2_l x2152) (fun (t : Int) => (impl_TreeOk_n5_l x2152 t)))

theorem impl_TreeOk_n7_l : Link impl_TreeOk_ctx LL (cq [1,1,1] (bodyOf Tryd.f26)) (aq [1,1,1] impl_TreeOk_an) ⟨mkE 34 0 [], []⟩ (impl_TreeOk_n7) (fun (t : Bool) => (Exit.ret, ⟨mkE 34 0 [(2, dB t)], []⟩)) := .of fun K h => by
  simp only [impl_TreeOk_n7, wpW] at h
  exact .of (by kernel_rfl) h

def impl_TreeOk_n8_l (x2152 : List Int) := (link_seq2 (impl_TreeOk_n6_l x2152) (fun (t : Unit) => (impl_TreeOk_n7_l)) (fun (t : Bool) => t) (by
  rintro t
  · kernel_rfl) (by
  rintro t f K h
  · exact h))

def impl_TreeOk_n9_l (x2152 : List Int) := (link_group (c := (cq [0,1] (bodyOf Tryd.f26))) (a := (aq [0,1] impl_TreeOk_an)) [(cq [0] (bodyOf Tryd.f26))] [(aq [0] impl_TreeOk_an)] rfl (link_seq2 (impl_TreeOk_n1_l x2152) (fun (t : Unit) => (impl_TreeOk_n8_l x2152)) (fun (t : Bool) => t) (by
  rintro t
  · kernel_rfl) (by
  rintro t f K h
  · exact h)))

theorem impl_TreeOk_e (x2152 : List Int) {r : AV} {H' : Heap} (h : (Ans.mk _ (impl_TreeOk x2152) (fun (t : Bool) => (dB t, [])) [] none).run = some (r, H')) : Awp impl_TreeOk_ctx LL (bodyOf Tryd.f26) impl_TreeOk_an ⟨mkE 34 0 [(0, dL x2152)], []⟩ (Ret (tlook tys) Tryd.f26.results.toList r H') :=
  ret_of' (Link.cast (by kernel_rfl) (by kernel_rfl) (impl_TreeOk_n9_l x2152)) (by unfold impl_TreeOk; kernel_rfl) (by
  intro t
  exact ret_mk [dB t] (by kernel_rfl) (by kernel_rfl) (by kernel_rfl) (by kernel_rfl)) h

def F_impl_TreeOk : Fun := fun avs H =>
  match avs, H with
  | [.dat (.list (.int .i64)) x2152], [] => ⟨_, impl_TreeOk x2152, fun (t : Bool) => (dB t, []), [], none⟩
  | _, _ => Ans.no

theorem impl_TreeOk_sound : Sound Tryd.prog 26 F_impl_TreeOk := by
  refine fn_sound' (C := impl_TreeOk_ctx) (c := bodyOf Tryd.f26) (cok_of tys_ok (allc impl_oneRoot_sound (allc impl_stepsToRoot_sound alln)) (allc Tryd.call46 (allc Tryd.call47 alln)) (by kernel_rfl)) Tryd.func26 (by kernel_rfl) LL impl_TreeOk_an ?_
  intro avs H r H' h
  unfold F_impl_TreeOk at h
  split at h
  · refine Awp.cast ?_ ?_ ?_ (impl_TreeOk_e _ h) <;> kernel_rfl
  · simp [Ans.no, Ans.run] at h


/-! loop.example/headtrees/laws.alive -/

def laws_alive_an : Ann := (.seq (.leaf []) (.seq (.leaf [0]) (.leaf [0])))

noncomputable def laws_alive_ctx : Ctx := ⟨tlook tys, olook [(26, F_impl_TreeOk)], ioF, 0, false, []⟩

theorem laws_alive_n1_l : Link laws_alive_ctx LL (bodyOf Tryd.f9) laws_alive_an ⟨mkE 8 0 [], []⟩ (laws_alive_n1) (fun (t : Bool) => (Exit.ret, ⟨mkE 8 0 [(0, dB t)], []⟩)) := .of fun K h => by
  simp only [laws_alive_n1, wpW] at h
  exact .of (by kernel_rfl) h

theorem laws_alive_e {r : AV} {H' : Heap} (h : (Ans.mk _ (laws_alive) (fun (t : Bool) => (dB t, [])) [] none).run = some (r, H')) : Awp laws_alive_ctx LL (bodyOf Tryd.f9) laws_alive_an ⟨mkE 8 0 [], []⟩ (Ret (tlook tys) Tryd.f9.results.toList r H') :=
  ret_of' (laws_alive_n1_l) (by unfold laws_alive; kernel_rfl) (by
  intro t
  exact ret_mk [dB t] (by kernel_rfl) (by kernel_rfl) (by kernel_rfl) (by kernel_rfl)) h

def F_laws_alive : Fun := fun avs H =>
  match avs, H with
  | [], [] => ⟨_, laws_alive, fun (t : Bool) => (dB t, []), [], none⟩
  | _, _ => Ans.no

theorem laws_alive_sound : Sound Tryd.prog 9 F_laws_alive := by
  refine fn_sound' (C := laws_alive_ctx) (c := bodyOf Tryd.f9) (cok_of tys_ok (allc impl_TreeOk_sound alln) (allc Tryd.call26 alln) (by kernel_rfl)) Tryd.func9 (by kernel_rfl) LL laws_alive_an ?_
  intro avs H r H' h
  unfold F_laws_alive at h
  split at h
  · refine Awp.cast ?_ ?_ ?_ (laws_alive_e h) <;> kernel_rfl
  · simp [Ans.no, Ans.run] at h


/-! internal/stringslite.Index -/

def ren_sidx : Go.Shelf.Ren := ⟨fun | 217 => 78 | 219 => 67 | 224 => 80 | 225 => 79 | 266 => 90 | 267 => 81 | 314 => 91 | n => n, fun | 3 => 3 | 4 => 4 | 5 => 5 | 9 => 9 | 46 => 102 | 51 => 109 | 146 => 117 | n => n, fun | 1 => 3 | n => n⟩
theorem lay_sidx : Lays.n219 Tryd.prog ren_sidx := {
  mixed := by kernel_rfl
  f217 := Tryd.func78.trans (congrArg some (by kernel_rfl))
  f219 := Tryd.func67.trans (congrArg some (by kernel_rfl))
  f224 := Tryd.func80.trans (congrArg some (by kernel_rfl))
  f225 := Tryd.func79.trans (congrArg some (by kernel_rfl))
  f266 := Tryd.func90.trans (congrArg some (by kernel_rfl))
  f267 := Tryd.func81.trans (congrArg some (by kernel_rfl))
  f314 := Tryd.func91.trans (congrArg some (by kernel_rfl))
  t3 := Tryd.underlying3
  a3 := Tryd.isAgg3
  z3 := Tryd.sizeOf3
  v3 := Tryd.zeroValue3
  t4 := Tryd.underlying4
  a4 := Tryd.isAgg4
  z4 := Tryd.sizeOf4
  v4 := Tryd.zeroValue4
  t5 := Tryd.underlying5
  a5 := Tryd.isAgg5
  z5 := Tryd.sizeOf5
  v5 := Tryd.zeroValue5
  t9 := Tryd.underlying9
  a9 := Tryd.isAgg9
  z9 := Tryd.sizeOf9
  v9 := Tryd.zeroValue9
  t46 := Tryd.underlying102
  a46 := Tryd.isAgg102
  z46 := Tryd.sizeOf102
  v46 := Tryd.zeroValue102
  t51 := Tryd.underlying109
  a51 := Tryd.isAgg109
  z51 := Tryd.sizeOf109
  v51 := Tryd.zeroValue109
  t146 := Tryd.underlying117
  a146 := Tryd.isAgg117
  z146 := Tryd.sizeOf117
  v146 := Tryd.zeroValue117
  g1 := by kernel_rfl }

def F_internal_stringslite_Index : Fun := F_sidx
theorem internal_stringslite_Index_sound : Sound Tryd.prog 67 F_internal_stringslite_Index := sidx_sound lay_sidx


/-! strings.Index -/

def strings_Index_an : Ann := (.seq (.leaf [0, 1]) (.seq (.leaf [4]) (.leaf [4])))

noncomputable def strings_Index_ctx : Ctx := ⟨tlook tys, olook [(67, F_internal_stringslite_Index)], ioF, 0, false, []⟩

theorem strings_Index_n1_l (x2362 : ByteArray) (x2363 : ByteArray) : Link strings_Index_ctx LL (bodyOf Tryd.f60) strings_Index_an ⟨mkE 8 0 [(0, dS x2362), (1, dS x2363)], []⟩ (strings_Index_n1 x2362 x2363) (fun (t : Int) => (Exit.ret, ⟨mkE 8 0 [(4, dI t)], []⟩)) := .of fun K h => by
  simp only [strings_Index_n1, wpW] at h
  exact .of (by kernel_rfl) h

theorem strings_Index_e (x2362 : ByteArray) (x2363 : ByteArray) {r : AV} {H' : Heap} (h : (Ans.mk _ (strings_Index x2362 x2363) (fun (t : Int) => (dI t, [])) [] none).run = some (r, H')) : Awp strings_Index_ctx LL (bodyOf Tryd.f60) strings_Index_an ⟨mkE 8 0 [(0, dS x2362), (1, dS x2363)], []⟩ (Ret (tlook tys) Tryd.f60.results.toList r H') :=
  ret_of' (strings_Index_n1_l x2362 x2363) (by unfold strings_Index; kernel_rfl) (by
  intro t
  exact ret_mk [dI t] (by kernel_rfl) (by kernel_rfl) (by kernel_rfl) (by kernel_rfl)) h

def F_strings_Index : Fun := fun avs H =>
  match avs, H with
  | [.dat .str x2362, .dat .str x2363], [] => ⟨_, strings_Index x2362 x2363, fun (t : Int) => (dI t, []), [], none⟩
  | _, _ => Ans.no

theorem strings_Index_sound : Sound Tryd.prog 60 F_strings_Index := by
  refine fn_sound' (C := strings_Index_ctx) (c := bodyOf Tryd.f60) (cok_of tys_ok (allc internal_stringslite_Index_sound alln) (allc Tryd.call67 alln) (by kernel_rfl)) Tryd.func60 (by kernel_rfl) LL strings_Index_an ?_
  intro avs H r H' h
  unfold F_strings_Index at h
  split at h
  · refine Awp.cast ?_ ?_ ?_ (strings_Index_e _ _ h) <;> kernel_rfl
  · simp [Ans.no, Ans.run] at h


/-! strings.genSplit -/

def strings_genSplit_an : Ann := (.seq (.leaf [0, 1, 2, 3]) (.seq (.seq (.leaf [0, 1, 2, 3, 13]) (.cond (.seq (.leaf [8]) (.leafF [⟨0, 8, true, none, none⟩] [8])) (.leaf [0, 1, 2, 3]))) (.seq (.seq (.leaf [0, 1, 2, 3, 15]) (.cond (.seq (.leaf [8]) (.leaf [8])) (.leaf [0, 1, 2, 3]))) (.seq (.seq (.leaf [0, 1, 2, 3, 20]) (.cond (.leaf [0, 1, 2, 3]) (.leaf [0, 1, 2, 3]))) (.seq (.leaf [0, 1, 2, 3]) (.seq (.leaf [0, 1, 2, 3, 9]) (.seq (.leaf [0, 1, 2, 3, 9]) (.seq (.leaf [0, 1, 2, 3, 9, 10]) (.seq (.block (.loop (.seq (.seq (.leaf [0, 1, 2, 3, 9, 10, 36]) (.cond (.leaf [0, 1, 2, 3, 9, 10]) (.leaf [0, 9, 10]))) (.block (.seq (.leaf [0, 1, 2, 3, 9, 10, 11]) (.seq (.seq (.leaf [0, 1, 2, 3, 9, 10, 11, 41]) (.cond (.leaf [0, 9, 10]) (.leaf [0, 1, 2, 3, 9, 10, 11]))) (.seq (.leaf [0, 1, 2, 3, 9, 10, 11]) (.seq (.leaf [0, 1, 2, 3, 9, 10]) (.leaf [0, 1, 2, 3, 9, 10]))))))))) (.seq (.leaf [9, 10]) (.seq (.leaf [8]) (.leaf [8]))))))))))))

noncomputable def strings_genSplit_ctx : Ctx := ⟨tlook tys, olook [(60, F_strings_Index)], ioF, 0, false, []⟩

theorem strings_genSplit_n1_l (x2318 : ByteArray) (x2319 : ByteArray) (x2320 : Int) (x2321 : Int) : Link strings_genSplit_ctx LL (Code.seq (cq [0] (bodyOf Tryd.f48)) (Code.seq (cq [0,1] (bodyOf Tryd.f48)) (Code.seq (cq [0,1,1] (bodyOf Tryd.f48)) (Code.seq (cq [0,1,1,1] (bodyOf Tryd.f48)) (Code.seq (cq [0,1,1,1,1] (bodyOf Tryd.f48)) (Code.seq (cq [0,1,1,1,1,1] (bodyOf Tryd.f48)) (Code.seq (cq [0,1,1,1,1,1,1] (bodyOf Tryd.f48)) (cq [0,1,1,1,1,1,1,1] (bodyOf Tryd.f48))))))))) (Ann.seq (aq [0] strings_genSplit_an) (Ann.seq (aq [0,1] strings_genSplit_an) (Ann.seq (aq [0,1,1] strings_genSplit_an) (Ann.seq (aq [0,1,1,1] strings_genSplit_an) (Ann.seq (aq [0,1,1,1,1] strings_genSplit_an) (Ann.seq (aq [0,1,1,1,1,1] strings_genSplit_an) (Ann.seq (aq [0,1,1,1,1,1,1] strings_genSplit_an) (aq [0,1,1,1,1,1,1,1] strings_genSplit_an)))))))) ⟨mkE 66 0 [(0, dS x2318), (1, dS x2319), (2, dI x2320), (3, dI x2321)], []⟩ (strings_genSplit_n1 x2318 x2319 x2321) (Sum.elim (fun (t : Int × (List ByteArray)) => (Exit.normal, ⟨mkE 66 0 [(0, dS x2318), (1, dS x2319), (2, dI x2320), (3, dI t.1), (9, .slc 0), (10, dI 0)], [some (.seq .str t.2)]⟩)) (fun (t : Nat × (List ByteArray)) => (Exit.ret, ⟨mkE 66 0 [(8, .win 0 0 t.1)], [some (.seq .str t.2)]⟩))) := .of fun K h => by
  simp only [strings_genSplit_n1, wpW, wpO_none] at h
  exact .of (by kernel_rfl) h

theorem strings_genSplit_n2_l (x2477 : ByteArray) (x2319 : ByteArray) (x2320 : Int) (x2460 : Int) (x2478 : Int) (x2479 : List ByteArray) : Link strings_genSplit_ctx LL (cq [0,0,0,1,1,1,1,1,1,1,1] (bodyOf Tryd.f48)) (aq [0,0,0,1,1,1,1,1,1,1,1] strings_genSplit_an) ⟨mkE 66 0 [(0, dS x2477), (1, dS x2319), (2, dI x2320), (3, dI x2460), (9, .slc 0), (10, dI x2478)], [some (.seq .str x2479)]⟩ (strings_genSplit_n2 x2477 x2319 x2320 x2460 x2478 x2479) (Sum.elim (fun (t : ByteArray × Int × (List ByteArray)) => (Exit.normal, ⟨mkE 66 0 [(0, dS t.1), (1, dS x2319), (2, dI x2320), (3, dI x2460), (9, .slc 0), (10, dI t.2.1)], [some (.seq .str t.2.2)]⟩)) (fun (t : ByteArray × Int × (List ByteArray)) => ((Exit.exit 0), ⟨mkE 66 0 [(0, dS t.1), (9, .slc 0), (10, dI t.2.1)], [some (.seq .str t.2.2)]⟩))) := .of fun K h => by
  simp only [strings_genSplit_n2, wpW] at h
  exact .of (by kernel_rfl) h

def strings_genSplit_n3_l (x2318 : ByteArray) (x2319 : ByteArray) (x2320 : Int) (x2460 : Int) (x2459 : List ByteArray) := (link_loop (mk := fun (s : ByteArray × Int × (List ByteArray)) => ⟨mkE 66 0 [(0, dS s.1), (1, dS x2319), (2, dI x2320), (3, dI x2460), (9, .slc 0), (10, dI s.2.1)], [some (.seq .str s.2.2)]⟩) (fin := (fun (t : ByteArray × Int × (List ByteArray)) => ((Exit.exit 0), ⟨mkE 66 0 [(0, dS t.1), (9, .slc 0), (10, dI t.2.1)], [some (.seq .str t.2.2)]⟩))) (by
  rintro t f K h
  · exact h) (fun s => link_map (strings_genSplit_n2_l s.1 x2319 x2320 x2460 s.2.1 s.2.2) (Sum.elim (fun (t : ByteArray × Int × (List ByteArray)) => Sum.inl (t.1, t.2.1, t.2.2)) (fun (t : ByteArray × Int × (List ByteArray)) => Sum.inr t)) (by
  rintro (t | t)
  · kernel_rfl
  · kernel_rfl)) (x2318, 0, x2459))

def strings_genSplit_n4_l (x2318 : ByteArray) (x2319 : ByteArray) (x2320 : Int) (x2460 : Int) (x2459 : List ByteArray) := (link_block (fin2 := (fun (t : ByteArray × Int × (List ByteArray)) => (Exit.normal, ⟨mkE 66 0 [(0, dS t.1), (9, .slc 0), (10, dI t.2.1)], [some (.seq .str t.2.2)]⟩))) (id := 0) (strings_genSplit_n3_l x2318 x2319 x2320 x2460 x2459) (fun (t : ByteArray × Int × (List ByteArray)) => (t.1, t.2.1, t.2.2)) (by
  rintro t K h
  · exact Eq.mp (by kernel_rfl) h))

theorem strings_genSplit_n5_l (x2477 : ByteArray) (x2478 : Int) (x2479 : List ByteArray) : Link strings_genSplit_ctx LL (cq [1,1,1,1,1,1,1,1,1] (bodyOf Tryd.f48)) (aq [1,1,1,1,1,1,1,1,1] strings_genSplit_an) ⟨mkE 66 0 [(0, dS x2477), (9, .slc 0), (10, dI x2478)], [some (.seq .str x2479)]⟩ (strings_genSplit_n5 x2477 x2478 x2479) (fun (t : Nat × (List ByteArray)) => (Exit.ret, ⟨mkE 66 0 [(8, .win 0 0 t.1)], [some (.seq .str t.2)]⟩)) := .of fun K h => by
  simp only [strings_genSplit_n5, wpW] at h
  exact .of (by kernel_rfl) h

def strings_genSplit_n6_l (x2318 : ByteArray) (x2319 : ByteArray) (x2320 : Int) (x2460 : Int) (x2459 : List ByteArray) := (link_seq (strings_genSplit_n4_l x2318 x2319 x2320 x2460 x2459) (fun (t : ByteArray × Int × (List ByteArray)) => (strings_genSplit_n5_l t.1 t.2.1 t.2.2)))

def strings_genSplit_n7_l (x2318 : ByteArray) (x2319 : ByteArray) (x2320 : Int) (x2321 : Int) := (link_group (c := (cq [0,1,1,1,1,1,1,1] (bodyOf Tryd.f48))) (a := (aq [0,1,1,1,1,1,1,1] strings_genSplit_an)) [(cq [0] (bodyOf Tryd.f48)), (cq [0,1] (bodyOf Tryd.f48)), (cq [0,1,1] (bodyOf Tryd.f48)), (cq [0,1,1,1] (bodyOf Tryd.f48)), (cq [0,1,1,1,1] (bodyOf Tryd.f48)), (cq [0,1,1,1,1,1] (bodyOf Tryd.f48)), (cq [0,1,1,1,1,1,1] (bodyOf Tryd.f48))] [(aq [0] strings_genSplit_an), (aq [0,1] strings_genSplit_an), (aq [0,1,1] strings_genSplit_an), (aq [0,1,1,1] strings_genSplit_an), (aq [0,1,1,1,1] strings_genSplit_an), (aq [0,1,1,1,1,1] strings_genSplit_an), (aq [0,1,1,1,1,1,1] strings_genSplit_an)] rfl (link_seq2 (strings_genSplit_n1_l x2318 x2319 x2320 x2321) (fun (t : Int × (List ByteArray)) => (strings_genSplit_n6_l x2318 x2319 x2320 t.1 t.2)) (fun (t : Nat × (List ByteArray)) => t) (by
  rintro t
  · kernel_rfl) (by
  rintro t f K h
  · exact h)))

theorem strings_genSplit_e (x2318 : ByteArray) (x2319 : ByteArray) (x2320 : Int) (x2321 : Int) {r : AV} {H' : Heap} (h : (Ans.mk _ (strings_genSplit x2318 x2319 x2320 x2321) (fun (t : Nat × (List ByteArray)) => (.win 0 0 t.1, [some (.seq .str t.2)])) [] none).run = some (r, H')) : Awp strings_genSplit_ctx LL (bodyOf Tryd.f48) strings_genSplit_an ⟨mkE 66 0 [(0, dS x2318), (1, dS x2319), (2, dI x2320), (3, dI x2321)], []⟩ (Ret (tlook tys) Tryd.f48.results.toList r H') :=
  ret_of' (Link.cast (by kernel_rfl) (by kernel_rfl) (strings_genSplit_n7_l x2318 x2319 x2320 x2321)) (by unfold strings_genSplit; kernel_rfl) (by
  intro t
  exact ret_mk [.win 0 0 t.1] (by kernel_rfl) (by kernel_rfl) (by kernel_rfl) (by kernel_rfl)) h

def F_strings_genSplit : Fun := fun avs H =>
  match avs, H with
  | [.dat .str x2318, .dat .str x2319, .dat (.int .i64) x2320, .dat (.int .i64) x2321], [] => ⟨_, strings_genSplit x2318 x2319 x2320 x2321, fun (t : Nat × (List ByteArray)) => (.win 0 0 t.1, [some (.seq .str t.2)]), [], none⟩
  | _, _ => Ans.no

theorem strings_genSplit_sound : Sound Tryd.prog 48 F_strings_genSplit := by
  refine fn_sound' (C := strings_genSplit_ctx) (c := bodyOf Tryd.f48) (cok_of tys_ok (allc strings_Index_sound alln) (allc Tryd.call60 alln) (by kernel_rfl)) Tryd.func48 (by kernel_rfl) LL strings_genSplit_an ?_
  intro avs H r H' h
  unfold F_strings_genSplit at h
  split at h
  · refine Awp.cast ?_ ?_ ?_ (strings_genSplit_e _ _ _ _ h) <;> kernel_rfl
  · simp [Ans.no, Ans.run] at h


/-! strings.SplitN -/

def strings_SplitN_an : Ann := (.seq (.leaf [0, 1, 2]) (.seq (.leaf [6]) (.leaf [6])))

noncomputable def strings_SplitN_ctx : Ctx := ⟨tlook tys, olook [(48, F_strings_genSplit)], ioF, 0, false, []⟩

theorem strings_SplitN_n1_l (x2314 : ByteArray) (x2315 : ByteArray) (x2316 : Int) : Link strings_SplitN_ctx LL (bodyOf Tryd.f27) strings_SplitN_an ⟨mkE 11 0 [(0, dS x2314), (1, dS x2315), (2, dI x2316)], []⟩ (strings_SplitN_n1 x2314 x2315 x2316) (fun (t : Nat × (List ByteArray)) => (Exit.ret, ⟨mkE 11 0 [(6, .win 0 0 t.1)], [some (.seq .str t.2)]⟩)) := .of fun K h => by
  simp only [strings_SplitN_n1, wpW] at h
  exact .of (by kernel_rfl) h

theorem strings_SplitN_e (x2314 : ByteArray) (x2315 : ByteArray) (x2316 : Int) {r : AV} {H' : Heap} (h : (Ans.mk _ (strings_SplitN x2314 x2315 x2316) (fun (t : Nat × (List ByteArray)) => (.win 0 0 t.1, [some (.seq .str t.2)])) [] none).run = some (r, H')) : Awp strings_SplitN_ctx LL (bodyOf Tryd.f27) strings_SplitN_an ⟨mkE 11 0 [(0, dS x2314), (1, dS x2315), (2, dI x2316)], []⟩ (Ret (tlook tys) Tryd.f27.results.toList r H') :=
  ret_of' (strings_SplitN_n1_l x2314 x2315 x2316) (by unfold strings_SplitN; kernel_rfl) (by
  intro t
  exact ret_mk [.win 0 0 t.1] (by kernel_rfl) (by kernel_rfl) (by kernel_rfl) (by kernel_rfl)) h

def F_strings_SplitN : Fun := fun avs H =>
  match avs, H with
  | [.dat .str x2314, .dat .str x2315, .dat (.int .i64) x2316], [] => ⟨_, strings_SplitN x2314 x2315 x2316, fun (t : Nat × (List ByteArray)) => (.win 0 0 t.1, [some (.seq .str t.2)]), [], none⟩
  | _, _ => Ans.no

theorem strings_SplitN_sound : Sound Tryd.prog 27 F_strings_SplitN := by
  refine fn_sound' (C := strings_SplitN_ctx) (c := bodyOf Tryd.f27) (cok_of tys_ok (allc strings_genSplit_sound alln) (allc Tryd.call48 alln) (by kernel_rfl)) Tryd.func27 (by kernel_rfl) LL strings_SplitN_an ?_
  intro avs H r H' h
  unfold F_strings_SplitN at h
  split at h
  · refine Awp.cast ?_ ?_ ?_ (strings_SplitN_e _ _ _ h) <;> kernel_rfl
  · simp [Ans.no, Ans.run] at h


/-! loop.example/headtrees/impl.kindFor -/

def impl_kindFor_an : Ann := (.seq (.leaf [0]) (.seq (.seq (.leaf [0, 5, 6]) (.block (.loop (.seq (.leaf [0, 5, 6, 7]) (.seq (.cond (.leaf [0, 5, 6]) (.leaf [])) (.seq (.block (.seq (.leaf [0, 3, 4, 5, 6]) (.seq (.leaf [0, 3, 5, 6, 12]) (.cond (.seq (.leaf [2]) (.leaf [2])) (.leaf [0, 5, 6]))))) (.leaf [0, 5, 6]))))))) (.seq (.leaf [2]) (.leaf [2]))))

noncomputable def impl_kindFor_ctx : Ctx := ⟨tlook tys, olook [], ioF, 0, false, []⟩

theorem impl_kindFor_n1_l (x2527 : ByteArray) : Link impl_kindFor_ctx LL (cq [0] (bodyOf Tryd.f28)) (aq [0] impl_kindFor_an) ⟨mkE 15 0 [(0, dS x2527)], []⟩ (impl_kindFor_n1) (fun (t : Unit) => (Exit.normal, ⟨mkE 15 0 [(0, dS x2527)], []⟩)) := .of fun K h => by
  simp only [impl_kindFor_n1, wpW] at h
  exact .of (by kernel_rfl) h

theorem impl_kindFor_n2_l (x2527 : ByteArray) : Link impl_kindFor_ctx LL (cq [0,0,1] (bodyOf Tryd.f28)) (aq [0,0,1] impl_kindFor_an) ⟨mkE 15 0 [(0, dS x2527)], []⟩ (impl_kindFor_n2) (fun (t : ByteArray × ByteArray × ByteArray × ByteArray × ByteArray × ByteArray) => (Exit.normal, ⟨mkE 15 0 [(0, dS x2527), (5, .agg [dS t.1, dS t.2.1, dS t.2.2.1, dS t.2.2.2.1, dS t.2.2.2.2.1, dS t.2.2.2.2.2]), (6, dI 0)], []⟩)) := .of fun K h => by
  simp only [impl_kindFor_n2, wpW] at h
  exact .of (by kernel_rfl) h

theorem impl_kindFor_n3_l (x2527 : ByteArray) (x2529 : ByteArray) (x2530 : ByteArray) (x2531 : ByteArray) (x2532 : ByteArray) (x2533 : ByteArray) (x2534 : ByteArray) (x2544 : Int) : Link impl_kindFor_ctx LL (cq [0,0,1,0,1] (bodyOf Tryd.f28)) (aq [0,0,1,0,1] impl_kindFor_an) ⟨mkE 15 0 [(0, dS x2527), (5, .agg [dS x2529, dS x2530, dS x2531, dS x2532, dS x2533, dS x2534]), (6, dI x2544)], []⟩ (impl_kindFor_n3 x2527 x2529 x2530 x2531 x2532 x2533 x2534 x2544) (Sum.elim (fun (t : Int) => (Exit.normal, ⟨mkE 15 0 [(0, dS x2527), (5, .agg [dS x2529, dS x2530, dS x2531, dS x2532, dS x2533, dS x2534]), (6, dI t)], []⟩)) (Sum.elim (fun (t : Int) => (Exit.ret, ⟨mkE 15 0 [(2, dI t)], []⟩)) (fun (t : Unit) => ((Exit.exit 0), ⟨mkE 15 0 [], []⟩)))) := .of fun K h => by
  simp only [impl_kindFor_n3, wpW] at h
  exact .of (by kernel_rfl) h

def impl_kindFor_n4_l (x2527 : ByteArray) (x2529 : ByteArray) (x2530 : ByteArray) (x2531 : ByteArray) (x2532 : ByteArray) (x2533 : ByteArray) (x2534 : ByteArray) := (link_loop (mk := fun (s : Int) => ⟨mkE 15 0 [(0, dS x2527), (5, .agg [dS x2529, dS x2530, dS x2531, dS x2532, dS x2533, dS x2534]), (6, dI s)], []⟩) (fin := (Sum.elim (fun (t : Int) => (Exit.ret, ⟨mkE 15 0 [(2, dI t)], []⟩)) (fun (t : Unit) => ((Exit.exit 0), ⟨mkE 15 0 [], []⟩)))) (by
  rintro (t | t) f K h
  · exact h
  · exact h) (fun s => link_map (impl_kindFor_n3_l x2527 x2529 x2530 x2531 x2532 x2533 x2534 s) (Sum.elim (fun (t : Int) => Sum.inl t) (Sum.elim (fun (t : Int) => Sum.inr (Sum.inl t)) (fun (t : Unit) => Sum.inr (Sum.inr t)))) (by
  rintro (t | t | t)
  · kernel_rfl
  · kernel_rfl
  · kernel_rfl)) 0)

def impl_kindFor_n5_l (x2527 : ByteArray) (x2529 : ByteArray) (x2530 : ByteArray) (x2531 : ByteArray) (x2532 : ByteArray) (x2533 : ByteArray) (x2534 : ByteArray) := (link_block (fin2 := (Sum.elim (fun (t : Unit) => (Exit.normal, ⟨mkE 15 0 [], []⟩)) (fun (t : Int) => (Exit.ret, ⟨mkE 15 0 [(2, dI t)], []⟩)))) (id := 0) (impl_kindFor_n4_l x2527 x2529 x2530 x2531 x2532 x2533 x2534) (Sum.elim (fun (t : Int) => (Sum.inr t)) (fun (t : Unit) => (Sum.inl ()))) (by
  rintro (t | t) K h
  · exact Eq.mp (by kernel_rfl) h
  · exact Eq.mp (by kernel_rfl) h))

def impl_kindFor_n6_l (x2527 : ByteArray) := (link_seq (impl_kindFor_n2_l x2527) (fun (t : ByteArray × ByteArray × ByteArray × ByteArray × ByteArray × ByteArray) => (impl_kindFor_n5_l x2527 t.1 t.2.1 t.2.2.1 t.2.2.2.1 t.2.2.2.2.1 t.2.2.2.2.2)))

theorem impl_kindFor_n7_l : Link impl_kindFor_ctx LL (cq [1,1] (bodyOf Tryd.f28)) (aq [1,1] impl_kindFor_an) ⟨mkE 15 0 [], []⟩ (impl_kindFor_n7) (fun (t : Int) => (Exit.ret, ⟨mkE 15 0 [(2, dI t)], []⟩)) := .of fun K h => by
  simp only [impl_kindFor_n7, wpW] at h
  exact .of (by kernel_rfl) h

def impl_kindFor_n8_l (x2527 : ByteArray) := (link_seq2 (impl_kindFor_n6_l x2527) (fun (t : Unit) => (impl_kindFor_n7_l)) (fun (t : Int) => t) (by
  rintro t
  · kernel_rfl) (by
  rintro t f K h
  · exact h))

def impl_kindFor_n9_l (x2527 : ByteArray) := (link_seq (impl_kindFor_n1_l x2527) (fun (t : Unit) => (impl_kindFor_n8_l x2527)))

theorem impl_kindFor_e (x2527 : ByteArray) {r : AV} {H' : Heap} (h : (Ans.mk _ (impl_kindFor x2527) (fun (t : Int) => (dI t, [])) [] none).run = some (r, H')) : Awp impl_kindFor_ctx LL (bodyOf Tryd.f28) impl_kindFor_an ⟨mkE 15 0 [(0, dS x2527)], []⟩ (Ret (tlook tys) Tryd.f28.results.toList r H') :=
  ret_of' (Link.cast (by kernel_rfl) (by kernel_rfl) (impl_kindFor_n9_l x2527)) (by unfold impl_kindFor; kernel_rfl) (by
  intro t
  exact ret_mk [dI t] (by kernel_rfl) (by kernel_rfl) (by kernel_rfl) (by kernel_rfl)) h

def F_impl_kindFor : Fun := fun avs H =>
  match avs, H with
  | [.dat .str x2527], [] => ⟨_, impl_kindFor x2527, fun (t : Int) => (dI t, []), [], none⟩
  | _, _ => Ans.no

theorem impl_kindFor_sound : Sound Tryd.prog 28 F_impl_kindFor := by
  refine fn_sound' (C := impl_kindFor_ctx) (c := bodyOf Tryd.f28) (cok_of tys_ok (alln) (alln) (by kernel_rfl)) Tryd.func28 (by kernel_rfl) LL impl_kindFor_an ?_
  intro avs H r H' h
  unfold F_impl_kindFor at h
  split at h
  · refine Awp.cast ?_ ?_ ?_ (impl_kindFor_e _ h) <;> kernel_rfl
  · simp [Ans.no, Ans.run] at h


/-! strconv.Atoi -/

def ren_atoiS : Go.Shelf.Ren := ⟨fun | 129 => 83 | 171 => 23 | 172 => 29 | 205 => 77 | 243 => 45 | 244 => 49 | 245 => 50 | 246 => 56 | 247 => 61 | 279 => 62 | 280 => 63 | 281 => 64 | 282 => 65 | 283 => 68 | 284 => 69 | 285 => 70 | 286 => 71 | 287 => 75 | 316 => 76 | 317 => 82 | 318 => 84 | 319 => 85 | 320 => 86 | 321 => 88 | 322 => 89 | 337 => 92 | 338 => 93 | n => n, fun | 0 => 0 | 2 => 2 | 3 => 3 | 4 => 4 | 5 => 5 | 9 => 9 | 20 => 20 | 21 => 21 | 37 => 22 | 46 => 102 | 51 => 109 | 53 => 91 | 75 => 52 | 76 => 53 | 80 => 62 | 85 => 83 | 127 => 74 | 143 => 114 | 145 => 116 | 167 => 82 | 168 => 85 | 171 => 90 | 173 => 94 | 175 => 100 | 210 => 105 | 212 => 108 | 213 => 110 | 232 => 124 | 233 => 125 | n => n, fun | 15 => 1 | 16 => 2 | 17 => 4 | 18 => 7 | 19 => 8 | n => n⟩
theorem lay_atoiS : LaysC.n172 Tryd.prog ren_atoiS := {
  mixed := by kernel_rfl
  f129 := Tryd.func83.trans (congrArg some (by kernel_rfl))
  f171 := Tryd.func23.trans (congrArg some (by kernel_rfl))
  f172 := Tryd.func29.trans (congrArg some (by kernel_rfl))
  f205 := Tryd.func77.trans (congrArg some (by kernel_rfl))
  f243 := Tryd.func45.trans (congrArg some (by kernel_rfl))
  f244 := Tryd.func49.trans (congrArg some (by kernel_rfl))
  f245 := Tryd.func50.trans (congrArg some (by kernel_rfl))
  f246 := Tryd.func56.trans (congrArg some (by kernel_rfl))
  f247 := Tryd.func61.trans (congrArg some (by kernel_rfl))
  f279 := Tryd.func62.trans (congrArg some (by kernel_rfl))
  f280 := Tryd.func63.trans (congrArg some (by kernel_rfl))
  f281 := Tryd.func64.trans (congrArg some (by kernel_rfl))
  f282 := Tryd.func65.trans (congrArg some (by kernel_rfl))
  f283 := Tryd.func68.trans (congrArg some (by kernel_rfl))
  f284 := Tryd.func69.trans (congrArg some (by kernel_rfl))
  f285 := Tryd.func70.trans (congrArg some (by kernel_rfl))
  f286 := Tryd.func71.trans (congrArg some (by kernel_rfl))
  f287 := Tryd.func75.trans (congrArg some (by kernel_rfl))
  f316 := Tryd.func76.trans (congrArg some (by kernel_rfl))
  f317 := Tryd.func82.trans (congrArg some (by kernel_rfl))
  f318 := Tryd.func84.trans (congrArg some (by kernel_rfl))
  f319 := Tryd.func85.trans (congrArg some (by kernel_rfl))
  f320 := Tryd.func86.trans (congrArg some (by kernel_rfl))
  f321 := Tryd.func88.trans (congrArg some (by kernel_rfl))
  f322 := Tryd.func89.trans (congrArg some (by kernel_rfl))
  f337 := Tryd.func92.trans (congrArg some (by kernel_rfl))
  f338 := Tryd.func93.trans (congrArg some (by kernel_rfl))
  t0 := Tryd.underlying0
  a0 := Tryd.isAgg0
  z0 := Tryd.sizeOf0
  v0 := Tryd.zeroValue0
  t2 := Tryd.underlying2
  a2 := Tryd.isAgg2
  z2 := Tryd.sizeOf2
  v2 := Tryd.zeroValue2
  t3 := Tryd.underlying3
  a3 := Tryd.isAgg3
  z3 := Tryd.sizeOf3
  v3 := Tryd.zeroValue3
  t4 := Tryd.underlying4
  a4 := Tryd.isAgg4
  z4 := Tryd.sizeOf4
  v4 := Tryd.zeroValue4
  t5 := Tryd.underlying5
  a5 := Tryd.isAgg5
  z5 := Tryd.sizeOf5
  v5 := Tryd.zeroValue5
  t9 := Tryd.underlying9
  a9 := Tryd.isAgg9
  z9 := Tryd.sizeOf9
  v9 := Tryd.zeroValue9
  t20 := Tryd.underlying20
  a20 := Tryd.isAgg20
  z20 := Tryd.sizeOf20
  v20 := Tryd.zeroValue20
  t21 := Tryd.underlying21
  a21 := Tryd.isAgg21
  z21 := Tryd.sizeOf21
  v21 := Tryd.zeroValue21
  t37 := Tryd.underlying22
  a37 := Tryd.isAgg22
  z37 := Tryd.sizeOf22
  v37 := Tryd.zeroValue22
  t46 := Tryd.underlying102
  a46 := Tryd.isAgg102
  z46 := Tryd.sizeOf102
  v46 := Tryd.zeroValue102
  t51 := Tryd.underlying109
  a51 := Tryd.isAgg109
  z51 := Tryd.sizeOf109
  v51 := Tryd.zeroValue109
  t53 := Tryd.underlying91
  a53 := Tryd.isAgg91
  z53 := Tryd.sizeOf91
  v53 := Tryd.zeroValue91
  t75 := Tryd.underlying52
  a75 := Tryd.isAgg52
  z75 := Tryd.sizeOf52
  v75 := Tryd.zeroValue52
  t76 := Tryd.underlying53
  a76 := Tryd.isAgg53
  z76 := Tryd.sizeOf53
  v76 := Tryd.zeroValue53
  t85 := Tryd.underlying83
  a85 := Tryd.isAgg83
  z85 := Tryd.sizeOf83
  v85 := Tryd.zeroValue83
  t127 := Tryd.underlying74
  a127 := Tryd.isAgg74
  z127 := Tryd.sizeOf74
  v127 := Tryd.zeroValue74
  t143 := Tryd.underlying114
  a143 := Tryd.isAgg114
  z143 := Tryd.sizeOf114
  v143 := Tryd.zeroValue114
  t145 := Tryd.underlying116
  a145 := Tryd.isAgg116
  z145 := Tryd.sizeOf116
  v145 := Tryd.zeroValue116
  t167 := Tryd.underlying82
  a167 := Tryd.isAgg82
  z167 := Tryd.sizeOf82
  v167 := Tryd.zeroValue82
  t168 := Tryd.underlying85
  a168 := Tryd.isAgg85
  z168 := Tryd.sizeOf85
  v168 := Tryd.zeroValue85
  t171 := Tryd.underlying90
  a171 := Tryd.isAgg90
  z171 := Tryd.sizeOf90
  v171 := Tryd.zeroValue90
  t173 := Tryd.underlying94
  a173 := Tryd.isAgg94
  z173 := Tryd.sizeOf94
  v173 := Tryd.zeroValue94
  t175 := Tryd.underlying100
  a175 := Tryd.isAgg100
  z175 := Tryd.sizeOf100
  v175 := Tryd.zeroValue100
  t210 := Tryd.underlying105
  a210 := Tryd.isAgg105
  z210 := Tryd.sizeOf105
  v210 := Tryd.zeroValue105
  t212 := Tryd.underlying108
  a212 := Tryd.isAgg108
  z212 := Tryd.sizeOf108
  v212 := Tryd.zeroValue108
  t213 := Tryd.underlying110
  a213 := Tryd.isAgg110
  z213 := Tryd.sizeOf110
  t232 := Tryd.underlying124
  a232 := Tryd.isAgg124
  z232 := Tryd.sizeOf124
  v232 := Tryd.zeroValue124
  t233 := Tryd.underlying125
  a233 := Tryd.isAgg125
  z233 := Tryd.sizeOf125
  v233 := Tryd.zeroValue125
  g15 := by kernel_rfl
  g16 := by kernel_rfl
  g17 := by kernel_rfl
  g18 := by kernel_rfl
  g19 := by kernel_rfl
  t80 := Tryd.underlying62
  a80 := Tryd.isAgg62
  z80 := Tryd.sizeOf62
  v80 := Tryd.zeroValue62
  i0 := by kernel_rfl
  i2 := by kernel_rfl
  i3 := by kernel_rfl
  i4 := by kernel_rfl
  i5 := by kernel_rfl
  i9 := by kernel_rfl
  i20 := by kernel_rfl
  i21 := by kernel_rfl
  i37 := by kernel_rfl
  i46 := by kernel_rfl
  i51 := by kernel_rfl
  i53 := by kernel_rfl
  i75 := by kernel_rfl
  i76 := by kernel_rfl
  i80 := by kernel_rfl
  i85 := by kernel_rfl
  i127 := by kernel_rfl
  i143 := by kernel_rfl
  i145 := by kernel_rfl
  i167 := by kernel_rfl
  i168 := by kernel_rfl
  i171 := by kernel_rfl
  i173 := by kernel_rfl
  i175 := by kernel_rfl
  i210 := by kernel_rfl
  i212 := by kernel_rfl
  i232 := by kernel_rfl
  i233 := by kernel_rfl
  m15 := by kernel_rfl
  m16 := by kernel_rfl
  m17 := by kernel_rfl
  m18 := by kernel_rfl
  m19 := by kernel_rfl
  c0 := by kernel_rfl
  c2 := by kernel_rfl
  c3 := by kernel_rfl
  c4 := by kernel_rfl
  c5 := by kernel_rfl
  c9 := by kernel_rfl
  c20 := by kernel_rfl
  c21 := by kernel_rfl
  c37 := by kernel_rfl
  c46 := by kernel_rfl
  c51 := by kernel_rfl
  c53 := by kernel_rfl
  c75 := by kernel_rfl
  c76 := by kernel_rfl
  c80 := by kernel_rfl
  c85 := by kernel_rfl
  c127 := by kernel_rfl
  c143 := by kernel_rfl
  c145 := by kernel_rfl
  c167 := by kernel_rfl
  c168 := by kernel_rfl
  c171 := by kernel_rfl
  c173 := by kernel_rfl
  c175 := by kernel_rfl
  c210 := by kernel_rfl
  c212 := by kernel_rfl
  c213 := by kernel_rfl
  c232 := by kernel_rfl
  c233 := by kernel_rfl }

def F_strconv_Atoi : Fun := F_atoiS
theorem strconv_Atoi_sound : Sound Tryd.prog 29 F_strconv_Atoi := atoiS_sound lay_atoiS rfl rfl


/-! loop.example/headtrees/impl.ReadDeed -/

def impl_ReadDeed_an : Ann := (.seq (.leaf [0, 2]) (.seq (.leaf [0, 2, 4]) (.seq (.leaf [0, 2, 4, 5]) (.seq (.seq (.leaf [0, 2, 4, 5, 15]) (.cond (.leaf [0, 2, 4, 5]) (.leaf [0, 2, 4, 5]))) (.seq (.seq (.leaf [0, 2, 4, 5, 26]) (.cond (.leaf [0, 2, 5]) (.leaf [0, 2, 5]))) (.seq (.seq (.leaf [2, 5, 42]) (.cond (.seq (.leaf [2, 3]) (.leaf [2, 3])) (.leaf [2, 5]))) (.seq (.leaf [2, 3]) (.leaf [2, 3]))))))))

noncomputable def impl_ReadDeed_ctx : Ctx := ⟨tlook tys, olook [(27, F_strings_SplitN), (28, F_impl_kindFor), (29, F_strconv_Atoi), (7, F_impl_DeedText)], ioF, 0, false, []⟩

theorem impl_ReadDeed_n1_l (x2313 : ByteArray) : Link impl_ReadDeed_ctx LL (bodyOf Tryd.f10) impl_ReadDeed_an ⟨mkE 45 0 [(0, dS x2313)], []⟩ (impl_ReadDeed_n1 x2313) (fun (t : Bool × Int × Int × Int) => (Exit.ret, ⟨mkE 45 0 [(2, .ptr 0 0), (3, dB t.1)], [some (.box [dI t.2.1, dI t.2.2.1, dI t.2.2.2])]⟩)) := .of fun K h => by
  simp only [impl_ReadDeed_n1, wpW] at h
  exact .of (by kernel_rfl) h

theorem impl_ReadDeed_e (x2313 : ByteArray) {r : AV} {H' : Heap} (h : (Ans.mk _ (impl_ReadDeed x2313) (fun (t : Bool × Int × Int × Int) => (.tup [.agg [dI t.2.1, dI t.2.2.1, dI t.2.2.2], dB t.1], [some (.box [dI t.2.1, dI t.2.2.1, dI t.2.2.2])])) [] none).run = some (r, H')) : Awp impl_ReadDeed_ctx LL (bodyOf Tryd.f10) impl_ReadDeed_an ⟨mkE 45 0 [(0, dS x2313)], []⟩ (Ret (tlook tys) Tryd.f10.results.toList r H') :=
  ret_of' (impl_ReadDeed_n1_l x2313) (by unfold impl_ReadDeed; kernel_rfl) (by
  intro t
  exact ret_mk [.agg [dI t.2.1, dI t.2.2.1, dI t.2.2.2], dB t.1] (by kernel_rfl) (by kernel_rfl) (by kernel_rfl) (by kernel_rfl)) h

def F_impl_ReadDeed : Fun := fun avs H =>
  match avs, H with
  | [.dat .str x2313], [] => ⟨_, impl_ReadDeed x2313, fun (t : Bool × Int × Int × Int) => (.tup [.agg [dI t.2.1, dI t.2.2.1, dI t.2.2.2], dB t.1], [some (.box [dI t.2.1, dI t.2.2.1, dI t.2.2.2])]), [], none⟩
  | _, _ => Ans.no

theorem impl_ReadDeed_sound : Sound Tryd.prog 10 F_impl_ReadDeed := by
  refine fn_sound' (C := impl_ReadDeed_ctx) (c := bodyOf Tryd.f10) (cok_of tys_ok (allc strings_SplitN_sound (allc impl_kindFor_sound (allc strconv_Atoi_sound (allc impl_DeedText_sound alln)))) (allc Tryd.call27 (allc Tryd.call28 (allc Tryd.call29 (allc Tryd.call7 alln)))) (by kernel_rfl)) Tryd.func10 (by kernel_rfl) LL impl_ReadDeed_an ?_
  intro avs H r H' h
  unfold F_impl_ReadDeed at h
  split at h
  · refine Awp.cast ?_ ?_ ?_ (impl_ReadDeed_e _ h) <;> kernel_rfl
  · simp [Ans.no, Ans.run] at h


/-! loop.example/headtrees/spec.l20Spoil -/

def spec_l20Spoil_an : Ann := (.seq (.leaf [0, 1]) (.seq (.seq (.leaf [0, 1, 8]) (.cond (.seq (.leaf [4]) (.leaf [4])) (.leaf [0, 1]))) (.seq (.leaf [0, 1, 5]) (.seq (.draw [3, 2, 12] [0, 1, 2, 3, 4, 9, 10, 11, 12, 5, 6, 7, 8, 13, 14] [] [4]) (.leaf [4])))))

noncomputable def spec_l20Spoil_ctx : Ctx := ⟨tlook tys, olook [(30, F_spec_l20Rd_pick)], ioF, 1, false, []⟩

theorem spec_l20Spoil_n1_l (x2819 : ByteArray) (x2820 : List Int) (x2821 : Int) : Link spec_l20Spoil_ctx LL (bodyOf Tryd.f31) spec_l20Spoil_an ⟨mkE 27 0 [(0, .ptr 0 0), (1, dS x2819)], [some (.box [dV x2820, dI x2821])]⟩ (spec_l20Spoil_n1 x2819 x2820 x2821) (fun (t : ByteArray × Int) => (Exit.ret, ⟨mkE 27 0 [(4, dS t.1)], [some (.box [dV x2820, dI t.2])]⟩)) := .of fun K h => by
  simp only [spec_l20Spoil_n1, wpW] at h
  exact .of (by kernel_rfl) h

theorem spec_l20Spoil_e (x2819 : ByteArray) (x2820 : List Int) (x2821 : Int) {r : AV} {H' : Heap} (h : (Ans.mk _ (spec_l20Spoil x2819 x2820 x2821) (fun (t : ByteArray × Int) => (dS t.1, [some (.box [dV x2820, dI t.2])])) [] none).run = some (r, H')) : Awp spec_l20Spoil_ctx LL (bodyOf Tryd.f31) spec_l20Spoil_an ⟨mkE 27 0 [(0, .ptr 0 0), (1, dS x2819)], [some (.box [dV x2820, dI x2821])]⟩ (Ret (tlook tys) Tryd.f31.results.toList r H') :=
  ret_of' (spec_l20Spoil_n1_l x2819 x2820 x2821) (by unfold spec_l20Spoil; kernel_rfl) (by
  intro t
  exact ret_mk [dS t.1] (by kernel_rfl) (by kernel_rfl) (by kernel_rfl) (by kernel_rfl)) h

def F_spec_l20Spoil : Fun := fun avs H =>
  match avs, H with
  | [.ptr 0 0, .dat .str x2819], [some (.box [.dat (.list (.int .u8)) x2820, .dat (.int .i64) x2821])] => ⟨_, spec_l20Spoil x2819 x2820 x2821, fun (t : ByteArray × Int) => (dS t.1, [some (.box [dV x2820, dI t.2])]), [], none⟩
  | _, _ => Ans.no

theorem spec_l20Spoil_sound : Sound Tryd.prog 31 F_spec_l20Spoil := by
  refine fn_sound' (C := spec_l20Spoil_ctx) (c := bodyOf Tryd.f31) (cok_of tys_ok (allc spec_l20Rd_pick_sound alln) (allc Tryd.call30 alln) (by kernel_rfl)) Tryd.func31 (by kernel_rfl) LL spec_l20Spoil_an ?_
  intro avs H r H' h
  unfold F_spec_l20Spoil at h
  split at h
  · refine Awp.cast ?_ ?_ ?_ (spec_l20Spoil_e _ _ _ h) <;> kernel_rfl
  · simp [Ans.no, Ans.run] at h


/-! loop.example/headtrees/spec.DrawReadDeed -/

def spec_DrawReadDeed_an : Ann := (.seq (.leaf [0]) (.seq (.leaf [3]) (.seq (.leafF [⟨3, 9, false, none, none⟩] [3, 4]) (.seq (.seq (.leaf [3, 4, 14]) (.cond (.seq (.leaf [2]) (.leaf [2])) (.leaf [4]))) (.seq (.leaf [2]) (.leaf [2]))))))

noncomputable def spec_DrawReadDeed_ctx : Ctx := ⟨tlook tys, olook [(18, F_spec_l20Open), (20, F_spec_l20Wild), (19, F_spec_l20Deed), (8, F_spec_DeedText), (30, F_spec_l20Rd_pick), (31, F_spec_l20Spoil)], ioF, 0, false, []⟩

theorem spec_DrawReadDeed_n1_l (x2788 : List Int) : Link spec_DrawReadDeed_ctx LL (bodyOf Tryd.f11) spec_DrawReadDeed_an ⟨mkE 19 0 [(0, dV x2788)], []⟩ (spec_DrawReadDeed_n1 x2788) (fun (t : ByteArray) => (Exit.ret, ⟨mkE 19 0 [(2, dS t)], []⟩)) := .of fun K h => by
  simp only [spec_DrawReadDeed_n1, wpW] at h
  exact .of (by kernel_rfl) h

theorem spec_DrawReadDeed_e (x2788 : List Int) {r : AV} {H' : Heap} (h : (Ans.mk _ (spec_DrawReadDeed x2788) (fun (t : ByteArray) => (dS t, [])) [] none).run = some (r, H')) : Awp spec_DrawReadDeed_ctx LL (bodyOf Tryd.f11) spec_DrawReadDeed_an ⟨mkE 19 0 [(0, dV x2788)], []⟩ (Ret (tlook tys) Tryd.f11.results.toList r H') :=
  ret_of' (spec_DrawReadDeed_n1_l x2788) (by unfold spec_DrawReadDeed; kernel_rfl) (by
  intro t
  exact ret_mk [dS t] (by kernel_rfl) (by kernel_rfl) (by kernel_rfl) (by kernel_rfl)) h

def F_spec_DrawReadDeed : Fun := fun avs H =>
  match avs, H with
  | [.dat (.list (.int .u8)) x2788], [] => ⟨_, spec_DrawReadDeed x2788, fun (t : ByteArray) => (dS t, []), [], none⟩
  | _, _ => Ans.no

theorem spec_DrawReadDeed_sound : Sound Tryd.prog 11 F_spec_DrawReadDeed := by
  refine fn_sound' (C := spec_DrawReadDeed_ctx) (c := bodyOf Tryd.f11) (cok_of tys_ok (allc spec_l20Open_sound (allc spec_l20Wild_sound (allc spec_l20Deed_sound (allc spec_DeedText_sound (allc spec_l20Rd_pick_sound (allc spec_l20Spoil_sound alln)))))) (allc Tryd.call18 (allc Tryd.call20 (allc Tryd.call19 (allc Tryd.call8 (allc Tryd.call30 (allc Tryd.call31 alln)))))) (by kernel_rfl)) Tryd.func11 (by kernel_rfl) LL spec_DrawReadDeed_an ?_
  intro avs H r H' h
  unfold F_spec_DrawReadDeed at h
  split at h
  · refine Awp.cast ?_ ?_ ?_ (spec_DrawReadDeed_e _ h) <;> kernel_rfl
  · simp [Ans.no, Ans.run] at h


/-! loop.example/headtrees/spec.l1Cut -/

def spec_l1Cut_an : Ann := (.seq (.leaf [0, 1]) (.seq (.leaf [0, 1, 5]) (.seq (.leaf [0, 1, 5, 6]) (.seq (.seq (.leaf [0, 1, 5, 6, 7]) (.block (.loop (.seq (.seq (.leaf [0, 1, 5, 6, 7, 12]) (.cond (.leaf [0, 1, 5, 6, 7]) (.leaf [0, 5, 6]))) (.seq (.block (.seq (.leaf [0, 1, 5, 6, 7, 19]) (.cond (.seq (.leaf [0, 1, 5, 7]) (.leaf [0, 1, 5, 6, 7])) (.leaf [0, 1, 5, 6, 7])))) (.leaf [0, 1, 5, 6, 7])))))) (.seq (.leaf [4]) (.leaf [4]))))))

noncomputable def spec_l1Cut_ctx : Ctx := ⟨tlook tys, olook [], ioF, 0, false, []⟩

theorem spec_l1Cut_n1_l (x2982 : ByteArray) (x2983 : Int) : Link spec_l1Cut_ctx LL (Code.seq (cq [0] (bodyOf Tryd.f32)) (Code.seq (cq [0,1] (bodyOf Tryd.f32)) (cq [0,1,1] (bodyOf Tryd.f32)))) (Ann.seq (aq [0] spec_l1Cut_an) (Ann.seq (aq [0,1] spec_l1Cut_an) (aq [0,1,1] spec_l1Cut_an))) ⟨mkE 35 0 [(0, dS x2982), (1, dU x2983)], []⟩ (spec_l1Cut_n1) (fun (t : Unit) => (Exit.normal, ⟨mkE 35 0 [(0, dS x2982), (1, dU x2983), (5, .slc 0), (6, dI 0)], [some (.seq .str ([] : List ByteArray))]⟩)) := .of fun K h => by
  simp only [spec_l1Cut_n1, wpW] at h
  exact .of (by kernel_rfl) h

theorem spec_l1Cut_n2_l (x2982 : ByteArray) (x2983 : Int) : Link spec_l1Cut_ctx LL (cq [0,0,1,1,1] (bodyOf Tryd.f32)) (aq [0,0,1,1,1] spec_l1Cut_an) ⟨mkE 35 0 [(0, dS x2982), (1, dU x2983), (5, .slc 0), (6, dI 0)], [some (.seq .str ([] : List ByteArray))]⟩ (spec_l1Cut_n2) (fun (t : Unit) => (Exit.normal, ⟨mkE 35 0 [(0, dS x2982), (1, dU x2983), (5, .slc 0), (6, dI 0), (7, dI 0)], [some (.seq .str ([] : List ByteArray))]⟩)) := .of fun K h => by
  simp only [spec_l1Cut_n2, wpW] at h
  exact .of (by kernel_rfl) h

theorem spec_l1Cut_n3_l (x2982 : ByteArray) (x2983 : Int) (x3017 : Int) (x3018 : Int) (x3019 : List ByteArray) : Link spec_l1Cut_ctx LL (cq [0,0,1,0,1,1,1] (bodyOf Tryd.f32)) (aq [0,0,1,0,1,1,1] spec_l1Cut_an) ⟨mkE 35 0 [(0, dS x2982), (1, dU x2983), (5, .slc 0), (6, dI x3017), (7, dI x3018)], [some (.seq .str x3019)]⟩ (spec_l1Cut_n3 x2982 x2983 x3017 x3018 x3019) (Sum.elim (fun (t : Int × Int × (List ByteArray)) => (Exit.normal, ⟨mkE 35 0 [(0, dS x2982), (1, dU x2983), (5, .slc 0), (6, dI t.1), (7, dI t.2.1)], [some (.seq .str t.2.2)]⟩)) (fun (t : Int × (List ByteArray)) => ((Exit.exit 0), ⟨mkE 35 0 [(0, dS x2982), (5, .slc 0), (6, dI t.1)], [some (.seq .str t.2)]⟩))) := .of fun K h => by
  simp only [spec_l1Cut_n3, wpW] at h
  exact .of (by kernel_rfl) h

def spec_l1Cut_n4_l (x2982 : ByteArray) (x2983 : Int) := (link_loop (mk := fun (s : Int × Int × (List ByteArray)) => ⟨mkE 35 0 [(0, dS x2982), (1, dU x2983), (5, .slc 0), (6, dI s.1), (7, dI s.2.1)], [some (.seq .str s.2.2)]⟩) (fin := (fun (t : Int × (List ByteArray)) => ((Exit.exit 0), ⟨mkE 35 0 [(0, dS x2982), (5, .slc 0), (6, dI t.1)], [some (.seq .str t.2)]⟩))) (by
  rintro t f K h
  · exact h) (fun s => link_map (spec_l1Cut_n3_l x2982 x2983 s.1 s.2.1 s.2.2) (Sum.elim (fun (t : Int × Int × (List ByteArray)) => Sum.inl (t.1, t.2.1, t.2.2)) (fun (t : Int × (List ByteArray)) => Sum.inr t)) (by
  rintro (t | t)
  · kernel_rfl
  · kernel_rfl)) (0, 0, ([] : List ByteArray)))

def spec_l1Cut_n5_l (x2982 : ByteArray) (x2983 : Int) := (link_block (fin2 := (fun (t : Int × (List ByteArray)) => (Exit.normal, ⟨mkE 35 0 [(0, dS x2982), (5, .slc 0), (6, dI t.1)], [some (.seq .str t.2)]⟩))) (id := 0) (spec_l1Cut_n4_l x2982 x2983) (fun (t : Int × (List ByteArray)) => (t.1, t.2)) (by
  rintro t K h
  · exact Eq.mp (by kernel_rfl) h))

def spec_l1Cut_n6_l (x2982 : ByteArray) (x2983 : Int) := (link_seq (spec_l1Cut_n2_l x2982 x2983) (fun (t : Unit) => (spec_l1Cut_n5_l x2982 x2983)))

theorem spec_l1Cut_n7_l (x2982 : ByteArray) (x3017 : Int) (x3019 : List ByteArray) : Link spec_l1Cut_ctx LL (cq [1,1,1,1] (bodyOf Tryd.f32)) (aq [1,1,1,1] spec_l1Cut_an) ⟨mkE 35 0 [(0, dS x2982), (5, .slc 0), (6, dI x3017)], [some (.seq .str x3019)]⟩ (spec_l1Cut_n7 x2982 x3017 x3019) (fun (t : (List ByteArray)) => (Exit.ret, ⟨mkE 35 0 [(4, .slc 0)], [some (.seq .str t)]⟩)) := .of fun K h => by
  simp only [spec_l1Cut_n7, wpW] at h
  exact .of (by kernel_rfl) h

def spec_l1Cut_n8_l (x2982 : ByteArray) (x2983 : Int) := (link_seq (spec_l1Cut_n6_l x2982 x2983) (fun (t : Int × (List ByteArray)) => (spec_l1Cut_n7_l x2982 t.1 t.2)))

def spec_l1Cut_n9_l (x2982 : ByteArray) (x2983 : Int) := (link_group (c := (cq [0,1,1] (bodyOf Tryd.f32))) (a := (aq [0,1,1] spec_l1Cut_an)) [(cq [0] (bodyOf Tryd.f32)), (cq [0,1] (bodyOf Tryd.f32))] [(aq [0] spec_l1Cut_an), (aq [0,1] spec_l1Cut_an)] rfl (link_seq (spec_l1Cut_n1_l x2982 x2983) (fun (t : Unit) => (spec_l1Cut_n8_l x2982 x2983))))

theorem spec_l1Cut_e (x2982 : ByteArray) (x2983 : Int) {r : AV} {H' : Heap} (h : (Ans.mk _ (spec_l1Cut x2982 x2983) (fun (t : (List ByteArray)) => (.slc 0, [some (.seq .str t)])) [] none).run = some (r, H')) : Awp spec_l1Cut_ctx LL (bodyOf Tryd.f32) spec_l1Cut_an ⟨mkE 35 0 [(0, dS x2982), (1, dU x2983)], []⟩ (Ret (tlook tys) Tryd.f32.results.toList r H') :=
  ret_of' (Link.cast (by kernel_rfl) (by kernel_rfl) (spec_l1Cut_n9_l x2982 x2983)) (by unfold spec_l1Cut; kernel_rfl) (by
  intro t
  exact ret_mk [.slc 0] (by kernel_rfl) (by kernel_rfl) (by kernel_rfl) (by kernel_rfl)) h

def F_spec_l1Cut : Fun := fun avs H =>
  match avs, H with
  | [.dat .str x2982, .dat (.int .u8) x2983], [] => ⟨_, spec_l1Cut x2982 x2983, fun (t : (List ByteArray)) => (.slc 0, [some (.seq .str t)]), [], none⟩
  | _, _ => Ans.no

theorem spec_l1Cut_sound : Sound Tryd.prog 32 F_spec_l1Cut := by
  refine fn_sound' (C := spec_l1Cut_ctx) (c := bodyOf Tryd.f32) (cok_of tys_ok (alln) (alln) (by kernel_rfl)) Tryd.func32 (by kernel_rfl) LL spec_l1Cut_an ?_
  intro avs H r H' h
  unfold F_spec_l1Cut at h
  split at h
  · refine Awp.cast ?_ ?_ ?_ (spec_l1Cut_e _ _ h) <;> kernel_rfl
  · simp [Ans.no, Ans.run] at h


/-! loop.example/headtrees/spec.l1Digits -/

def spec_l1Digits_an : Ann := (.seq (.leaf [0]) (.seq (.seq (.leaf [0, 18]) (.cond (.seq (.leaf [2]) (.leaf [2])) (.leaf [0]))) (.seq (.leaf [0, 3]) (.seq (.seq (.leaf [0, 3, 4]) (.block (.loop (.seq (.seq (.leaf [0, 3, 4, 22]) (.cond (.leaf [0, 3, 4]) (.leaf [3]))) (.seq (.block (.seq (.seq (.leaf [0, 3, 4, 34]) (.cond (.seq (.leaf [2]) (.leaf [2])) (.leaf [0, 3, 4]))) (.leaf [0, 3, 4]))) (.leaf [0, 3, 4])))))) (.seq (.leaf [2]) (.leaf [2]))))))

noncomputable def spec_l1Digits_ctx : Ctx := ⟨tlook tys, olook [(24, F_spec_l1In)], ioF, 0, false, []⟩

theorem spec_l1Digits_n1_l (x3103 : ByteArray) : Link spec_l1Digits_ctx LL (Code.seq (cq [0] (bodyOf Tryd.f33)) (Code.seq (cq [0,1] (bodyOf Tryd.f33)) (cq [0,1,1] (bodyOf Tryd.f33)))) (Ann.seq (aq [0] spec_l1Digits_an) (Ann.seq (aq [0,1] spec_l1Digits_an) (aq [0,1,1] spec_l1Digits_an))) ⟨mkE 44 0 [(0, dS x3103)], []⟩ (spec_l1Digits_n1 x3103) (Sum.elim (fun (t : Unit) => (Exit.normal, ⟨mkE 44 0 [(0, dS x3103), (3, dI 0)], []⟩)) (fun (t : Int) => (Exit.ret, ⟨mkE 44 0 [(2, dI t)], []⟩))) := .of fun K h => by
  simp only [spec_l1Digits_n1, wpW] at h
  exact .of (by kernel_rfl) h

theorem spec_l1Digits_n2_l (x3103 : ByteArray) : Link spec_l1Digits_ctx LL (cq [0,0,1,1,1] (bodyOf Tryd.f33)) (aq [0,0,1,1,1] spec_l1Digits_an) ⟨mkE 44 0 [(0, dS x3103), (3, dI 0)], []⟩ (spec_l1Digits_n2) (fun (t : Unit) => (Exit.normal, ⟨mkE 44 0 [(0, dS x3103), (3, dI 0), (4, dI 0)], []⟩)) := .of fun K h => by
  simp only [spec_l1Digits_n2, wpW] at h
  exact .of (by kernel_rfl) h

theorem spec_l1Digits_n3_l (x3103 : ByteArray) (x3144 : Int) (x3145 : Int) : Link spec_l1Digits_ctx LL (cq [0,0,1,0,1,1,1] (bodyOf Tryd.f33)) (aq [0,0,1,0,1,1,1] spec_l1Digits_an) ⟨mkE 44 0 [(0, dS x3103), (3, dI x3144), (4, dI x3145)], []⟩ (spec_l1Digits_n3 x3103 x3144 x3145) (Sum.elim (fun (t : Int × Int) => (Exit.normal, ⟨mkE 44 0 [(0, dS x3103), (3, dI t.1), (4, dI t.2)], []⟩)) (Sum.elim (fun (t : Int) => (Exit.ret, ⟨mkE 44 0 [(2, dI t)], []⟩)) (fun (t : Int) => ((Exit.exit 0), ⟨mkE 44 0 [(3, dI t)], []⟩)))) := .of fun K h => by
  simp only [spec_l1Digits_n3, wpW] at h
  exact .of (by kernel_rfl) h

def spec_l1Digits_n4_l (x3103 : ByteArray) := (link_loop (mk := fun (s : Int × Int) => ⟨mkE 44 0 [(0, dS x3103), (3, dI s.1), (4, dI s.2)], []⟩) (fin := (Sum.elim (fun (t : Int) => (Exit.ret, ⟨mkE 44 0 [(2, dI t)], []⟩)) (fun (t : Int) => ((Exit.exit 0), ⟨mkE 44 0 [(3, dI t)], []⟩)))) (by
  rintro (t | t) f K h
  · exact h
  · exact h) (fun s => link_map (spec_l1Digits_n3_l x3103 s.1 s.2) (Sum.elim (fun (t : Int × Int) => Sum.inl (t.1, t.2)) (Sum.elim (fun (t : Int) => Sum.inr (Sum.inl t)) (fun (t : Int) => Sum.inr (Sum.inr t)))) (by
  rintro (t | t | t)
  · kernel_rfl
  · kernel_rfl
  · kernel_rfl)) (0, 0))

def spec_l1Digits_n5_l (x3103 : ByteArray) := (link_block (fin2 := (Sum.elim (fun (t : Int) => (Exit.normal, ⟨mkE 44 0 [(3, dI t)], []⟩)) (fun (t : Int) => (Exit.ret, ⟨mkE 44 0 [(2, dI t)], []⟩)))) (id := 0) (spec_l1Digits_n4_l x3103) (Sum.elim (fun (t : Int) => (Sum.inr t)) (fun (t : Int) => (Sum.inl t))) (by
  rintro (t | t) K h
  · exact Eq.mp (by kernel_rfl) h
  · exact Eq.mp (by kernel_rfl) h))

def spec_l1Digits_n6_l (x3103 : ByteArray) := (link_seq (spec_l1Digits_n2_l x3103) (fun (t : Unit) => (spec_l1Digits_n5_l x3103)))

theorem spec_l1Digits_n7_l (x3144 : Int) : Link spec_l1Digits_ctx LL (cq [1,1,1,1] (bodyOf Tryd.f33)) (aq [1,1,1,1] spec_l1Digits_an) ⟨mkE 44 0 [(3, dI x3144)], []⟩ (spec_l1Digits_n7 x3144) (fun (t : Int) => (Exit.ret, ⟨mkE 44 0 [(2, dI t)], []⟩)) := .of fun K h => by
  simp only [spec_l1Digits_n7, wpW] at h
  exact .of (by kernel_rfl) h

def spec_l1Digits_n8_l (x3103 : ByteArray) := (link_seq2 (spec_l1Digits_n6_l x3103) (fun (t : Int) => (spec_l1Digits_n7_l t)) (fun (t : Int) => t) (by
  rintro t
  · kernel_rfl) (by
  rintro t f K h
  · exact h))

def spec_l1Digits_n9_l (x3103 : ByteArray) := (link_group (c := (cq [0,1,1] (bodyOf Tryd.f33))) (a := (aq [0,1,1] spec_l1Digits_an)) [(cq [0] (bodyOf Tryd.f33)), (cq [0,1] (bodyOf Tryd.f33))] [(aq [0] spec_l1Digits_an), (aq [0,1] spec_l1Digits_an)] rfl (link_seq2 (spec_l1Digits_n1_l x3103) (fun (t : Unit) => (spec_l1Digits_n8_l x3103)) (fun (t : Int) => t) (by
  rintro t
  · kernel_rfl) (by
  rintro t f K h
  · exact h)))

theorem spec_l1Digits_e (x3103 : ByteArray) {r : AV} {H' : Heap} (h : (Ans.mk _ (spec_l1Digits x3103) (fun (t : Int) => (dI t, [])) [] none).run = some (r, H')) : Awp spec_l1Digits_ctx LL (bodyOf Tryd.f33) spec_l1Digits_an ⟨mkE 44 0 [(0, dS x3103)], []⟩ (Ret (tlook tys) Tryd.f33.results.toList r H') :=
  ret_of' (Link.cast (by kernel_rfl) (by kernel_rfl) (spec_l1Digits_n9_l x3103)) (by unfold spec_l1Digits; kernel_rfl) (by
  intro t
  exact ret_mk [dI t] (by kernel_rfl) (by kernel_rfl) (by kernel_rfl) (by kernel_rfl)) h

def F_spec_l1Digits : Fun := fun avs H =>
  match avs, H with
  | [.dat .str x3103], [] => ⟨_, spec_l1Digits x3103, fun (t : Int) => (dI t, []), [], none⟩
  | _, _ => Ans.no

theorem spec_l1Digits_sound : Sound Tryd.prog 33 F_spec_l1Digits := by
  refine fn_sound' (C := spec_l1Digits_ctx) (c := bodyOf Tryd.f33) (cok_of tys_ok (allc spec_l1In_sound alln) (allc Tryd.call24 alln) (by kernel_rfl)) Tryd.func33 (by kernel_rfl) LL spec_l1Digits_an ?_
  intro avs H r H' h
  unfold F_spec_l1Digits at h
  split at h
  · refine Awp.cast ?_ ?_ ?_ (spec_l1Digits_e _ h) <;> kernel_rfl
  · simp [Ans.no, Ans.run] at h


/-! loop.example/headtrees/spec.ReadDeed -/

def spec_ReadDeed_an : Ann := (.seq (.leaf [0, 2]) (.seq (.leaf [0, 2, 4]) (.seq (.leaf [0, 2, 4, 5]) (.seq (.seq (.leaf [0, 2, 4, 5, 16]) (.cond (.draw [4, 8] [0, 1, 2, 3, 5, 6, 7, 4, 8, 9, 10, 11, 12] [] [0, 2, 4, 5]) (.leaf [0, 2, 4, 5]))) (.seq (.seq (.leaf [0, 2, 4, 5, 31]) (.cond (.leaf [0, 2, 5]) (.leaf [0, 2, 5]))) (.seq (.seq (.leaf [0, 2, 5, 6]) (.block (.loop (.seq (.seq (.leaf [0, 2, 5, 6, 43]) (.cond (.leaf [0, 2, 5, 6]) (.leaf [2]))) (.seq (.block (.seq (.leaf [0, 2, 5, 6, 56]) (.cond (.seq (.leaf [2, 3]) (.leaf [2, 3])) (.leaf [0, 2, 5, 6])))) (.leaf [0, 2, 5, 6])))))) (.seq (.leaf [2, 3]) (.leaf [2, 3]))))))))

noncomputable def spec_ReadDeed_ctx : Ctx := ⟨tlook tys, olook [(32, F_spec_l1Cut), (33, F_spec_l1Digits), (8, F_spec_DeedText)], ioF, 0, false, []⟩

theorem spec_ReadDeed_n1_l (x2980 : ByteArray) : Link spec_ReadDeed_ctx LL (Code.seq (cq [0] (bodyOf Tryd.f12)) (Code.seq (cq [0,1] (bodyOf Tryd.f12)) (cq [0,1,1] (bodyOf Tryd.f12)))) (Ann.seq (aq [0] spec_ReadDeed_an) (Ann.seq (aq [0,1] spec_ReadDeed_an) (aq [0,1,1] spec_ReadDeed_an))) ⟨mkE 62 0 [(0, dS x2980)], []⟩ (spec_ReadDeed_n1 x2980) (fun (t : (List ByteArray) × (List (Int × Int × Int × Unit))) => (Exit.normal, ⟨mkE 62 0 [(0, dS x2980), (2, .ptr 0 0), (4, .slc 1), (5, .slc 2)], [some (.box [dI 0, dI 0, dI 0]), some (.seq .str t.1), some (.seq (.pair (.int .i64) (.pair (.int .i64) (.pair (.int .i64) .unit))) t.2)]⟩)) := .of fun K h => by
  simp only [spec_ReadDeed_n1, wpW] at h
  exact .of (by kernel_rfl) h

theorem spec_ReadDeed_n2_l (x2980 : ByteArray) (x3068 : List ByteArray) (x3082 : List (Int × Int × Int × Unit)) : Link spec_ReadDeed_ctx LL (cq [0,0,1,1,1] (bodyOf Tryd.f12)) (aq [0,0,1,1,1] spec_ReadDeed_an) ⟨mkE 62 0 [(0, dS x2980), (2, .ptr 0 0), (4, .slc 1), (5, .slc 2)], [some (.box [dI 0, dI 0, dI 0]), some (.seq .str x3068), some (.seq (.pair (.int .i64) (.pair (.int .i64) (.pair (.int .i64) .unit))) x3082)]⟩ (spec_ReadDeed_n2 x3068) (fun (t : Bool) => (Exit.normal, ⟨mkE 62 0 [(0, dS x2980), (2, .ptr 0 0), (4, .slc 1), (5, .slc 2), (16, dB t)], [some (.box [dI 0, dI 0, dI 0]), some (.seq .str x3068), some (.seq (.pair (.int .i64) (.pair (.int .i64) (.pair (.int .i64) .unit))) x3082)]⟩)) := .of fun K h => by
  simp only [spec_ReadDeed_n2, wpW] at h
  exact .of (by kernel_rfl) h

theorem spec_ReadDeed_n3_l (x2980 : ByteArray) (x3197 : Bool) (x3068 : List ByteArray) (x3082 : List (Int × Int × Int × Unit)) : Link spec_ReadDeed_ctx LL (cq [0,1,0,1,1,1] (bodyOf Tryd.f12)) (aq [0,1,0,1,1,1] spec_ReadDeed_an) ⟨mkE 62 0 [(0, dS x2980), (2, .ptr 0 0), (4, .slc 1), (5, .slc 2), (16, dB x3197)], [some (.box [dI 0, dI 0, dI 0]), some (.seq .str x3068), some (.seq (.pair (.int .i64) (.pair (.int .i64) (.pair (.int .i64) .unit))) x3082)]⟩ (spec_ReadDeed_n3 x3068 x3082) (fun (t : (List (Int × Int × Int × Unit))) => (Exit.normal, ⟨mkE 62 0 [(0, dS x2980), (2, .ptr 0 0), (4, .slc 1), (5, .slc 2)], [some (.box [dI 0, dI 0, dI 0]), some (.seq .str x3068), some (.seq (.pair (.int .i64) (.pair (.int .i64) (.pair (.int .i64) .unit))) t)]⟩)) := .of fun K h => by
  simp only [spec_ReadDeed_n3, wpW] at h
  exact .of (by kernel_rfl) h

theorem spec_ReadDeed_n4_l (x2980 : ByteArray) (x3197 : Bool) (x3068 : List ByteArray) (x3082 : List (Int × Int × Int × Unit)) : Link spec_ReadDeed_ctx LL (cq [1,1,0,1,1,1] (bodyOf Tryd.f12)) (aq [1,1,0,1,1,1] spec_ReadDeed_an) ⟨mkE 62 0 [(0, dS x2980), (2, .ptr 0 0), (4, .slc 1), (5, .slc 2), (16, dB x3197)], [some (.box [dI 0, dI 0, dI 0]), some (.seq .str x3068), some (.seq (.pair (.int .i64) (.pair (.int .i64) (.pair (.int .i64) .unit))) x3082)]⟩ (spec_ReadDeed_n4) (fun (t : Unit) => (Exit.normal, ⟨mkE 62 0 [(0, dS x2980), (2, .ptr 0 0), (4, .slc 1), (5, .slc 2)], [some (.box [dI 0, dI 0, dI 0]), some (.seq .str x3068), some (.seq (.pair (.int .i64) (.pair (.int .i64) (.pair (.int .i64) .unit))) x3082)]⟩)) := .of fun K h => by
  simp only [spec_ReadDeed_n4, wpW] at h
  exact .of (by kernel_rfl) h

def spec_ReadDeed_n5_l (x2980 : ByteArray) (x3197 : Bool) (x3068 : List ByteArray) (x3082 : List (Int × Int × Int × Unit)) := (link_cond (c := .tmp 16) (g := x3197) (by kernel_rfl) ((link_map (fin2 := (fun (t : (List (Int × Int × Int × Unit))) => (Exit.normal, ⟨mkE 62 0 [(0, dS x2980), (2, .ptr 0 0), (4, .slc 1), (5, .slc 2)], [some (.box [dI 0, dI 0, dI 0]), some (.seq .str x3068), some (.seq (.pair (.int .i64) (.pair (.int .i64) (.pair (.int .i64) .unit))) t)]⟩))) (spec_ReadDeed_n3_l x2980 x3197 x3068 x3082) (fun (t : (List (Int × Int × Int × Unit))) => t) (by
  rintro t
  · kernel_rfl))) ((link_map (fin2 := (fun (t : (List (Int × Int × Int × Unit))) => (Exit.normal, ⟨mkE 62 0 [(0, dS x2980), (2, .ptr 0 0), (4, .slc 1), (5, .slc 2)], [some (.box [dI 0, dI 0, dI 0]), some (.seq .str x3068), some (.seq (.pair (.int .i64) (.pair (.int .i64) (.pair (.int .i64) .unit))) t)]⟩))) (spec_ReadDeed_n4_l x2980 x3197 x3068 x3082) (fun (t : Unit) => x3082) (by
  rintro t
  · kernel_rfl))))

def spec_ReadDeed_n6_l (x2980 : ByteArray) (x3068 : List ByteArray) (x3082 : List (Int × Int × Int × Unit)) := (link_seq (spec_ReadDeed_n2_l x2980 x3068 x3082) (fun (t : Bool) => (spec_ReadDeed_n5_l x2980 t x3068 x3082)))

theorem spec_ReadDeed_n7_l (x2980 : ByteArray) (x3068 : List ByteArray) (x3239 : List (Int × Int × Int × Unit)) : Link spec_ReadDeed_ctx LL (cq [0,1,1,1,1] (bodyOf Tryd.f12)) (aq [0,1,1,1,1] spec_ReadDeed_an) ⟨mkE 62 0 [(0, dS x2980), (2, .ptr 0 0), (4, .slc 1), (5, .slc 2)], [some (.box [dI 0, dI 0, dI 0]), some (.seq .str x3068), some (.seq (.pair (.int .i64) (.pair (.int .i64) (.pair (.int .i64) .unit))) x3239)]⟩ (spec_ReadDeed_n7 x3068 x3239) (fun (t : (List (Int × Int × Int × Unit))) => (Exit.normal, ⟨mkE 62 0 [(0, dS x2980), (2, .ptr 0 0), (5, .slc 1)], [some (.box [dI 0, dI 0, dI 0]), some (.seq (.pair (.int .i64) (.pair (.int .i64) (.pair (.int .i64) .unit))) t)]⟩)) := .of fun K h => by
  simp only [spec_ReadDeed_n7, wpW] at h
  exact .of (by kernel_rfl) h

theorem spec_ReadDeed_n8_l (x2980 : ByteArray) (x3252 : List (Int × Int × Int × Unit)) : Link spec_ReadDeed_ctx LL (cq [0,0,1,1,1,1,1] (bodyOf Tryd.f12)) (aq [0,0,1,1,1,1,1] spec_ReadDeed_an) ⟨mkE 62 0 [(0, dS x2980), (2, .ptr 0 0), (5, .slc 1)], [some (.box [dI 0, dI 0, dI 0]), some (.seq (.pair (.int .i64) (.pair (.int .i64) (.pair (.int .i64) .unit))) x3252)]⟩ (spec_ReadDeed_n8) (fun (t : Unit) => (Exit.normal, ⟨mkE 62 0 [(0, dS x2980), (2, .ptr 0 0), (5, .slc 1), (6, dI 0)], [some (.box [dI 0, dI 0, dI 0]), some (.seq (.pair (.int .i64) (.pair (.int .i64) (.pair (.int .i64) .unit))) x3252)]⟩)) := .of fun K h => by
  simp only [spec_ReadDeed_n8, wpW] at h
  exact .of (by kernel_rfl) h

theorem spec_ReadDeed_n9_l (x2980 : ByteArray) (x3300 : Int) (x3252 : List (Int × Int × Int × Unit)) : Link spec_ReadDeed_ctx LL (cq [0,0,1,0,1,1,1,1,1] (bodyOf Tryd.f12)) (aq [0,0,1,0,1,1,1,1,1] spec_ReadDeed_an) ⟨mkE 62 0 [(0, dS x2980), (2, .ptr 0 0), (5, .slc 1), (6, dI x3300)], [some (.box [dI 0, dI 0, dI 0]), some (.seq (.pair (.int .i64) (.pair (.int .i64) (.pair (.int .i64) .unit))) x3252)]⟩ (spec_ReadDeed_n9 x2980 x3300 x3252) (Sum.elim (fun (t : Int) => (Exit.normal, ⟨mkE 62 0 [(0, dS x2980), (2, .ptr 0 0), (5, .slc 1), (6, dI t)], [some (.box [dI 0, dI 0, dI 0]), some (.seq (.pair (.int .i64) (.pair (.int .i64) (.pair (.int .i64) .unit))) x3252)]⟩)) (Sum.elim (fun (t : Bool × Int × Int × Int) => (Exit.ret, ⟨mkE 62 0 [(2, .ptr 0 0), (3, dB t.1)], [some (.box [dI t.2.1, dI t.2.2.1, dI t.2.2.2])]⟩)) (fun (t : Unit) => ((Exit.exit 0), ⟨mkE 62 0 [(2, .ptr 0 0)], [some (.box [dI 0, dI 0, dI 0])]⟩)))) := .of fun K h => by
  simp only [spec_ReadDeed_n9, wpW] at h
  exact .of (by kernel_rfl) h

def spec_ReadDeed_n10_l (x2980 : ByteArray) (x3252 : List (Int × Int × Int × Unit)) := (link_loop (mk := fun (s : Int) => ⟨mkE 62 0 [(0, dS x2980), (2, .ptr 0 0), (5, .slc 1), (6, dI s)], [some (.box [dI 0, dI 0, dI 0]), some (.seq (.pair (.int .i64) (.pair (.int .i64) (.pair (.int .i64) .unit))) x3252)]⟩) (fin := (Sum.elim (fun (t : Bool × Int × Int × Int) => (Exit.ret, ⟨mkE 62 0 [(2, .ptr 0 0), (3, dB t.1)], [some (.box [dI t.2.1, dI t.2.2.1, dI t.2.2.2])]⟩)) (fun (t : Unit) => ((Exit.exit 0), ⟨mkE 62 0 [(2, .ptr 0 0)], [some (.box [dI 0, dI 0, dI 0])]⟩)))) (by
  rintro (t | t) f K h
  · exact h
  · exact h) (fun s => link_map (spec_ReadDeed_n9_l x2980 s x3252) (Sum.elim (fun (t : Int) => Sum.inl t) (Sum.elim (fun (t : Bool × Int × Int × Int) => Sum.inr (Sum.inl t)) (fun (t : Unit) => Sum.inr (Sum.inr t)))) (by
  rintro (t | t | t)
  · kernel_rfl
  · kernel_rfl
  · kernel_rfl)) 0)

def spec_ReadDeed_n11_l (x2980 : ByteArray) (x3252 : List (Int × Int × Int × Unit)) := (link_block (fin2 := (Sum.elim (fun (t : Unit) => (Exit.normal, ⟨mkE 62 0 [(2, .ptr 0 0)], [some (.box [dI 0, dI 0, dI 0])]⟩)) (fun (t : Bool × Int × Int × Int) => (Exit.ret, ⟨mkE 62 0 [(2, .ptr 0 0), (3, dB t.1)], [some (.box [dI t.2.1, dI t.2.2.1, dI t.2.2.2])]⟩)))) (id := 0) (spec_ReadDeed_n10_l x2980 x3252) (Sum.elim (fun (t : Bool × Int × Int × Int) => (Sum.inr t)) (fun (t : Unit) => (Sum.inl ()))) (by
  rintro (t | t) K h
  · exact Eq.mp (by kernel_rfl) h
  · exact Eq.mp (by kernel_rfl) h))

def spec_ReadDeed_n12_l (x2980 : ByteArray) (x3252 : List (Int × Int × Int × Unit)) := (link_seq (spec_ReadDeed_n8_l x2980 x3252) (fun (t : Unit) => (spec_ReadDeed_n11_l x2980 x3252)))

theorem spec_ReadDeed_n13_l : Link spec_ReadDeed_ctx LL (cq [1,1,1,1,1,1] (bodyOf Tryd.f12)) (aq [1,1,1,1,1,1] spec_ReadDeed_an) ⟨mkE 62 0 [(2, .ptr 0 0)], [some (.box [dI 0, dI 0, dI 0])]⟩ (spec_ReadDeed_n13) (fun (t : Bool × Int × Int × Int) => (Exit.ret, ⟨mkE 62 0 [(2, .ptr 0 0), (3, dB t.1)], [some (.box [dI t.2.1, dI t.2.2.1, dI t.2.2.2])]⟩)) := .of fun K h => by
  simp only [spec_ReadDeed_n13, wpW] at h
  exact .of (by kernel_rfl) h

def spec_ReadDeed_n14_l (x2980 : ByteArray) (x3252 : List (Int × Int × Int × Unit)) := (link_seq2 (spec_ReadDeed_n12_l x2980 x3252) (fun (t : Unit) => (spec_ReadDeed_n13_l)) (fun (t : Bool × Int × Int × Int) => t) (by
  rintro t
  · kernel_rfl) (by
  rintro t f K h
  · exact h))

def spec_ReadDeed_n15_l (x2980 : ByteArray) (x3068 : List ByteArray) (x3239 : List (Int × Int × Int × Unit)) := (link_seq (spec_ReadDeed_n7_l x2980 x3068 x3239) (fun (t : (List (Int × Int × Int × Unit))) => (spec_ReadDeed_n14_l x2980 t)))

def spec_ReadDeed_n16_l (x2980 : ByteArray) (x3068 : List ByteArray) (x3082 : List (Int × Int × Int × Unit)) := (link_seq (spec_ReadDeed_n6_l x2980 x3068 x3082) (fun (t : (List (Int × Int × Int × Unit))) => (spec_ReadDeed_n15_l x2980 x3068 t)))

def spec_ReadDeed_n17_l (x2980 : ByteArray) := (link_group (c := (cq [0,1,1] (bodyOf Tryd.f12))) (a := (aq [0,1,1] spec_ReadDeed_an)) [(cq [0] (bodyOf Tryd.f12)), (cq [0,1] (bodyOf Tryd.f12))] [(aq [0] spec_ReadDeed_an), (aq [0,1] spec_ReadDeed_an)] rfl (link_seq (spec_ReadDeed_n1_l x2980) (fun (t : (List ByteArray) × (List (Int × Int × Int × Unit))) => (spec_ReadDeed_n16_l x2980 t.1 t.2))))

theorem spec_ReadDeed_e (x2980 : ByteArray) {r : AV} {H' : Heap} (h : (Ans.mk _ (spec_ReadDeed x2980) (fun (t : Bool × Int × Int × Int) => (.tup [.agg [dI t.2.1, dI t.2.2.1, dI t.2.2.2], dB t.1], [some (.box [dI t.2.1, dI t.2.2.1, dI t.2.2.2])])) [] none).run = some (r, H')) : Awp spec_ReadDeed_ctx LL (bodyOf Tryd.f12) spec_ReadDeed_an ⟨mkE 62 0 [(0, dS x2980)], []⟩ (Ret (tlook tys) Tryd.f12.results.toList r H') :=
  ret_of' (Link.cast (by kernel_rfl) (by kernel_rfl) (spec_ReadDeed_n17_l x2980)) (by unfold spec_ReadDeed; kernel_rfl) (by
  intro t
  exact ret_mk [.agg [dI t.2.1, dI t.2.2.1, dI t.2.2.2], dB t.1] (by kernel_rfl) (by kernel_rfl) (by kernel_rfl) (by kernel_rfl)) h

def F_spec_ReadDeed : Fun := fun avs H =>
  match avs, H with
  | [.dat .str x2980], [] => ⟨_, spec_ReadDeed x2980, fun (t : Bool × Int × Int × Int) => (.tup [.agg [dI t.2.1, dI t.2.2.1, dI t.2.2.2], dB t.1], [some (.box [dI t.2.1, dI t.2.2.1, dI t.2.2.2])]), [], none⟩
  | _, _ => Ans.no

theorem spec_ReadDeed_sound : Sound Tryd.prog 12 F_spec_ReadDeed := by
  refine fn_sound' (C := spec_ReadDeed_ctx) (c := bodyOf Tryd.f12) (cok_of tys_ok (allc spec_l1Cut_sound (allc spec_l1Digits_sound (allc spec_DeedText_sound alln))) (allc Tryd.call32 (allc Tryd.call33 (allc Tryd.call8 alln))) (by kernel_rfl)) Tryd.func12 (by kernel_rfl) LL spec_ReadDeed_an ?_
  intro avs H r H' h
  unfold F_spec_ReadDeed at h
  split at h
  · refine Awp.cast ?_ ?_ ?_ (spec_ReadDeed_e _ h) <;> kernel_rfl
  · simp [Ans.no, Ans.run] at h


/-! loop.example/headtrees/laws.FnReadDeed -/

def laws_FnReadDeed_an : Ann := (.seq (.leaf [0]) (.seq (.seq (.leaf [0, 12]) (.cond (.seq (.leaf [2]) (.leaf [2])) (.leaf [0]))) (.seq (.leaf [3]) (.seq (.leaf [3, 4, 5]) (.seq (.leaf [3, 4, 5, 6, 7]) (.seq (.seq (.leaf [3, 4, 5, 32]) (.cond (.seq (.leaf [2]) (.leaf [2])) (.leaf [3, 4, 5]))) (.seq (.seq (.leaf [3, 4, 34]) (.cond (.seq (.leaf [2]) (.leaf [2])) (.leaf [3, 4]))) (.seq (.leaf [3, 4, 9]) (.seq (.leaf [2]) (.leaf [2]))))))))))

noncomputable def laws_FnReadDeed_ctx : Ctx := ⟨tlook tys, olook [(11, F_spec_DrawReadDeed), (10, F_impl_ReadDeed), (12, F_spec_ReadDeed), (9, F_laws_alive), (7, F_impl_DeedText)], ioF, 0, false, []⟩

theorem laws_FnReadDeed_n1_l (x2783 : List Int) : Link laws_FnReadDeed_ctx LL (bodyOf Tryd.f4) laws_FnReadDeed_an ⟨mkE 55 0 [(0, dV x2783)], []⟩ (laws_FnReadDeed_n1 x2783) (fun (t : Bool) => (Exit.ret, ⟨mkE 55 0 [(2, dB t)], []⟩)) := .of fun K h => by
  simp only [laws_FnReadDeed_n1, wpW] at h
  exact .of (by kernel_rfl) h

theorem laws_FnReadDeed_e (x2783 : List Int) {r : AV} {H' : Heap} (h : (Ans.mk _ (laws_FnReadDeed x2783) (fun (t : Bool) => (dB t, [])) [] none).run = some (r, H')) : Awp laws_FnReadDeed_ctx LL (bodyOf Tryd.f4) laws_FnReadDeed_an ⟨mkE 55 0 [(0, dV x2783)], []⟩ (Ret (tlook tys) Tryd.f4.results.toList r H') :=
  ret_of' (laws_FnReadDeed_n1_l x2783) (by unfold laws_FnReadDeed; kernel_rfl) (by
  intro t
  exact ret_mk [dB t] (by kernel_rfl) (by kernel_rfl) (by kernel_rfl) (by kernel_rfl)) h

def F_laws_FnReadDeed : Fun := fun avs H =>
  match avs, H with
  | [.dat (.list (.int .u8)) x2783], [] => ⟨_, laws_FnReadDeed x2783, fun (t : Bool) => (dB t, []), [], none⟩
  | _, _ => Ans.no

theorem laws_FnReadDeed_sound : Sound Tryd.prog 4 F_laws_FnReadDeed := by
  refine fn_sound' (C := laws_FnReadDeed_ctx) (c := bodyOf Tryd.f4) (cok_of tys_ok (allc spec_DrawReadDeed_sound (allc impl_ReadDeed_sound (allc spec_ReadDeed_sound (allc laws_alive_sound (allc impl_DeedText_sound alln))))) (allc Tryd.call11 (allc Tryd.call10 (allc Tryd.call12 (allc Tryd.call9 (allc Tryd.call7 alln))))) (by kernel_rfl)) Tryd.func4 (by kernel_rfl) LL laws_FnReadDeed_an ?_
  intro avs H r H' h
  unfold F_laws_FnReadDeed at h
  split at h
  · refine Awp.cast ?_ ?_ ?_ (laws_FnReadDeed_e _ h) <;> kernel_rfl
  · simp [Ans.no, Ans.run] at h

end Go.Rv
