/-
  The checked code answers as the plain functions do; written by program. Conditions: none.
-/
import Derived.Test.YtihgceegapfngabDoorGFnJournalText
import Derived.Test.YtihgceegapfngabDoorFB
import Derived.Test.YtihgceegapfngabDoorFB
import Derived.Test.YtihgceegapfngabDoorProg
set_option linter.unusedVariables false
set_option linter.unusedSimpArgs false
set_option linter.defProp false
set_option maxRecDepth 100000
namespace Go.Rv
open Go.Proofs
theorem ty3 : TIOk Tryd.prog 3 ⟨.int .i64, 1, 8, some (.int .i64), [.int .i64 0], false⟩ := ⟨⟨infoOf (Tryd.prog.info? 3), by kernel_rfl, by kernel_rfl, by kernel_rfl, .int .i64 0, by kernel_rfl, by kernel_rfl⟩, (by kernel_rfl : Tryd.prog.underlying 3 = some (.int .i64)), no_eq⟩
theorem ty5 : TIOk Tryd.prog 5 ⟨.int .u8, 1, 1, some (.int .u8), [.int .u8 0], false⟩ := ⟨⟨infoOf (Tryd.prog.info? 5), by kernel_rfl, by kernel_rfl, by kernel_rfl, .int .u8 0, by kernel_rfl, by kernel_rfl⟩, (by kernel_rfl : Tryd.prog.underlying 5 = some (.int .u8)), no_eq⟩
theorem ty9 : TIOk Tryd.prog 9 ⟨.str, 1, 16, some .str, [.string ByteArray.empty], false⟩ := ⟨⟨infoOf (Tryd.prog.info? 9), by kernel_rfl, by kernel_rfl, by kernel_rfl, .string ByteArray.empty, by kernel_rfl, by kernel_rfl⟩, (by kernel_rfl : Tryd.prog.underlying 9 = some .string), no_eq⟩
theorem ty22 : TIOk Tryd.prog 22 ⟨.slice 5, 1, 24, some (.list (.int .u8)), [.slice none 0 0], false⟩ := ⟨⟨infoOf (Tryd.prog.info? 22), by kernel_rfl, by kernel_rfl, by kernel_rfl, .slice none 0 0, by kernel_rfl, by kernel_rfl⟩, (by kernel_rfl : Tryd.prog.underlying 22 = some (.slice 5)), no_eq⟩
theorem ty24 : TIOk Tryd.prog 24 ⟨.strct [(0, 3), (1, 3), (2, 3)], 3, 24, some (.pair (.int .i64) (.pair (.int .i64) (.pair (.int .i64) .unit))), [.int .i64 0, .int .i64 0, .int .i64 0], true⟩ := ⟨⟨infoOf (Tryd.prog.info? 24), by kernel_rfl, by kernel_rfl, by kernel_rfl, .agg #[.int .i64 0, .int .i64 0, .int .i64 0], by kernel_rfl, by kernel_rfl⟩, ⟨fieldsOf (Tryd.prog.underlying 24), by kernel_rfl, by kernel_rfl⟩, fun _ => by kernel_rfl⟩
theorem ty32 : TIOk Tryd.prog 32 ⟨.slice 24, 1, 24, some (.list (.pair (.int .i64) (.pair (.int .i64) (.pair (.int .i64) .unit)))), [.slice none 0 0], false⟩ := ⟨⟨infoOf (Tryd.prog.info? 32), by kernel_rfl, by kernel_rfl, by kernel_rfl, .slice none 0 0, by kernel_rfl, by kernel_rfl⟩, (by kernel_rfl : Tryd.prog.underlying 32 = some (.slice 24)), no_eq⟩
theorem ty41 : TIOk Tryd.prog 41 ⟨.slice 3, 1, 24, some (.list (.int .i64)), [.slice none 0 0], false⟩ := ⟨⟨infoOf (Tryd.prog.info? 41), by kernel_rfl, by kernel_rfl, by kernel_rfl, .slice none 0 0, by kernel_rfl, by kernel_rfl⟩, (by kernel_rfl : Tryd.prog.underlying 41 = some (.slice 3)), no_eq⟩
theorem ty43 : TIOk Tryd.prog 43 ⟨.arr 6 9, 6, 96, none, [.string ByteArray.empty, .string ByteArray.empty, .string ByteArray.empty, .string ByteArray.empty, .string ByteArray.empty, .string ByteArray.empty], false⟩ := ⟨⟨infoOf (Tryd.prog.info? 43), by kernel_rfl, by kernel_rfl, by kernel_rfl, .agg #[.string ByteArray.empty, .string ByteArray.empty, .string ByteArray.empty, .string ByteArray.empty, .string ByteArray.empty, .string ByteArray.empty], by kernel_rfl, by kernel_rfl⟩, (by kernel_rfl : Tryd.prog.underlying 43 = some (.array 6 9)), no_eq⟩
theorem ty48 : TIOk Tryd.prog 48 ⟨.slice 9, 1, 24, some (.list .str), [.slice none 0 0], false⟩ := ⟨⟨infoOf (Tryd.prog.info? 48), by kernel_rfl, by kernel_rfl, by kernel_rfl, .slice none 0 0, by kernel_rfl, by kernel_rfl⟩, (by kernel_rfl : Tryd.prog.underlying 48 = some (.slice 9)), no_eq⟩
theorem ty66 : TIOk Tryd.prog 66 ⟨.strct [(0, 22), (1, 3)], 2, 32, some (.pair (.list (.int .u8)) (.pair (.int .i64) .unit)), [.slice none 0 0, .int .i64 0], false⟩ := ⟨⟨infoOf (Tryd.prog.info? 66), by kernel_rfl, by kernel_rfl, by kernel_rfl, .agg #[.slice none 0 0, .int .i64 0], by kernel_rfl, by kernel_rfl⟩, ⟨fieldsOf (Tryd.prog.underlying 66), by kernel_rfl, by kernel_rfl⟩, no_eq⟩
theorem ty79 : TIOk Tryd.prog 79 ⟨.strct [(0, 41), (1, 3), (2, 3)], 3, 40, some (.pair (.list (.int .i64)) (.pair (.int .i64) (.pair (.int .i64) .unit))), [.slice none 0 0, .int .i64 0, .int .i64 0], false⟩ := ⟨⟨infoOf (Tryd.prog.info? 79), by kernel_rfl, by kernel_rfl, by kernel_rfl, .agg #[.slice none 0 0, .int .i64 0, .int .i64 0], by kernel_rfl, by kernel_rfl⟩, ⟨fieldsOf (Tryd.prog.underlying 79), by kernel_rfl, by kernel_rfl⟩, no_eq⟩
def tys : List (TypeId × TI) := [(3, ⟨.int .i64, 1, 8, some (.int .i64), [.int .i64 0], false⟩), (5, ⟨.int .u8, 1, 1, some (.int .u8), [.int .u8 0], false⟩), (9, ⟨.str, 1, 16, some .str, [.string ByteArray.empty], false⟩), (22, ⟨.slice 5, 1, 24, some (.list (.int .u8)), [.slice none 0 0], false⟩), (24, ⟨.strct [(0, 3), (1, 3), (2, 3)], 3, 24, some (.pair (.int .i64) (.pair (.int .i64) (.pair (.int .i64) .unit))), [.int .i64 0, .int .i64 0, .int .i64 0], true⟩), (32, ⟨.slice 24, 1, 24, some (.list (.pair (.int .i64) (.pair (.int .i64) (.pair (.int .i64) .unit)))), [.slice none 0 0], false⟩), (41, ⟨.slice 3, 1, 24, some (.list (.int .i64)), [.slice none 0 0], false⟩), (43, ⟨.arr 6 9, 6, 96, none, [.string ByteArray.empty, .string ByteArray.empty, .string ByteArray.empty, .string ByteArray.empty, .string ByteArray.empty, .string ByteArray.empty], false⟩), (48, ⟨.slice 9, 1, 24, some (.list .str), [.slice none 0 0], false⟩), (66, ⟨.strct [(0, 22), (1, 3)], 2, 32, some (.pair (.list (.int .u8)) (.pair (.int .i64) .unit)), [.slice none 0 0, .int .i64 0], false⟩), (79, ⟨.strct [(0, 41), (1, 3), (2, 3)], 3, 40, some (.pair (.list (.int .i64)) (.pair (.int .i64) (.pair (.int .i64) .unit))), [.slice none 0 0, .int .i64 0, .int .i64 0], false⟩)]
theorem tys_ok : TOk Tryd.prog (tlook tys) := tok_of (allc ty3 (allc ty5 (allc ty9 (allc ty22 (allc ty24 (allc ty32 (allc ty41 (allc ty43 (allc ty48 (allc ty66 (allc ty79 alln)))))))))))
def ioF (f : FuncId) (i : Nat) : Bool := [(55, 1), (58, 1000), (59, 1000)].any fun (p : Nat × Nat) => Nat.beq p.1 f && Nat.beq p.2 i


/-! loop.example/headtrees/spec.l20Open -/

def spec_l20Open_an : Ann := (.seq (.leaf [0]) (.seq (.seq (.leaf [0, 5]) (.cond (.leaf [0]) (.leaf [0]))) (.seq (.leaf [2]) (.leaf [2]))))

noncomputable def spec_l20Open_ctx : Ctx := ⟨tlook tys, olook [], ioF, 0, false, []⟩

theorem spec_l20Open_n1_l (x12 : List Int) : Link spec_l20Open_ctx LL (bodyOf Tryd.f18) spec_l20Open_an ⟨mkE 11 0 [(0, dV x12)], []⟩ (spec_l20Open_n1 x12) (fun (t : (List Int)) => (Exit.ret, ⟨mkE 11 0 [(2, .ptr 0 0)], [some (.box [dV t, dI 0])]⟩)) := .of fun K h => by
  simp only [spec_l20Open_n1, wpW] at h
  exact .of (by kernel_rfl) h

theorem spec_l20Open_e (x12 : List Int) {r : AV} {H' : Heap} (h : (Ans.mk _ (spec_l20Open x12) (fun (t : (List Int)) => (.ptr 0 0, [some (.box [dV t, dI 0])])) [] none).run = some (r, H')) : Awp spec_l20Open_ctx LL (bodyOf Tryd.f18) spec_l20Open_an ⟨mkE 11 0 [(0, dV x12)], []⟩ (Ret (tlook tys) Tryd.f18.results.toList r H') :=
  ret_of' (spec_l20Open_n1_l x12) (by unfold spec_l20Open; kernel_rfl) (by
  intro t
  exact ret_mk [.ptr 0 0] (by kernel_rfl) (by kernel_rfl) (by kernel_rfl) (by kernel_rfl)) h

def F_spec_l20Open : Fun := fun avs H =>
  match avs, H with
  | [.dat (.list (.int .u8)) x12], [] => ⟨_, spec_l20Open x12, fun (t : (List Int)) => (.ptr 0 0, [some (.box [dV t, dI 0])]), [], none⟩
  | _, _ => Ans.no

theorem spec_l20Open_sound : Sound Tryd.prog 18 F_spec_l20Open := by
  refine fn_sound' (C := spec_l20Open_ctx) (c := bodyOf Tryd.f18) (cok_of tys_ok (alln) (alln) (by kernel_rfl)) Tryd.func18 (by kernel_rfl) LL spec_l20Open_an ?_
  intro avs H r H' h
  unfold F_spec_l20Open at h
  split at h
  · refine Awp.cast ?_ ?_ ?_ (spec_l20Open_e _ h) <;> kernel_rfl
  · simp [Ans.no, Ans.run] at h


/-! (*loop.example/headtrees/spec.l20Rd).pick -/

def spec_l20Rd_pick_an : Ann := (.seq (.leaf [0, 1]) (.seq (.leaf [0, 1]) (.seq (.seq (.leaf [0, 1, 24]) (.cond (.seq (.leaf [4]) (.leaf [4])) (.leaf [0, 1]))) (.seq (.leaf [0, 1, 5]) (.seq (.seq (.leaf [0, 1, 5, 36]) (.cond (.seq (.leaf [4]) (.leaf [4])) (.leaf [0, 1, 5]))) (.seq (.draw [] [0, 1, 2, 3, 4, 5, 6, 7, 8, 9, 10, 11, 12, 13, 14, 15, 16, 17, 18, 19, 20, 21, 22, 23, 24, 25, 26, 27, 28, 29, 30, 31, 32, 33, 34, 35, 36, 37, 38, 39, 40, 41, 42, 43, 44, 45] [] [1, 6]) (.seq (.leaf [1, 6]) (.seq (.leaf [4]) (.leaf [4])))))))))

noncomputable def spec_l20Rd_pick_ctx : Ctx := ⟨tlook tys, olook [], ioF, 1, false, []⟩

theorem spec_l20Rd_pick_n1_l (x44 : Int) (x45 : List Int) (x46 : Int) : Link spec_l20Rd_pick_ctx LL (bodyOf Tryd.f30) spec_l20Rd_pick_an ⟨mkE 99 0 [(0, .ptr 0 0), (1, dI x44)], [some (.box [dV x45, dI x46])]⟩ (spec_l20Rd_pick_n1 x44 x45 x46) (fun (t : Int × Int) => (Exit.ret, ⟨mkE 99 0 [(4, dI t.1)], [some (.box [dV x45, dI t.2])]⟩)) := .of fun K h => by
  simp only [spec_l20Rd_pick_n1, wpW] at h
  exact .of (by kernel_rfl) h

theorem spec_l20Rd_pick_e (x44 : Int) (x45 : List Int) (x46 : Int) {r : AV} {H' : Heap} (h : (Ans.mk _ (spec_l20Rd_pick x44 x45 x46) (fun (t : Int × Int) => (dI t.1, [some (.box [dV x45, dI t.2])])) [] none).run = some (r, H')) : Awp spec_l20Rd_pick_ctx LL (bodyOf Tryd.f30) spec_l20Rd_pick_an ⟨mkE 99 0 [(0, .ptr 0 0), (1, dI x44)], [some (.box [dV x45, dI x46])]⟩ (Ret (tlook tys) Tryd.f30.results.toList r H') :=
  ret_of' (spec_l20Rd_pick_n1_l x44 x45 x46) (by unfold spec_l20Rd_pick; kernel_rfl) (by
  intro t
  exact ret_mk [dI t.1] (by kernel_rfl) (by kernel_rfl) (by kernel_rfl) (by kernel_rfl)) h

def F_spec_l20Rd_pick : Fun := fun avs H =>
  match avs, H with
  | [.ptr 0 0, .dat (.int .i64) x44], [some (.box [.dat (.list (.int .u8)) x45, .dat (.int .i64) x46])] => ⟨_, spec_l20Rd_pick x44 x45 x46, fun (t : Int × Int) => (dI t.1, [some (.box [dV x45, dI t.2])]), [], none⟩
  | _, _ => Ans.no

theorem spec_l20Rd_pick_sound : Sound Tryd.prog 30 F_spec_l20Rd_pick := by
  refine fn_sound' (C := spec_l20Rd_pick_ctx) (c := bodyOf Tryd.f30) (cok_of tys_ok (alln) (alln) (by kernel_rfl)) Tryd.func30 (by kernel_rfl) LL spec_l20Rd_pick_an ?_
  intro avs H r H' h
  unfold F_spec_l20Rd_pick at h
  split at h
  · refine Awp.cast ?_ ?_ ?_ (spec_l20Rd_pick_e _ _ _ h) <;> kernel_rfl
  · simp [Ans.no, Ans.run] at h


/-! loop.example/headtrees/spec.l20Order -/

def spec_l20Order_an : Ann := (.seq (.leaf [0, 1]) (.seq (.leaf [0, 1, 5]) (.seq (.leaf [0, 1, 5, 6]) (.seq (.seq (.leaf [0, 1, 5, 6, 7]) (.block (.loop (.seq (.seq (.leaf [0, 1, 5, 6, 7, 15]) (.cond (.leaf [0, 1, 5, 6, 7]) (.leaf [5]))) (.seq (.block (.seq (.leaf [0, 1, 5, 6, 7, 8]) (.seq (.seq (.leaf [0, 1, 5, 6, 7, 8, 26]) (.cond (.leaf [0, 1, 5, 6, 7, 8]) (.leaf [0, 1, 5, 6, 7, 8]))) (.seq (.leaf [0, 1, 5, 6, 7, 8, 9]) (.seq (.leaf [0, 1, 5, 6, 7, 8, 9]) (.leaf [0, 1, 5, 6, 7])))))) (.leaf [0, 1, 5, 6, 7])))))) (.seq (.leaf [4]) (.leaf [4]))))))

noncomputable def spec_l20Order_ctx : Ctx := ⟨tlook tys, olook [(30, F_spec_l20Rd_pick)], ioF, 1, false, []⟩

theorem spec_l20Order_n1_l (x207 : Int) (x208 : List Int) (x209 : Int) : Link spec_l20Order_ctx LL (Code.seq (cq [0] (bodyOf Tryd.f42)) (Code.seq (cq [0,1] (bodyOf Tryd.f42)) (cq [0,1,1] (bodyOf Tryd.f42)))) (Ann.seq (aq [0] spec_l20Order_an) (Ann.seq (aq [0,1] spec_l20Order_an) (aq [0,1,1] spec_l20Order_an))) ⟨mkE 45 0 [(0, .ptr 0 0), (1, dI x207)], [some (.box [dV x208, dI x209])]⟩ (spec_l20Order_n1 x208 x209) (fun (t : Int × Int) => (Exit.normal, ⟨mkE 45 0 [(0, .ptr 0 0), (1, dI x207), (5, .slc 1), (6, dI t.1)], [some (.box [dV x208, dI t.2]), some (sI ([] : List Int))]⟩)) := .of fun K h => by
  simp only [spec_l20Order_n1, wpW] at h
  exact .of (by kernel_rfl) h

theorem spec_l20Order_n2_l (x207 : Int) (x212 : Int) (x208 : List Int) (x213 : Int) : Link spec_l20Order_ctx LL (cq [0,0,1,1,1] (bodyOf Tryd.f42)) (aq [0,0,1,1,1] spec_l20Order_an) ⟨mkE 45 0 [(0, .ptr 0 0), (1, dI x207), (5, .slc 1), (6, dI x212)], [some (.box [dV x208, dI x213]), some (sI ([] : List Int))]⟩ (spec_l20Order_n2) (fun (t : Unit) => (Exit.normal, ⟨mkE 45 0 [(0, .ptr 0 0), (1, dI x207), (5, .slc 1), (6, dI x212), (7, dI 1)], [some (.box [dV x208, dI x213]), some (sI ([] : List Int))]⟩)) := .of fun K h => by
  simp only [spec_l20Order_n2, wpW] at h
  exact .of (by kernel_rfl) h

theorem spec_l20Order_n3_l (x207 : Int) (x212 : Int) (x355 : Int) (x208 : List Int) (x356 : Int) (x357 : List Int) : Link spec_l20Order_ctx LL (cq [0,0,1,0,1,1,1] (bodyOf Tryd.f42)) (aq [0,0,1,0,1,1,1] spec_l20Order_an) ⟨mkE 45 0 [(0, .ptr 0 0), (1, dI x207), (5, .slc 1), (6, dI x212), (7, dI x355)], [some (.box [dV x208, dI x356]), some (sI x357)]⟩ (spec_l20Order_n3 x207 x212 x355 x208 x356 x357) (Sum.elim (fun (t : Int × Int × (List Int)) => (Exit.normal, ⟨mkE 45 0 [(0, .ptr 0 0), (1, dI x207), (5, .slc 1), (6, dI x212), (7, dI t.1)], [some (.box [dV x208, dI t.2.1]), some (sI t.2.2)]⟩)) (fun (t : Int × (List Int)) => ((Exit.exit 0), ⟨mkE 45 0 [(5, .slc 1)], [some (.box [dV x208, dI t.1]), some (sI t.2)]⟩))) := .of fun K h => by
  simp only [spec_l20Order_n3, wpW] at h
  exact .of (by kernel_rfl) h

def spec_l20Order_n4_l (x207 : Int) (x212 : Int) (x208 : List Int) (x213 : Int) := (link_loop (mk := fun (s : Int × Int × (List Int)) => ⟨mkE 45 0 [(0, .ptr 0 0), (1, dI x207), (5, .slc 1), (6, dI x212), (7, dI s.1)], [some (.box [dV x208, dI s.2.1]), some (sI s.2.2)]⟩) (fin := (fun (t : Int × (List Int)) => ((Exit.exit 0), ⟨mkE 45 0 [(5, .slc 1)], [some (.box [dV x208, dI t.1]), some (sI t.2)]⟩))) (by
  rintro t f K h
  · exact h) (fun s => link_map (spec_l20Order_n3_l x207 x212 s.1 x208 s.2.1 s.2.2) (Sum.elim (fun (t : Int × Int × (List Int)) => Sum.inl (t.1, t.2.1, t.2.2)) (fun (t : Int × (List Int)) => Sum.inr t)) (by
  rintro (t | t)
  · kernel_rfl
  · kernel_rfl)) (1, x213, ([] : List Int)))

def spec_l20Order_n5_l (x207 : Int) (x212 : Int) (x208 : List Int) (x213 : Int) := (link_block (fin2 := (fun (t : Int × (List Int)) => (Exit.normal, ⟨mkE 45 0 [(5, .slc 1)], [some (.box [dV x208, dI t.1]), some (sI t.2)]⟩))) (id := 0) (spec_l20Order_n4_l x207 x212 x208 x213) (fun (t : Int × (List Int)) => (t.1, t.2)) (by
  rintro t K h
  · exact Eq.mp (by kernel_rfl) h))

def spec_l20Order_n6_l (x207 : Int) (x212 : Int) (x208 : List Int) (x213 : Int) := (link_seq (spec_l20Order_n2_l x207 x212 x208 x213) (fun (t : Unit) => (spec_l20Order_n5_l x207 x212 x208 x213)))

theorem spec_l20Order_n7_l (x208 : List Int) (x356 : Int) (x357 : List Int) : Link spec_l20Order_ctx LL (cq [1,1,1,1] (bodyOf Tryd.f42)) (aq [1,1,1,1] spec_l20Order_an) ⟨mkE 45 0 [(5, .slc 1)], [some (.box [dV x208, dI x356]), some (sI x357)]⟩ (spec_l20Order_n7 x356 x357) (fun (t : Int × (List Int)) => (Exit.ret, ⟨mkE 45 0 [(4, .slc 1)], [some (.box [dV x208, dI t.1]), some (sI t.2)]⟩)) := .of fun K h => by
  simp only [spec_l20Order_n7, wpW] at h
  exact .of (by kernel_rfl) h

def spec_l20Order_n8_l (x207 : Int) (x212 : Int) (x208 : List Int) (x213 : Int) := (link_seq (spec_l20Order_n6_l x207 x212 x208 x213) (fun (t : Int × (List Int)) => (spec_l20Order_n7_l x208 t.1 t.2)))

def spec_l20Order_n9_l (x207 : Int) (x208 : List Int) (x209 : Int) := (link_group (c := (cq [0,1,1] (bodyOf Tryd.f42))) (a := (aq [0,1,1] spec_l20Order_an)) [(cq [0] (bodyOf Tryd.f42)), (cq [0,1] (bodyOf Tryd.f42))] [(aq [0] spec_l20Order_an), (aq [0,1] spec_l20Order_an)] rfl (link_seq (spec_l20Order_n1_l x207 x208 x209) (fun (t : Int × Int) => (spec_l20Order_n8_l x207 t.1 x208 t.2))))

theorem spec_l20Order_e (x207 : Int) (x208 : List Int) (x209 : Int) {r : AV} {H' : Heap} (h : (Ans.mk _ (spec_l20Order x207 x208 x209) (fun (t : Int × (List Int)) => (.slc 1, [some (.box [dV x208, dI t.1]), some (sI t.2)])) [] none).run = some (r, H')) : Awp spec_l20Order_ctx LL (bodyOf Tryd.f42) spec_l20Order_an ⟨mkE 45 0 [(0, .ptr 0 0), (1, dI x207)], [some (.box [dV x208, dI x209])]⟩ (Ret (tlook tys) Tryd.f42.results.toList r H') :=
  ret_of' (Link.cast (by kernel_rfl) (by kernel_rfl) (spec_l20Order_n9_l x207 x208 x209)) (by unfold spec_l20Order; kernel_rfl) (by
  intro t
  exact ret_mk [.slc 1] (by kernel_rfl) (by kernel_rfl) (by kernel_rfl) (by kernel_rfl)) h

def F_spec_l20Order : Fun := fun avs H =>
  match avs, H with
  | [.ptr 0 0, .dat (.int .i64) x207], [some (.box [.dat (.list (.int .u8)) x208, .dat (.int .i64) x209])] => ⟨_, spec_l20Order x207 x208 x209, fun (t : Int × (List Int)) => (.slc 1, [some (.box [dV x208, dI t.1]), some (sI t.2)]), [], none⟩
  | _, _ => Ans.no

theorem spec_l20Order_sound : Sound Tryd.prog 42 F_spec_l20Order := by
  refine fn_sound' (C := spec_l20Order_ctx) (c := bodyOf Tryd.f42) (cok_of tys_ok (allc spec_l20Rd_pick_sound alln) (allc Tryd.call30 alln) (by kernel_rfl)) Tryd.func42 (by kernel_rfl) LL spec_l20Order_an ?_
  intro avs H r H' h
  unfold F_spec_l20Order at h
  split at h
  · refine Awp.cast ?_ ?_ ?_ (spec_l20Order_e _ _ _ h) <;> kernel_rfl
  · simp [Ans.no, Ans.run] at h


/-! (*loop.example/headtrees/spec.l20Rd).odd -/

def spec_l20Rd_odd_an : Ann := (.seq (.leaf [0, 1]) (.seq (.leaf [4]) (.leaf [4])))

noncomputable def spec_l20Rd_odd_ctx : Ctx := ⟨tlook tys, olook [(30, F_spec_l20Rd_pick)], ioF, 1, false, []⟩

theorem spec_l20Rd_odd_n1_l (x664 : Int) (x665 : List Int) (x666 : Int) : Link spec_l20Rd_odd_ctx LL (bodyOf Tryd.f35) spec_l20Rd_odd_an ⟨mkE 15 0 [(0, .ptr 0 0), (1, dI x664)], [some (.box [dV x665, dI x666])]⟩ (spec_l20Rd_odd_n1 x664 x665 x666) (fun (t : Bool × Int) => (Exit.ret, ⟨mkE 15 0 [(4, dB t.1)], [some (.box [dV x665, dI t.2])]⟩)) := .of fun K h => by
  simp only [spec_l20Rd_odd_n1, wpW] at h
  exact .of (by kernel_rfl) h

theorem spec_l20Rd_odd_e (x664 : Int) (x665 : List Int) (x666 : Int) {r : AV} {H' : Heap} (h : (Ans.mk _ (spec_l20Rd_odd x664 x665 x666) (fun (t : Bool × Int) => (dB t.1, [some (.box [dV x665, dI t.2])])) [] none).run = some (r, H')) : Awp spec_l20Rd_odd_ctx LL (bodyOf Tryd.f35) spec_l20Rd_odd_an ⟨mkE 15 0 [(0, .ptr 0 0), (1, dI x664)], [some (.box [dV x665, dI x666])]⟩ (Ret (tlook tys) Tryd.f35.results.toList r H') :=
  ret_of' (spec_l20Rd_odd_n1_l x664 x665 x666) (by unfold spec_l20Rd_odd; kernel_rfl) (by
  intro t
  exact ret_mk [dB t.1] (by kernel_rfl) (by kernel_rfl) (by kernel_rfl) (by kernel_rfl)) h

def F_spec_l20Rd_odd : Fun := fun avs H =>
  match avs, H with
  | [.ptr 0 0, .dat (.int .i64) x664], [some (.box [.dat (.list (.int .u8)) x665, .dat (.int .i64) x666])] => ⟨_, spec_l20Rd_odd x664 x665 x666, fun (t : Bool × Int) => (dB t.1, [some (.box [dV x665, dI t.2])]), [], none⟩
  | _, _ => Ans.no

theorem spec_l20Rd_odd_sound : Sound Tryd.prog 35 F_spec_l20Rd_odd := by
  refine fn_sound' (C := spec_l20Rd_odd_ctx) (c := bodyOf Tryd.f35) (cok_of tys_ok (allc spec_l20Rd_pick_sound alln) (allc Tryd.call30 alln) (by kernel_rfl)) Tryd.func35 (by kernel_rfl) LL spec_l20Rd_odd_an ?_
  intro avs H r H' h
  unfold F_spec_l20Rd_odd at h
  split at h
  · refine Awp.cast ?_ ?_ ?_ (spec_l20Rd_odd_e _ _ _ h) <;> kernel_rfl
  · simp [Ans.no, Ans.run] at h


/-! loop.example/headtrees/spec.l20Tree -/

def spec_l20Tree_an : Ann := (.seq (.leaf [0, 1]) (.seq (.leaf [0, 1, 5]) (.seq (.leaf [0, 1, 5, 6]) (.seq (.leaf [0, 1, 5, 6, 7]) (.seq (.leaf [0, 1, 5, 6, 7, 8]) (.seq (.seq (.leaf [0, 1, 5, 6, 7, 8, 9]) (.block (.loop (.seq (.seq (.leaf [0, 1, 5, 6, 7, 8, 9, 23]) (.cond (.leaf [0, 1, 5, 6, 7, 8, 9]) (.leaf [0, 1, 5, 7]))) (.seq (.block (.seq (.leaf [0, 1, 5, 6, 7, 8, 9, 10]) (.seq (.seq (.leaf [0, 1, 5, 6, 7, 8, 9, 10, 35]) (.cond (.leaf [0, 1, 5, 6, 7, 8, 9, 10]) (.leaf [0, 1, 5, 6, 7, 8, 9, 10]))) (.draw [] [0, 1, 2, 3, 4, 5, 6, 7, 8, 9, 10, 11] [] [0, 1, 5, 6, 7, 8, 9])))) (.leaf [0, 1, 5, 6, 7, 8, 9])))))) (.seq (.seq (.leaf [0, 5, 7, 51]) (.cond (.seq (.leaf [0, 5, 7, 53]) (.block (.seq (.leaf [0, 5, 7, 53, 63]) (.cond (.seq (.leaf [4]) (.leaf [4])) (.seq (.leaf [0, 5, 7, 53, 66]) (.cond (.seq (.leaf [4]) (.leaf [4])) (.seq (.leaf [0, 5, 7, 69]) (.cond (.seq (.leaf [7]) (.seq (.leaf [4]) (.leaf [4]))) (.leaf [7]))))))))) (.leaf [7]))) (.seq (.leaf [4]) (.leaf [4])))))))))

noncomputable def spec_l20Tree_ctx : Ctx := ⟨tlook tys, olook [(30, F_spec_l20Rd_pick), (42, F_spec_l20Order), (35, F_spec_l20Rd_odd)], ioF, 1, false, []⟩

theorem spec_l20Tree_n1_l (x40 : Int) (x41 : List Int) (x42 : Int) : Link spec_l20Tree_ctx LL (Code.seq (cq [0] (bodyOf Tryd.f39)) (Code.seq (cq [0,1] (bodyOf Tryd.f39)) (Code.seq (cq [0,1,1] (bodyOf Tryd.f39)) (Code.seq (cq [0,1,1,1] (bodyOf Tryd.f39)) (cq [0,1,1,1,1] (bodyOf Tryd.f39)))))) (Ann.seq (aq [0] spec_l20Tree_an) (Ann.seq (aq [0,1] spec_l20Tree_an) (Ann.seq (aq [0,1,1] spec_l20Tree_an) (Ann.seq (aq [0,1,1,1] spec_l20Tree_an) (aq [0,1,1,1,1] spec_l20Tree_an))))) ⟨mkE 80 0 [(0, .ptr 0 0), (1, dI x40)], [some (.box [dV x41, dI x42])]⟩ (spec_l20Tree_n1 x41 x42) (fun (t : Int × Int × Int × (List Int) × (List Int)) => (Exit.normal, ⟨mkE 80 0 [(0, .ptr 0 0), (1, dI x40), (5, dI t.1), (6, .slc 1), (7, .slc 2), (8, dI t.2.1)], [some (.box [dV x41, dI t.2.2.1]), some (sI t.2.2.2.1), some (sI t.2.2.2.2)]⟩)) := .of fun K h => by
  simp only [spec_l20Tree_n1, wpW] at h
  exact .of (by kernel_rfl) h

theorem spec_l20Tree_n2_l (x40 : Int) (x514 : Int) (x521 : Int) (x41 : List Int) (x522 : Int) (x517 : List Int) (x519 : List Int) : Link spec_l20Tree_ctx LL (cq [0,0,1,1,1,1,1] (bodyOf Tryd.f39)) (aq [0,0,1,1,1,1,1] spec_l20Tree_an) ⟨mkE 80 0 [(0, .ptr 0 0), (1, dI x40), (5, dI x514), (6, .slc 1), (7, .slc 2), (8, dI x521)], [some (.box [dV x41, dI x522]), some (sI x517), some (sI x519)]⟩ (spec_l20Tree_n2) (fun (t : Unit) => (Exit.normal, ⟨mkE 80 0 [(0, .ptr 0 0), (1, dI x40), (5, dI x514), (6, .slc 1), (7, .slc 2), (8, dI x521), (9, dI 1)], [some (.box [dV x41, dI x522]), some (sI x517), some (sI x519)]⟩)) := .of fun K h => by
  simp only [spec_l20Tree_n2, wpW] at h
  exact .of (by kernel_rfl) h

theorem spec_l20Tree_n3_l (x40 : Int) (x514 : Int) (x521 : Int) (x592 : Int) (x41 : List Int) (x593 : Int) (x517 : List Int) (x594 : List Int) : Link spec_l20Tree_ctx LL (cq [0,0,1,0,1,1,1,1,1] (bodyOf Tryd.f39)) (aq [0,0,1,0,1,1,1,1,1] spec_l20Tree_an) ⟨mkE 80 0 [(0, .ptr 0 0), (1, dI x40), (5, dI x514), (6, .slc 1), (7, .slc 2), (8, dI x521), (9, dI x592)], [some (.box [dV x41, dI x593]), some (sI x517), some (sI x594)]⟩ (spec_l20Tree_n3 x514 x521 x592 x41 x593 x517 x594) (Sum.elim (fun (t : Int × Int × (List Int)) => (Exit.normal, ⟨mkE 80 0 [(0, .ptr 0 0), (1, dI x40), (5, dI x514), (6, .slc 1), (7, .slc 2), (8, dI x521), (9, dI t.1)], [some (.box [dV x41, dI t.2.1]), some (sI x517), some (sI t.2.2)]⟩)) (fun (t : Int × (List Int)) => ((Exit.exit 0), ⟨mkE 80 0 [(0, .ptr 0 0), (1, dI x40), (5, dI x514), (7, .slc 1)], [some (.box [dV x41, dI t.1]), some (sI t.2)]⟩))) := .of fun K h => by
  simp only [spec_l20Tree_n3, wpW] at h
  exact .of (by kernel_rfl) h

def spec_l20Tree_n4_l (x40 : Int) (x514 : Int) (x521 : Int) (x41 : List Int) (x522 : Int) (x517 : List Int) (x519 : List Int) := (link_loop (mk := fun (s : Int × Int × (List Int)) => ⟨mkE 80 0 [(0, .ptr 0 0), (1, dI x40), (5, dI x514), (6, .slc 1), (7, .slc 2), (8, dI x521), (9, dI s.1)], [some (.box [dV x41, dI s.2.1]), some (sI x517), some (sI s.2.2)]⟩) (fin := (fun (t : Int × (List Int)) => ((Exit.exit 0), ⟨mkE 80 0 [(0, .ptr 0 0), (1, dI x40), (5, dI x514), (7, .slc 1)], [some (.box [dV x41, dI t.1]), some (sI t.2)]⟩))) (by
  rintro t f K h
  · exact h) (fun s => link_map (spec_l20Tree_n3_l x40 x514 x521 s.1 x41 s.2.1 x517 s.2.2) (Sum.elim (fun (t : Int × Int × (List Int)) => Sum.inl (t.1, t.2.1, t.2.2)) (fun (t : Int × (List Int)) => Sum.inr t)) (by
  rintro (t | t)
  · kernel_rfl
  · kernel_rfl)) (1, x522, x519))

def spec_l20Tree_n5_l (x40 : Int) (x514 : Int) (x521 : Int) (x41 : List Int) (x522 : Int) (x517 : List Int) (x519 : List Int) := (link_block (fin2 := (fun (t : Int × (List Int)) => (Exit.normal, ⟨mkE 80 0 [(0, .ptr 0 0), (1, dI x40), (5, dI x514), (7, .slc 1)], [some (.box [dV x41, dI t.1]), some (sI t.2)]⟩))) (id := 0) (spec_l20Tree_n4_l x40 x514 x521 x41 x522 x517 x519) (fun (t : Int × (List Int)) => (t.1, t.2)) (by
  rintro t K h
  · exact Eq.mp (by kernel_rfl) h))

def spec_l20Tree_n6_l (x40 : Int) (x514 : Int) (x521 : Int) (x41 : List Int) (x522 : Int) (x517 : List Int) (x519 : List Int) := (link_seq (spec_l20Tree_n2_l x40 x514 x521 x41 x522 x517 x519) (fun (t : Unit) => (spec_l20Tree_n5_l x40 x514 x521 x41 x522 x517 x519)))

theorem spec_l20Tree_n7_l (x40 : Int) (x514 : Int) (x41 : List Int) (x593 : Int) (x594 : List Int) : Link spec_l20Tree_ctx LL (cq [1,1,1,1,1,1] (bodyOf Tryd.f39)) (aq [1,1,1,1,1,1] spec_l20Tree_an) ⟨mkE 80 0 [(0, .ptr 0 0), (1, dI x40), (5, dI x514), (7, .slc 1)], [some (.box [dV x41, dI x593]), some (sI x594)]⟩ (spec_l20Tree_n7 x40 x514 x41 x593 x594) (fun (t : Int × (List Int)) => (Exit.ret, ⟨mkE 80 0 [(4, .slc 1)], [some (.box [dV x41, dI t.1]), some (sI t.2)]⟩)) := .of fun K h => by
  simp only [spec_l20Tree_n7, wpW] at h
  exact .of (by kernel_rfl) h

def spec_l20Tree_n8_l (x40 : Int) (x514 : Int) (x521 : Int) (x41 : List Int) (x522 : Int) (x517 : List Int) (x519 : List Int) := (link_seq (spec_l20Tree_n6_l x40 x514 x521 x41 x522 x517 x519) (fun (t : Int × (List Int)) => (spec_l20Tree_n7_l x40 x514 x41 t.1 t.2)))

def spec_l20Tree_n9_l (x40 : Int) (x41 : List Int) (x42 : Int) := (link_group (c := (cq [0,1,1,1,1] (bodyOf Tryd.f39))) (a := (aq [0,1,1,1,1] spec_l20Tree_an)) [(cq [0] (bodyOf Tryd.f39)), (cq [0,1] (bodyOf Tryd.f39)), (cq [0,1,1] (bodyOf Tryd.f39)), (cq [0,1,1,1] (bodyOf Tryd.f39))] [(aq [0] spec_l20Tree_an), (aq [0,1] spec_l20Tree_an), (aq [0,1,1] spec_l20Tree_an), (aq [0,1,1,1] spec_l20Tree_an)] rfl (link_seq (spec_l20Tree_n1_l x40 x41 x42) (fun (t : Int × Int × Int × (List Int) × (List Int)) => (spec_l20Tree_n8_l x40 t.1 t.2.1 x41 t.2.2.1 t.2.2.2.1 t.2.2.2.2))))

theorem spec_l20Tree_e (x40 : Int) (x41 : List Int) (x42 : Int) {r : AV} {H' : Heap} (h : (Ans.mk _ (spec_l20Tree x40 x41 x42) (fun (t : Int × (List Int)) => (.slc 1, [some (.box [dV x41, dI t.1]), some (sI t.2)])) [] none).run = some (r, H')) : Awp spec_l20Tree_ctx LL (bodyOf Tryd.f39) spec_l20Tree_an ⟨mkE 80 0 [(0, .ptr 0 0), (1, dI x40)], [some (.box [dV x41, dI x42])]⟩ (Ret (tlook tys) Tryd.f39.results.toList r H') :=
  ret_of' (Link.cast (by kernel_rfl) (by kernel_rfl) (spec_l20Tree_n9_l x40 x41 x42)) (by unfold spec_l20Tree; kernel_rfl) (by
  intro t
  exact ret_mk [.slc 1] (by kernel_rfl) (by kernel_rfl) (by kernel_rfl) (by kernel_rfl)) h

def F_spec_l20Tree : Fun := fun avs H =>
  match avs, H with
  | [.ptr 0 0, .dat (.int .i64) x40], [some (.box [.dat (.list (.int .u8)) x41, .dat (.int .i64) x42])] => ⟨_, spec_l20Tree x40 x41 x42, fun (t : Int × (List Int)) => (.slc 1, [some (.box [dV x41, dI t.1]), some (sI t.2)]), [], none⟩
  | _, _ => Ans.no

theorem spec_l20Tree_sound : Sound Tryd.prog 39 F_spec_l20Tree := by
  refine fn_sound' (C := spec_l20Tree_ctx) (c := bodyOf Tryd.f39) (cok_of tys_ok (allc spec_l20Rd_pick_sound (allc spec_l20Order_sound (allc spec_l20Rd_odd_sound alln))) (allc Tryd.call30 (allc Tryd.call42 (allc Tryd.call35 alln))) (by kernel_rfl)) Tryd.func39 (by kernel_rfl) LL spec_l20Tree_an ?_
  intro avs H r H' h
  unfold F_spec_l20Tree at h
  split at h
  · refine Awp.cast ?_ ?_ ?_ (spec_l20Tree_e _ _ _ h) <;> kernel_rfl
  · simp [Ans.no, Ans.run] at h


/-! loop.example/headtrees/spec.l1In -/

def spec_l1In_an : Ann := (.seq (.leaf [0, 1, 2]) (.seq (.leaf [6]) (.leaf [6])))

noncomputable def spec_l1In_ctx : Ctx := ⟨tlook tys, olook [], ioF, 0, false, []⟩

theorem spec_l1In_n1_l (x783 : Int) (x784 : Int) (x785 : Int) : Link spec_l1In_ctx LL (bodyOf Tryd.f24) spec_l1In_an ⟨mkE 15 0 [(0, dI x783), (1, dI x784), (2, dI x785)], []⟩ (spec_l1In_n1 x783 x784 x785) (fun (t : Bool) => (Exit.ret, ⟨mkE 15 0 [(6, dB t)], []⟩)) := .of fun K h => by
  simp only [spec_l1In_n1, wpW] at h
  exact .of (by kernel_rfl) h

theorem spec_l1In_e (x783 : Int) (x784 : Int) (x785 : Int) {r : AV} {H' : Heap} (h : (Ans.mk _ (spec_l1In x783 x784 x785) (fun (t : Bool) => (dB t, [])) [] none).run = some (r, H')) : Awp spec_l1In_ctx LL (bodyOf Tryd.f24) spec_l1In_an ⟨mkE 15 0 [(0, dI x783), (1, dI x784), (2, dI x785)], []⟩ (Ret (tlook tys) Tryd.f24.results.toList r H') :=
  ret_of' (spec_l1In_n1_l x783 x784 x785) (by unfold spec_l1In; kernel_rfl) (by
  intro t
  exact ret_mk [dB t] (by kernel_rfl) (by kernel_rfl) (by kernel_rfl) (by kernel_rfl)) h

def F_spec_l1In : Fun := fun avs H =>
  match avs, H with
  | [.dat (.int .i64) x783, .dat (.int .i64) x784, .dat (.int .i64) x785], [] => ⟨_, spec_l1In x783 x784 x785, fun (t : Bool) => (dB t, []), [], none⟩
  | _, _ => Ans.no

theorem spec_l1In_sound : Sound Tryd.prog 24 F_spec_l1In := by
  refine fn_sound' (C := spec_l1In_ctx) (c := bodyOf Tryd.f24) (cok_of tys_ok (alln) (alln) (by kernel_rfl)) Tryd.func24 (by kernel_rfl) LL spec_l1In_an ?_
  intro avs H r H' h
  unfold F_spec_l1In at h
  split at h
  · refine Awp.cast ?_ ?_ ?_ (spec_l1In_e _ _ _ h) <;> kernel_rfl
  · simp [Ans.no, Ans.run] at h


/-! loop.example/headtrees/spec.TreeOk -/

def spec_TreeOk_an : Ann := (.seq (.leaf [0]) (.seq (.leaf [0, 3]) (.seq (.seq (.leaf [0, 3, 12]) (.cond (.seq (.leaf [2]) (.leaf [2])) (.leaf [0, 3]))) (.seq (.leaf [0, 3, 4]) (.seq (.seq (.leaf [0, 3, 4, 5]) (.block (.loop (.seq (.seq (.leaf [0, 3, 4, 5, 15]) (.cond (.leaf [0, 3, 4, 5]) (.leaf [4]))) (.seq (.block (.seq (.seq (.leaf [0, 3, 4, 5, 33]) (.cond (.seq (.leaf [2]) (.leaf [2])) (.leaf [0, 3, 4, 5]))) (.seq (.seq (.leaf [0, 3, 4, 5, 38]) (.cond (.leaf [0, 3, 4, 5]) (.leaf [0, 3, 4, 5]))) (.seq (.leaf [0, 3, 4, 5, 6]) (.seq (.seq (.leaf [0, 3, 4, 5, 6, 7]) (.block (.loop (.seq (.seq (.leaf [0, 3, 4, 5, 6, 7, 49]) (.cond (.leaf [0, 3, 4, 5, 6, 7]) (.leaf [0, 3, 4, 5, 6]))) (.seq (.block (.seq (.leaf [0, 3, 4, 5, 6, 7]) (.seq (.leaf [0, 3, 4, 5, 6, 7, 60]) (.cond (.seq (.leaf [2]) (.leaf [2])) (.leaf [0, 3, 4, 5, 6, 7]))))) (.leaf [0, 3, 4, 5, 6, 7])))))) (.seq (.leaf [0, 3, 4, 5, 62]) (.cond (.seq (.leaf [2]) (.leaf [2])) (.leaf [0, 3, 4, 5])))))))) (.leaf [0, 3, 4, 5])))))) (.seq (.leaf [2]) (.leaf [2])))))))

noncomputable def spec_TreeOk_ctx : Ctx := ⟨tlook tys, olook [(24, F_spec_l1In)], ioF, 0, false, []⟩

theorem spec_TreeOk_n1_l (x779 : List Int) : Link spec_TreeOk_ctx LL (Code.seq (cq [0] (bodyOf Tryd.f40)) (Code.seq (cq [0,1] (bodyOf Tryd.f40)) (Code.seq (cq [0,1,1] (bodyOf Tryd.f40)) (cq [0,1,1,1] (bodyOf Tryd.f40))))) (Ann.seq (aq [0] spec_TreeOk_an) (Ann.seq (aq [0,1] spec_TreeOk_an) (Ann.seq (aq [0,1,1] spec_TreeOk_an) (aq [0,1,1,1] spec_TreeOk_an)))) ⟨mkE 65 0 [(0, dL x779)], []⟩ (spec_TreeOk_n1 x779) (Sum.elim (fun (t : Int) => (Exit.normal, ⟨mkE 65 0 [(0, dL x779), (3, dI t), (4, dI 0)], []⟩)) (fun (t : Bool) => (Exit.ret, ⟨mkE 65 0 [(2, dB t)], []⟩))) := .of fun K h => by
  simp only [spec_TreeOk_n1, wpW] at h
  exact .of (by kernel_rfl) h

theorem spec_TreeOk_n2_l (x779 : List Int) (x793 : Int) : Link spec_TreeOk_ctx LL (cq [0,0,1,1,1,1] (bodyOf Tryd.f40)) (aq [0,0,1,1,1,1] spec_TreeOk_an) ⟨mkE 65 0 [(0, dL x779), (3, dI x793), (4, dI 0)], []⟩ (spec_TreeOk_n2) (fun (t : Unit) => (Exit.normal, ⟨mkE 65 0 [(0, dL x779), (3, dI x793), (4, dI 0), (5, dI 0)], []⟩)) := .of fun K h => by
  simp only [spec_TreeOk_n2, wpW] at h
  exact .of (by kernel_rfl) h

theorem spec_TreeOk_n3_l (x779 : List Int) (x793 : Int) (x860 : Int) (x861 : Int) : Link spec_TreeOk_ctx LL (cq [0,0,0,1,0,1,1,1,1] (bodyOf Tryd.f40)) (aq [0,0,0,1,0,1,1,1,1] spec_TreeOk_an) ⟨mkE 65 0 [(0, dL x779), (3, dI x793), (4, dI x860), (5, dI x861)], []⟩ (spec_TreeOk_n3 x793 x860 x861) (Sum.elim (fun (t : Unit) => (Exit.normal, ⟨mkE 65 0 [(0, dL x779), (3, dI x793), (4, dI x860), (5, dI x861)], []⟩)) (fun (t : Int) => ((Exit.exit 0), ⟨mkE 65 0 [(4, dI t)], []⟩))) := .of fun K h => by
  simp only [spec_TreeOk_n3, wpW] at h
  exact .of (by kernel_rfl) h

theorem spec_TreeOk_n4_l (x779 : List Int) (x793 : Int) (x860 : Int) (x861 : Int) : Link spec_TreeOk_ctx LL (Code.seq (cq [0,0,0,1,0,0,1,0,1,1,1,1] (bodyOf Tryd.f40)) (Code.seq (cq [0,1,0,0,1,0,0,1,0,1,1,1,1] (bodyOf Tryd.f40)) (cq [0,1,1,0,0,1,0,0,1,0,1,1,1,1] (bodyOf Tryd.f40)))) (Ann.seq (aq [0,0,0,1,0,0,1,0,1,1,1,1] spec_TreeOk_an) (Ann.seq (aq [0,1,0,0,1,0,0,1,0,1,1,1,1] spec_TreeOk_an) (aq [0,1,1,0,0,1,0,0,1,0,1,1,1,1] spec_TreeOk_an))) ⟨mkE 65 0 [(0, dL x779), (3, dI x793), (4, dI x860), (5, dI x861)], []⟩ (spec_TreeOk_n4 x779 x793 x860 x861) (Sum.elim (fun (t : Int × Int) => (Exit.normal, ⟨mkE 65 0 [(0, dL x779), (3, dI x793), (4, dI t.1), (5, dI x861), (6, dI t.2)], []⟩)) (fun (t : Bool) => (Exit.ret, ⟨mkE 65 0 [(2, dB t)], []⟩))) := .of fun K h => by
  simp only [spec_TreeOk_n4, wpW] at h
  exact .of (by kernel_rfl) h

theorem spec_TreeOk_n5_l (x779 : List Int) (x793 : Int) (x889 : Int) (x861 : Int) (x890 : Int) : Link spec_TreeOk_ctx LL (cq [0,0,1,1,1,0,0,1,0,0,1,0,1,1,1,1] (bodyOf Tryd.f40)) (aq [0,0,1,1,1,0,0,1,0,0,1,0,1,1,1,1] spec_TreeOk_an) ⟨mkE 65 0 [(0, dL x779), (3, dI x793), (4, dI x889), (5, dI x861), (6, dI x890)], []⟩ (spec_TreeOk_n5) (fun (t : Unit) => (Exit.normal, ⟨mkE 65 0 [(0, dL x779), (3, dI x793), (4, dI x889), (5, dI x861), (6, dI x890), (7, dI 0)], []⟩)) := .of fun K h => by
  simp only [spec_TreeOk_n5, wpW] at h
  exact .of (by kernel_rfl) h

theorem spec_TreeOk_n6_l (x779 : List Int) (x793 : Int) (x889 : Int) (x861 : Int) (x906 : Int) (x907 : Int) : Link spec_TreeOk_ctx LL (cq [0,0,1,0,1,1,1,0,0,1,0,0,1,0,1,1,1,1] (bodyOf Tryd.f40)) (aq [0,0,1,0,1,1,1,0,0,1,0,0,1,0,1,1,1,1] spec_TreeOk_an) ⟨mkE 65 0 [(0, dL x779), (3, dI x793), (4, dI x889), (5, dI x861), (6, dI x906), (7, dI x907)], []⟩ (spec_TreeOk_n6 x779 x793 x906 x907) (Sum.elim (fun (t : Int × Int) => (Exit.normal, ⟨mkE 65 0 [(0, dL x779), (3, dI x793), (4, dI x889), (5, dI x861), (6, dI t.1), (7, dI t.2)], []⟩)) (Sum.elim (fun (t : Bool) => (Exit.ret, ⟨mkE 65 0 [(2, dB t)], []⟩)) (fun (t : Int) => ((Exit.exit 2), ⟨mkE 65 0 [(0, dL x779), (3, dI x793), (4, dI x889), (5, dI x861), (6, dI t)], []⟩)))) := .of fun K h => by
  simp only [spec_TreeOk_n6, wpW] at h
  exact .of (by kernel_rfl) h

def spec_TreeOk_n7_l (x779 : List Int) (x793 : Int) (x889 : Int) (x861 : Int) (x890 : Int) := (link_loop (mk := fun (s : Int × Int) => ⟨mkE 65 0 [(0, dL x779), (3, dI x793), (4, dI x889), (5, dI x861), (6, dI s.1), (7, dI s.2)], []⟩) (fin := (Sum.elim (fun (t : Bool) => (Exit.ret, ⟨mkE 65 0 [(2, dB t)], []⟩)) (fun (t : Int) => ((Exit.exit 2), ⟨mkE 65 0 [(0, dL x779), (3, dI x793), (4, dI x889), (5, dI x861), (6, dI t)], []⟩)))) (by
  rintro (t | t) f K h
  · exact h
  · exact h) (fun s => link_map (spec_TreeOk_n6_l x779 x793 x889 x861 s.1 s.2) (Sum.elim (fun (t : Int × Int) => Sum.inl (t.1, t.2)) (Sum.elim (fun (t : Bool) => Sum.inr (Sum.inl t)) (fun (t : Int) => Sum.inr (Sum.inr t)))) (by
  rintro (t | t | t)
  · kernel_rfl
  · kernel_rfl
  · kernel_rfl)) (x890, 0))

def spec_TreeOk_n8_l (x779 : List Int) (x793 : Int) (x889 : Int) (x861 : Int) (x890 : Int) := (link_block (fin2 := (Sum.elim (fun (t : Int) => (Exit.normal, ⟨mkE 65 0 [(0, dL x779), (3, dI x793), (4, dI x889), (5, dI x861), (6, dI t)], []⟩)) (fun (t : Bool) => (Exit.ret, ⟨mkE 65 0 [(2, dB t)], []⟩)))) (id := 2) (spec_TreeOk_n7_l x779 x793 x889 x861 x890) (Sum.elim (fun (t : Bool) => (Sum.inr t)) (fun (t : Int) => (Sum.inl t))) (by
  rintro (t | t) K h
  · exact Eq.mp (by kernel_rfl) h
  · exact Eq.mp (by kernel_rfl) h))

def spec_TreeOk_n9_l (x779 : List Int) (x793 : Int) (x889 : Int) (x861 : Int) (x890 : Int) := (link_seq (spec_TreeOk_n5_l x779 x793 x889 x861 x890) (fun (t : Unit) => (spec_TreeOk_n8_l x779 x793 x889 x861 x890)))

theorem spec_TreeOk_n10_l (x779 : List Int) (x793 : Int) (x889 : Int) (x861 : Int) (x906 : Int) : Link spec_TreeOk_ctx LL (cq [1,1,1,1,0,0,1,0,0,1,0,1,1,1,1] (bodyOf Tryd.f40)) (aq [1,1,1,1,0,0,1,0,0,1,0,1,1,1,1] spec_TreeOk_an) ⟨mkE 65 0 [(0, dL x779), (3, dI x793), (4, dI x889), (5, dI x861), (6, dI x906)], []⟩ (spec_TreeOk_n10 x906) (Sum.elim (fun (t : Unit) => (Exit.normal, ⟨mkE 65 0 [(0, dL x779), (3, dI x793), (4, dI x889), (5, dI x861)], []⟩)) (fun (t : Bool) => (Exit.ret, ⟨mkE 65 0 [(2, dB t)], []⟩))) := .of fun K h => by
  simp only [spec_TreeOk_n10, wpW] at h
  exact .of (by kernel_rfl) h

def spec_TreeOk_n11_l (x779 : List Int) (x793 : Int) (x889 : Int) (x861 : Int) (x890 : Int) := (link_seq2 (spec_TreeOk_n9_l x779 x793 x889 x861 x890) (fun (t : Int) => (spec_TreeOk_n10_l x779 x793 x889 x861 t)) (fun (t : Bool) => (Sum.inr t)) (by
  rintro t
  · kernel_rfl) (by
  rintro t f K h
  · exact h))

def spec_TreeOk_n12_l (x779 : List Int) (x793 : Int) (x860 : Int) (x861 : Int) := (link_group (c := (cq [0,1,1,0,0,1,0,0,1,0,1,1,1,1] (bodyOf Tryd.f40))) (a := (aq [0,1,1,0,0,1,0,0,1,0,1,1,1,1] spec_TreeOk_an)) [(cq [0,0,0,1,0,0,1,0,1,1,1,1] (bodyOf Tryd.f40)), (cq [0,1,0,0,1,0,0,1,0,1,1,1,1] (bodyOf Tryd.f40))] [(aq [0,0,0,1,0,0,1,0,1,1,1,1] spec_TreeOk_an), (aq [0,1,0,0,1,0,0,1,0,1,1,1,1] spec_TreeOk_an)] rfl (link_seq2 (spec_TreeOk_n4_l x779 x793 x860 x861) (fun (t : Int × Int) => (link_map (fin2 := (Sum.elim (fun (t : Int) => (Exit.normal, ⟨mkE 65 0 [(0, dL x779), (3, dI x793), (4, dI t), (5, dI x861)], []⟩)) (fun (t : Bool) => (Exit.ret, ⟨mkE 65 0 [(2, dB t)], []⟩)))) (spec_TreeOk_n11_l x779 x793 t.1 x861 t.2) (Sum.elim (fun (u : Unit) => (Sum.inl t.1)) (fun (u : Bool) => (Sum.inr u))) (by
  rintro (t | t)
  · kernel_rfl
  · kernel_rfl))) (fun (t : Bool) => (Sum.inr t)) (by
  rintro t
  · kernel_rfl) (by
  rintro t f K h
  · exact h)))

def spec_TreeOk_n13_l (x779 : List Int) (x793 : Int) (x860 : Int) (x861 : Int) := (link_block (fin2 := (Sum.elim (fun (t : Int) => (Exit.normal, ⟨mkE 65 0 [(0, dL x779), (3, dI x793), (4, dI t), (5, dI x861)], []⟩)) (fun (t : Bool) => (Exit.ret, ⟨mkE 65 0 [(2, dB t)], []⟩)))) (id := 1) (spec_TreeOk_n12_l x779 x793 x860 x861) (Sum.elim (fun (t : Int) => (Sum.inl t)) (fun (t : Bool) => (Sum.inr t))) (by
  rintro (t | t) K h
  · exact Eq.mp (by kernel_rfl) h
  · exact Eq.mp (by kernel_rfl) h))

theorem spec_TreeOk_n14_l (x779 : List Int) (x793 : Int) (x889 : Int) (x861 : Int) : Link spec_TreeOk_ctx LL (cq [1,1,0,0,1,0,1,1,1,1] (bodyOf Tryd.f40)) (aq [1,1,0,0,1,0,1,1,1,1] spec_TreeOk_an) ⟨mkE 65 0 [(0, dL x779), (3, dI x793), (4, dI x889), (5, dI x861)], []⟩ (spec_TreeOk_n14 x861) (fun (t : Int) => (Exit.normal, ⟨mkE 65 0 [(0, dL x779), (3, dI x793), (4, dI x889), (5, dI t)], []⟩)) := .of fun K h => by
  simp only [spec_TreeOk_n14, wpW] at h
  exact .of (by kernel_rfl) h

def spec_TreeOk_n15_l (x779 : List Int) (x793 : Int) (x860 : Int) (x861 : Int) := (link_seq2 (spec_TreeOk_n13_l x779 x793 x860 x861) (fun (t : Int) => (link_map (fin2 := (Sum.elim (fun (t : Int × Int) => (Exit.normal, ⟨mkE 65 0 [(0, dL x779), (3, dI x793), (4, dI t.1), (5, dI t.2)], []⟩)) (fun (t : Bool) => (Exit.ret, ⟨mkE 65 0 [(2, dB t)], []⟩)))) (spec_TreeOk_n14_l x779 x793 t x861) (fun (u : Int) => (Sum.inl (t, u))) (by
  rintro t
  · kernel_rfl))) (fun (t : Bool) => (Sum.inr t)) (by
  rintro t
  · kernel_rfl) (by
  rintro t f K h
  · exact h))

def spec_TreeOk_n16_l (x779 : List Int) (x793 : Int) (x860 : Int) (x861 : Int) := (link_seq2 (spec_TreeOk_n3_l x779 x793 x860 x861) (fun (t : Unit) => (link_map (fin2 := (Sum.elim (fun (t : Int × Int) => (Exit.normal, ⟨mkE 65 0 [(0, dL x779), (3, dI x793), (4, dI t.1), (5, dI t.2)], []⟩)) (Sum.elim (fun (t : Bool) => (Exit.ret, ⟨mkE 65 0 [(2, dB t)], []⟩)) (fun (t : Int) => ((Exit.exit 0), ⟨mkE 65 0 [(4, dI t)], []⟩))))) (spec_TreeOk_n15_l x779 x793 x860 x861) (Sum.elim (fun (t : Int × Int) => (Sum.inl (t.1, t.2))) (fun (t : Bool) => (Sum.inr (Sum.inl t)))) (by
  rintro (t | t)
  · kernel_rfl
  · kernel_rfl))) (fun (t : Int) => (Sum.inr (Sum.inr t))) (by
  rintro t
  · kernel_rfl) (by
  rintro t f K h
  · exact h))

def spec_TreeOk_n17_l (x779 : List Int) (x793 : Int) := (link_loop (mk := fun (s : Int × Int) => ⟨mkE 65 0 [(0, dL x779), (3, dI x793), (4, dI s.1), (5, dI s.2)], []⟩) (fin := (Sum.elim (fun (t : Bool) => (Exit.ret, ⟨mkE 65 0 [(2, dB t)], []⟩)) (fun (t : Int) => ((Exit.exit 0), ⟨mkE 65 0 [(4, dI t)], []⟩)))) (by
  rintro (t | t) f K h
  · exact h
  · exact h) (fun s => link_map (spec_TreeOk_n16_l x779 x793 s.1 s.2) (Sum.elim (fun (t : Int × Int) => Sum.inl (t.1, t.2)) (Sum.elim (fun (t : Bool) => Sum.inr (Sum.inl t)) (fun (t : Int) => Sum.inr (Sum.inr t)))) (by
  rintro (t | t | t)
  · kernel_rfl
  · kernel_rfl
  · kernel_rfl)) (0, 0))

def spec_TreeOk_n18_l (x779 : List Int) (x793 : Int) := (link_block (fin2 := (Sum.elim (fun (t : Int) => (Exit.normal, ⟨mkE 65 0 [(4, dI t)], []⟩)) (fun (t : Bool) => (Exit.ret, ⟨mkE 65 0 [(2, dB t)], []⟩)))) (id := 0) (spec_TreeOk_n17_l x779 x793) (Sum.elim (fun (t : Bool) => (Sum.inr t)) (fun (t : Int) => (Sum.inl t))) (by
  rintro (t | t) K h
  · exact Eq.mp (by kernel_rfl) h
  · exact Eq.mp (by kernel_rfl) h))

def spec_TreeOk_n19_l (x779 : List Int) (x793 : Int) := (link_seq (spec_TreeOk_n2_l x779 x793) (fun (t : Unit) => (spec_TreeOk_n18_l x779 x793)))

theorem spec_TreeOk_n20_l (x860 : Int) : Link spec_TreeOk_ctx LL (cq [1,1,1,1,1] (bodyOf Tryd.f40)) (aq [1,1,1,1,1] spec_TreeOk_an) ⟨mkE 65 0 [(4, dI x860)], []⟩ (spec_TreeOk_n20 x860) (fun (t : Bool) => (Exit.ret, ⟨mkE 65 0 [(2, dB t)], []⟩)) := .of fun K h => by
  simp only [spec_TreeOk_n20, wpW] at h
  exact .of (by kernel_rfl) h

def spec_TreeOk_n21_l (x779 : List Int) (x793 : Int) := (link_seq2 (spec_TreeOk_n19_l x779 x793) (fun (t : Int) => (spec_TreeOk_n20_l t)) (fun (t : Bool) => t) (by
  rintro t
  · kernel_rfl) (by
  rintro t f K h
  · exact h))

def spec_TreeOk_n22_l (x779 : List Int) := (link_group (c := (cq [0,1,1,1] (bodyOf Tryd.f40))) (a := (aq [0,1,1,1] spec_TreeOk_an)) [(cq [0] (bodyOf Tryd.f40)), (cq [0,1] (bodyOf Tryd.f40)), (cq [0,1,1] (bodyOf Tryd.f40))] [(aq [0] spec_TreeOk_an), (aq [0,1] spec_TreeOk_an), (aq [0,1,1] spec_TreeOk_an)] rfl (link_seq2 (spec_TreeOk_n1_l x779) (fun (t : Int) => (spec_TreeOk_n21_l x779 t)) (fun (t : Bool) => t) (by
  rintro t
  · kernel_rfl) (by
  rintro t f K h
  · exact h)))

theorem spec_TreeOk_e (x779 : List Int) {r : AV} {H' : Heap} (h : (Ans.mk _ (spec_TreeOk x779) (fun (t : Bool) => (dB t, [])) [] none).run = some (r, H')) : Awp spec_TreeOk_ctx LL (bodyOf Tryd.f40) spec_TreeOk_an ⟨mkE 65 0 [(0, dL x779)], []⟩ (Ret (tlook tys) Tryd.f40.results.toList r H') :=
  ret_of' (Link.cast (by kernel_rfl) (by kernel_rfl) (spec_TreeOk_n22_l x779)) (by unfold spec_TreeOk; kernel_rfl) (by
  intro t
  exact ret_mk [dB t] (by kernel_rfl) (by kernel_rfl) (by kernel_rfl) (by kernel_rfl)) h

def F_spec_TreeOk : Fun := fun avs H =>
  match avs, H with
  | [.dat (.list (.int .i64)) x779], [] => ⟨_, spec_TreeOk x779, fun (t : Bool) => (dB t, []), [], none⟩
  | _, _ => Ans.no

theorem spec_TreeOk_sound : Sound Tryd.prog 40 F_spec_TreeOk := by
  refine fn_sound' (C := spec_TreeOk_ctx) (c := bodyOf Tryd.f40) (cok_of tys_ok (allc spec_l1In_sound alln) (allc Tryd.call24 alln) (by kernel_rfl)) Tryd.func40 (by kernel_rfl) LL spec_TreeOk_an ?_
  intro avs H r H' h
  unfold F_spec_TreeOk at h
  split at h
  · refine Awp.cast ?_ ?_ ?_ (spec_TreeOk_e _ h) <;> kernel_rfl
  · simp [Ans.no, Ans.run] at h


/-! loop.example/headtrees/spec.OrderOk -/

def spec_OrderOk_an : Ann := (.seq (.leaf [0, 1]) (.seq (.seq (.leaf [0, 1, 5]) (.block (.loop (.seq (.seq (.leaf [0, 1, 5, 10]) (.cond (.leaf [0, 1, 5]) (.leaf [0, 1]))) (.seq (.block (.seq (.seq (.leaf [0, 1, 5, 19]) (.cond (.seq (.leaf [4]) (.leaf [4])) (.leaf [0, 1, 5]))) (.seq (.leaf [0, 1, 5, 6]) (.block (.loop (.seq (.seq (.leaf [0, 1, 5, 6, 22]) (.cond (.leaf [0, 1, 5, 6]) (.leaf [0, 1, 5]))) (.seq (.block (.seq (.draw [] [0, 1, 2, 3, 4, 5, 6, 7, 8] [] [0, 1, 5, 6, 33]) (.cond (.seq (.leaf [4]) (.leaf [4])) (.leaf [0, 1, 5, 6])))) (.leaf [0, 1, 5, 6])))))))) (.leaf [0, 1, 5])))))) (.seq (.leaf [4]) (.leaf [4]))))

noncomputable def spec_OrderOk_ctx : Ctx := ⟨tlook tys, olook [(24, F_spec_l1In)], ioF, 0, false, []⟩

theorem spec_OrderOk_n1_l (x939 : List Int) (x940 : Int) : Link spec_OrderOk_ctx LL (cq [0] (bodyOf Tryd.f54)) (aq [0] spec_OrderOk_an) ⟨mkE 42 0 [(0, dL x939), (1, dI x940)], []⟩ (spec_OrderOk_n1) (fun (t : Unit) => (Exit.normal, ⟨mkE 42 0 [(0, dL x939), (1, dI x940)], []⟩)) := .of fun K h => by
  simp only [spec_OrderOk_n1, wpW] at h
  exact .of (by kernel_rfl) h

theorem spec_OrderOk_n2_l (x939 : List Int) (x940 : Int) : Link spec_OrderOk_ctx LL (cq [0,0,1] (bodyOf Tryd.f54)) (aq [0,0,1] spec_OrderOk_an) ⟨mkE 42 0 [(0, dL x939), (1, dI x940)], []⟩ (spec_OrderOk_n2) (fun (t : Unit) => (Exit.normal, ⟨mkE 42 0 [(0, dL x939), (1, dI x940), (5, dI 0)], []⟩)) := .of fun K h => by
  simp only [spec_OrderOk_n2, wpW] at h
  exact .of (by kernel_rfl) h

theorem spec_OrderOk_n3_l (x939 : List Int) (x940 : Int) (x971 : Int) : Link spec_OrderOk_ctx LL (cq [0,0,0,1,0,1] (bodyOf Tryd.f54)) (aq [0,0,0,1,0,1] spec_OrderOk_an) ⟨mkE 42 0 [(0, dL x939), (1, dI x940), (5, dI x971)], []⟩ (spec_OrderOk_n3 x939 x971) (Sum.elim (fun (t : Unit) => (Exit.normal, ⟨mkE 42 0 [(0, dL x939), (1, dI x940), (5, dI x971)], []⟩)) (fun (t : Unit) => ((Exit.exit 0), ⟨mkE 42 0 [(0, dL x939), (1, dI x940)], []⟩))) := .of fun K h => by
  simp only [spec_OrderOk_n3, wpW] at h
  exact .of (by kernel_rfl) h

theorem spec_OrderOk_n4_l (x939 : List Int) (x940 : Int) (x971 : Int) : Link spec_OrderOk_ctx LL (Code.seq (cq [0,0,0,1,0,0,1,0,1] (bodyOf Tryd.f54)) (cq [0,1,0,0,1,0,0,1,0,1] (bodyOf Tryd.f54))) (Ann.seq (aq [0,0,0,1,0,0,1,0,1] spec_OrderOk_an) (aq [0,1,0,0,1,0,0,1,0,1] spec_OrderOk_an)) ⟨mkE 42 0 [(0, dL x939), (1, dI x940), (5, dI x971)], []⟩ (spec_OrderOk_n4 x939 x940 x971) (Sum.elim (fun (t : Unit) => (Exit.normal, ⟨mkE 42 0 [(0, dL x939), (1, dI x940), (5, dI x971), (6, dI 0)], []⟩)) (fun (t : Bool) => (Exit.ret, ⟨mkE 42 0 [(4, dB t)], []⟩))) := .of fun K h => by
  simp only [spec_OrderOk_n4, wpW] at h
  exact .of (by kernel_rfl) h

theorem spec_OrderOk_n5_l (x939 : List Int) (x940 : Int) (x971 : Int) (x990 : Int) : Link spec_OrderOk_ctx LL (cq [0,0,1,1,0,0,1,0,0,1,0,1] (bodyOf Tryd.f54)) (aq [0,0,1,1,0,0,1,0,0,1,0,1] spec_OrderOk_an) ⟨mkE 42 0 [(0, dL x939), (1, dI x940), (5, dI x971), (6, dI x990)], []⟩ (spec_OrderOk_n5 x939 x971 x990) (Sum.elim (fun (t : Int) => (Exit.normal, ⟨mkE 42 0 [(0, dL x939), (1, dI x940), (5, dI x971), (6, dI t)], []⟩)) (Sum.elim (fun (t : Bool) => (Exit.ret, ⟨mkE 42 0 [(4, dB t)], []⟩)) (fun (t : Unit) => ((Exit.exit 2), ⟨mkE 42 0 [(0, dL x939), (1, dI x940), (5, dI x971)], []⟩)))) := .of fun K h => by
  simp only [spec_OrderOk_n5, wpW] at h
  exact .of (by kernel_rfl) h

def spec_OrderOk_n6_l (x939 : List Int) (x940 : Int) (x971 : Int) := (link_loop (mk := fun (s : Int) => ⟨mkE 42 0 [(0, dL x939), (1, dI x940), (5, dI x971), (6, dI s)], []⟩) (fin := (Sum.elim (fun (t : Bool) => (Exit.ret, ⟨mkE 42 0 [(4, dB t)], []⟩)) (fun (t : Unit) => ((Exit.exit 2), ⟨mkE 42 0 [(0, dL x939), (1, dI x940), (5, dI x971)], []⟩)))) (by
  rintro (t | t) f K h
  · exact h
  · exact h) (fun s => link_map (spec_OrderOk_n5_l x939 x940 x971 s) (Sum.elim (fun (t : Int) => Sum.inl t) (Sum.elim (fun (t : Bool) => Sum.inr (Sum.inl t)) (fun (t : Unit) => Sum.inr (Sum.inr t)))) (by
  rintro (t | t | t)
  · kernel_rfl
  · kernel_rfl
  · kernel_rfl)) 0)

def spec_OrderOk_n7_l (x939 : List Int) (x940 : Int) (x971 : Int) := (link_block (fin2 := (Sum.elim (fun (t : Unit) => (Exit.normal, ⟨mkE 42 0 [(0, dL x939), (1, dI x940), (5, dI x971)], []⟩)) (fun (t : Bool) => (Exit.ret, ⟨mkE 42 0 [(4, dB t)], []⟩)))) (id := 2) (spec_OrderOk_n6_l x939 x940 x971) (Sum.elim (fun (t : Bool) => (Sum.inr t)) (fun (t : Unit) => (Sum.inl ()))) (by
  rintro (t | t) K h
  · exact Eq.mp (by kernel_rfl) h
  · exact Eq.mp (by kernel_rfl) h))

def spec_OrderOk_n8_l (x939 : List Int) (x940 : Int) (x971 : Int) := (link_group (c := (cq [0,1,0,0,1,0,0,1,0,1] (bodyOf Tryd.f54))) (a := (aq [0,1,0,0,1,0,0,1,0,1] spec_OrderOk_an)) [(cq [0,0,0,1,0,0,1,0,1] (bodyOf Tryd.f54))] [(aq [0,0,0,1,0,0,1,0,1] spec_OrderOk_an)] rfl (link_seq2 (spec_OrderOk_n4_l x939 x940 x971) (fun (t : Unit) => (spec_OrderOk_n7_l x939 x940 x971)) (fun (t : Bool) => (Sum.inr t)) (by
  rintro t
  · kernel_rfl) (by
  rintro t f K h
  · exact h)))

def spec_OrderOk_n9_l (x939 : List Int) (x940 : Int) (x971 : Int) := (link_block (fin2 := (Sum.elim (fun (t : Unit) => (Exit.normal, ⟨mkE 42 0 [(0, dL x939), (1, dI x940), (5, dI x971)], []⟩)) (fun (t : Bool) => (Exit.ret, ⟨mkE 42 0 [(4, dB t)], []⟩)))) (id := 1) (spec_OrderOk_n8_l x939 x940 x971) (Sum.elim (fun (t : Unit) => (Sum.inl ())) (fun (t : Bool) => (Sum.inr t))) (by
  rintro (t | t) K h
  · exact Eq.mp (by kernel_rfl) h
  · exact Eq.mp (by kernel_rfl) h))

theorem spec_OrderOk_n10_l (x939 : List Int) (x940 : Int) (x971 : Int) : Link spec_OrderOk_ctx LL (cq [1,1,0,0,1,0,1] (bodyOf Tryd.f54)) (aq [1,1,0,0,1,0,1] spec_OrderOk_an) ⟨mkE 42 0 [(0, dL x939), (1, dI x940), (5, dI x971)], []⟩ (spec_OrderOk_n10 x971) (fun (t : Int) => (Exit.normal, ⟨mkE 42 0 [(0, dL x939), (1, dI x940), (5, dI t)], []⟩)) := .of fun K h => by
  simp only [spec_OrderOk_n10, wpW] at h
  exact .of (by kernel_rfl) h

def spec_OrderOk_n11_l (x939 : List Int) (x940 : Int) (x971 : Int) := (link_seq2 (spec_OrderOk_n9_l x939 x940 x971) (fun (t : Unit) => (link_map (fin2 := (Sum.elim (fun (t : Int) => (Exit.normal, ⟨mkE 42 0 [(0, dL x939), (1, dI x940), (5, dI t)], []⟩)) (fun (t : Bool) => (Exit.ret, ⟨mkE 42 0 [(4, dB t)], []⟩)))) (spec_OrderOk_n10_l x939 x940 x971) (fun (t : Int) => (Sum.inl t)) (by
  rintro t
  · kernel_rfl))) (fun (t : Bool) => (Sum.inr t)) (by
  rintro t
  · kernel_rfl) (by
  rintro t f K h
  · exact h))

def spec_OrderOk_n12_l (x939 : List Int) (x940 : Int) (x971 : Int) := (link_seq2 (spec_OrderOk_n3_l x939 x940 x971) (fun (t : Unit) => (link_map (fin2 := (Sum.elim (fun (t : Int) => (Exit.normal, ⟨mkE 42 0 [(0, dL x939), (1, dI x940), (5, dI t)], []⟩)) (Sum.elim (fun (t : Bool) => (Exit.ret, ⟨mkE 42 0 [(4, dB t)], []⟩)) (fun (t : Unit) => ((Exit.exit 0), ⟨mkE 42 0 [(0, dL x939), (1, dI x940)], []⟩))))) (spec_OrderOk_n11_l x939 x940 x971) (Sum.elim (fun (t : Int) => (Sum.inl t)) (fun (t : Bool) => (Sum.inr (Sum.inl t)))) (by
  rintro (t | t)
  · kernel_rfl
  · kernel_rfl))) (fun (t : Unit) => (Sum.inr (Sum.inr t))) (by
  rintro t
  · kernel_rfl) (by
  rintro t f K h
  · exact h))

def spec_OrderOk_n13_l (x939 : List Int) (x940 : Int) := (link_loop (mk := fun (s : Int) => ⟨mkE 42 0 [(0, dL x939), (1, dI x940), (5, dI s)], []⟩) (fin := (Sum.elim (fun (t : Bool) => (Exit.ret, ⟨mkE 42 0 [(4, dB t)], []⟩)) (fun (t : Unit) => ((Exit.exit 0), ⟨mkE 42 0 [(0, dL x939), (1, dI x940)], []⟩)))) (by
  rintro (t | t) f K h
  · exact h
  · exact h) (fun s => link_map (spec_OrderOk_n12_l x939 x940 s) (Sum.elim (fun (t : Int) => Sum.inl t) (Sum.elim (fun (t : Bool) => Sum.inr (Sum.inl t)) (fun (t : Unit) => Sum.inr (Sum.inr t)))) (by
  rintro (t | t | t)
  · kernel_rfl
  · kernel_rfl
  · kernel_rfl)) 0)

def spec_OrderOk_n14_l (x939 : List Int) (x940 : Int) := (link_block (fin2 := (Sum.elim (fun (t : Unit) => (Exit.normal, ⟨mkE 42 0 [(0, dL x939), (1, dI x940)], []⟩)) (fun (t : Bool) => (Exit.ret, ⟨mkE 42 0 [(4, dB t)], []⟩)))) (id := 0) (spec_OrderOk_n13_l x939 x940) (Sum.elim (fun (t : Bool) => (Sum.inr t)) (fun (t : Unit) => (Sum.inl ()))) (by
  rintro (t | t) K h
  · exact Eq.mp (by kernel_rfl) h
  · exact Eq.mp (by kernel_rfl) h))

def spec_OrderOk_n15_l (x939 : List Int) (x940 : Int) := (link_seq (spec_OrderOk_n2_l x939 x940) (fun (t : Unit) => (spec_OrderOk_n14_l x939 x940)))

theorem spec_OrderOk_n16_l (x939 : List Int) (x940 : Int) : Link spec_OrderOk_ctx LL (cq [1,1] (bodyOf Tryd.f54)) (aq [1,1] spec_OrderOk_an) ⟨mkE 42 0 [(0, dL x939), (1, dI x940)], []⟩ (spec_OrderOk_n16 x939 x940) (fun (t : Bool) => (Exit.ret, ⟨mkE 42 0 [(4, dB t)], []⟩)) := .of fun K h => by
  simp only [spec_OrderOk_n16, wpW] at h
  exact .of (by kernel_rfl) h

def spec_OrderOk_n17_l (x939 : List Int) (x940 : Int) := (link_seq2 (spec_OrderOk_n15_l x939 x940) (fun (t : Unit) => (spec_OrderOk_n16_l x939 x940)) (fun (t : Bool) => t) (by
  rintro t
  · kernel_rfl) (by
  rintro t f K h
  · exact h))

def spec_OrderOk_n18_l (x939 : List Int) (x940 : Int) := (link_seq (spec_OrderOk_n1_l x939 x940) (fun (t : Unit) => (spec_OrderOk_n17_l x939 x940)))

theorem spec_OrderOk_e (x939 : List Int) (x940 : Int) {r : AV} {H' : Heap} (h : (Ans.mk _ (spec_OrderOk x939 x940) (fun (t : Bool) => (dB t, [])) [] none).run = some (r, H')) : Awp spec_OrderOk_ctx LL (bodyOf Tryd.f54) spec_OrderOk_an ⟨mkE 42 0 [(0, dL x939), (1, dI x940)], []⟩ (Ret (tlook tys) Tryd.f54.results.toList r H') :=
  ret_of' (Link.cast (by kernel_rfl) (by kernel_rfl) (spec_OrderOk_n18_l x939 x940)) (by unfold spec_OrderOk; kernel_rfl) (by
  intro t
  exact ret_mk [dB t] (by kernel_rfl) (by kernel_rfl) (by kernel_rfl) (by kernel_rfl)) h

def F_spec_OrderOk : Fun := fun avs H =>
  match avs, H with
  | [.dat (.list (.int .i64)) x939, .dat (.int .i64) x940], [] => ⟨_, spec_OrderOk x939 x940, fun (t : Bool) => (dB t, []), [], none⟩
  | _, _ => Ans.no

theorem spec_OrderOk_sound : Sound Tryd.prog 54 F_spec_OrderOk := by
  refine fn_sound' (C := spec_OrderOk_ctx) (c := bodyOf Tryd.f54) (cok_of tys_ok (allc spec_l1In_sound alln) (allc Tryd.call24 alln) (by kernel_rfl)) Tryd.func54 (by kernel_rfl) LL spec_OrderOk_an ?_
  intro avs H r H' h
  unfold F_spec_OrderOk at h
  split at h
  · refine Awp.cast ?_ ?_ ?_ (spec_OrderOk_e _ _ h) <;> kernel_rfl
  · simp [Ans.no, Ans.run] at h


/-! loop.example/headtrees/spec.PutInOrder -/

def spec_PutInOrder_an : Ann := (.seq (.leaf [0, 1]) (.seq (.seq (.leaf [0, 1, 19]) (.cond (.seq (.leaf [4, 5]) (.leaf [4, 5])) (.leaf [0, 1]))) (.seq (.leaf [0, 1, 6]) (.seq (.seq (.leaf [0, 1, 6, 7]) (.block (.loop (.seq (.seq (.leaf [0, 1, 6, 7, 28]) (.cond (.leaf [0, 1, 6, 7]) (.leaf [0, 1, 6]))) (.seq (.block (.leaf [0, 1, 6, 7])) (.leaf [0, 1, 6, 7])))))) (.seq (.leaf [0, 1, 6, 8]) (.seq (.seq (.leaf [0, 1, 6, 8, 9]) (.block (.loop (.seq (.seq (.leaf [0, 1, 6, 8, 9, 43]) (.cond (.leaf [0, 1, 6, 8, 9]) (.leaf [8]))) (.seq (.block (.leaf [0, 1, 6, 8, 9])) (.leaf [0, 1, 6, 8, 9])))))) (.seq (.leaf [4, 5]) (.leaf [4, 5]))))))))

noncomputable def spec_PutInOrder_ctx : Ctx := ⟨tlook tys, olook [(40, F_spec_TreeOk), (54, F_spec_OrderOk)], ioF, 0, false, []⟩

theorem spec_PutInOrder_n1_l (x934 : List Int) (x935 : List Int) : Link spec_PutInOrder_ctx LL (Code.seq (cq [0] (bodyOf Tryd.f41)) (Code.seq (cq [0,1] (bodyOf Tryd.f41)) (cq [0,1,1] (bodyOf Tryd.f41)))) (Ann.seq (aq [0] spec_PutInOrder_an) (Ann.seq (aq [0,1] spec_PutInOrder_an) (aq [0,1,1] spec_PutInOrder_an))) ⟨mkE 61 0 [(0, dL x934), (1, dL x935)], []⟩ (spec_PutInOrder_n1 x934 x935) (Sum.elim (fun (t : (List Int)) => (Exit.normal, ⟨mkE 61 0 [(0, dL x934), (1, dL x935), (6, .slc 0)], [some (sI t)]⟩)) (fun (t : Bool × (List Int)) => (Exit.ret, ⟨mkE 61 0 [(4, .slc 0), (5, dB t.1)], [some (sI t.2)]⟩))) := .of fun K h => by
  simp only [spec_PutInOrder_n1, wpW] at h
  exact .of (by kernel_rfl) h

theorem spec_PutInOrder_n2_l (x934 : List Int) (x935 : List Int) (x1019 : List Int) : Link spec_PutInOrder_ctx LL (cq [0,0,1,1,1] (bodyOf Tryd.f41)) (aq [0,0,1,1,1] spec_PutInOrder_an) ⟨mkE 61 0 [(0, dL x934), (1, dL x935), (6, .slc 0)], [some (sI x1019)]⟩ (spec_PutInOrder_n2) (fun (t : Unit) => (Exit.normal, ⟨mkE 61 0 [(0, dL x934), (1, dL x935), (6, .slc 0), (7, dI 0)], [some (sI x1019)]⟩)) := .of fun K h => by
  simp only [spec_PutInOrder_n2, wpW] at h
  exact .of (by kernel_rfl) h

theorem spec_PutInOrder_n3_l (x934 : List Int) (x935 : List Int) (x1035 : Int) (x1036 : List Int) : Link spec_PutInOrder_ctx LL (cq [0,0,1,0,1,1,1] (bodyOf Tryd.f41)) (aq [0,0,1,0,1,1,1] spec_PutInOrder_an) ⟨mkE 61 0 [(0, dL x934), (1, dL x935), (6, .slc 0), (7, dI x1035)], [some (sI x1036)]⟩ (spec_PutInOrder_n3 x935 x1035 x1036) (Sum.elim (fun (t : Int × (List Int)) => (Exit.normal, ⟨mkE 61 0 [(0, dL x934), (1, dL x935), (6, .slc 0), (7, dI t.1)], [some (sI t.2)]⟩)) (fun (t : (List Int)) => ((Exit.exit 0), ⟨mkE 61 0 [(0, dL x934), (1, dL x935), (6, .slc 0)], [some (sI t)]⟩))) := .of fun K h => by
  simp only [spec_PutInOrder_n3, wpW] at h
  exact .of (by kernel_rfl) h

def spec_PutInOrder_n4_l (x934 : List Int) (x935 : List Int) (x1019 : List Int) := (link_loop (mk := fun (s : Int × (List Int)) => ⟨mkE 61 0 [(0, dL x934), (1, dL x935), (6, .slc 0), (7, dI s.1)], [some (sI s.2)]⟩) (fin := (fun (t : (List Int)) => ((Exit.exit 0), ⟨mkE 61 0 [(0, dL x934), (1, dL x935), (6, .slc 0)], [some (sI t)]⟩))) (by
  rintro t f K h
  · exact h) (fun s => link_map (spec_PutInOrder_n3_l x934 x935 s.1 s.2) (Sum.elim (fun (t : Int × (List Int)) => Sum.inl (t.1, t.2)) (fun (t : (List Int)) => Sum.inr t)) (by
  rintro (t | t)
  · kernel_rfl
  · kernel_rfl)) (0, x1019))

def spec_PutInOrder_n5_l (x934 : List Int) (x935 : List Int) (x1019 : List Int) := (link_block (fin2 := (fun (t : (List Int)) => (Exit.normal, ⟨mkE 61 0 [(0, dL x934), (1, dL x935), (6, .slc 0)], [some (sI t)]⟩))) (id := 0) (spec_PutInOrder_n4_l x934 x935 x1019) (fun (t : (List Int)) => t) (by
  rintro t K h
  · exact Eq.mp (by kernel_rfl) h))

def spec_PutInOrder_n6_l (x934 : List Int) (x935 : List Int) (x1019 : List Int) := (link_seq (spec_PutInOrder_n2_l x934 x935 x1019) (fun (t : Unit) => (spec_PutInOrder_n5_l x934 x935 x1019)))

theorem spec_PutInOrder_n7_l (x934 : List Int) (x935 : List Int) (x1036 : List Int) : Link spec_PutInOrder_ctx LL (cq [0,1,1,1,1] (bodyOf Tryd.f41)) (aq [0,1,1,1,1] spec_PutInOrder_an) ⟨mkE 61 0 [(0, dL x934), (1, dL x935), (6, .slc 0)], [some (sI x1036)]⟩ (spec_PutInOrder_n7) (fun (t : Unit) => (Exit.normal, ⟨mkE 61 0 [(0, dL x934), (1, dL x935), (6, .slc 0), (8, .slc 1)], [some (sI x1036), some (sI ([] : List Int))]⟩)) := .of fun K h => by
  simp only [spec_PutInOrder_n7, wpW] at h
  exact .of (by kernel_rfl) h

theorem spec_PutInOrder_n8_l (x934 : List Int) (x935 : List Int) (x1036 : List Int) : Link spec_PutInOrder_ctx LL (cq [0,0,1,1,1,1,1] (bodyOf Tryd.f41)) (aq [0,0,1,1,1,1,1] spec_PutInOrder_an) ⟨mkE 61 0 [(0, dL x934), (1, dL x935), (6, .slc 0), (8, .slc 1)], [some (sI x1036), some (sI ([] : List Int))]⟩ (spec_PutInOrder_n8) (fun (t : Unit) => (Exit.normal, ⟨mkE 61 0 [(0, dL x934), (1, dL x935), (6, .slc 0), (8, .slc 1), (9, dI 0)], [some (sI x1036), some (sI ([] : List Int))]⟩)) := .of fun K h => by
  simp only [spec_PutInOrder_n8, wpW] at h
  exact .of (by kernel_rfl) h

theorem spec_PutInOrder_n9_l (x934 : List Int) (x935 : List Int) (x1077 : Int) (x1036 : List Int) (x1078 : List Int) : Link spec_PutInOrder_ctx LL (cq [0,0,1,0,1,1,1,1,1] (bodyOf Tryd.f41)) (aq [0,0,1,0,1,1,1,1,1] spec_PutInOrder_an) ⟨mkE 61 0 [(0, dL x934), (1, dL x935), (6, .slc 0), (8, .slc 1), (9, dI x1077)], [some (sI x1036), some (sI x1078)]⟩ (spec_PutInOrder_n9 x934 x935 x1077 x1036 x1078) (Sum.elim (fun (t : Int × (List Int)) => (Exit.normal, ⟨mkE 61 0 [(0, dL x934), (1, dL x935), (6, .slc 0), (8, .slc 1), (9, dI t.1)], [some (sI x1036), some (sI t.2)]⟩)) (fun (t : (List Int)) => ((Exit.exit 2), ⟨mkE 61 0 [(8, .slc 0)], [some (sI t)]⟩))) := .of fun K h => by
  simp only [spec_PutInOrder_n9, wpW] at h
  exact .of (by kernel_rfl) h

def spec_PutInOrder_n10_l (x934 : List Int) (x935 : List Int) (x1036 : List Int) := (link_loop (mk := fun (s : Int × (List Int)) => ⟨mkE 61 0 [(0, dL x934), (1, dL x935), (6, .slc 0), (8, .slc 1), (9, dI s.1)], [some (sI x1036), some (sI s.2)]⟩) (fin := (fun (t : (List Int)) => ((Exit.exit 2), ⟨mkE 61 0 [(8, .slc 0)], [some (sI t)]⟩))) (by
  rintro t f K h
  · exact h) (fun s => link_map (spec_PutInOrder_n9_l x934 x935 s.1 x1036 s.2) (Sum.elim (fun (t : Int × (List Int)) => Sum.inl (t.1, t.2)) (fun (t : (List Int)) => Sum.inr t)) (by
  rintro (t | t)
  · kernel_rfl
  · kernel_rfl)) (0, ([] : List Int)))

def spec_PutInOrder_n11_l (x934 : List Int) (x935 : List Int) (x1036 : List Int) := (link_block (fin2 := (fun (t : (List Int)) => (Exit.normal, ⟨mkE 61 0 [(8, .slc 0)], [some (sI t)]⟩))) (id := 2) (spec_PutInOrder_n10_l x934 x935 x1036) (fun (t : (List Int)) => t) (by
  rintro t K h
  · exact Eq.mp (by kernel_rfl) h))

def spec_PutInOrder_n12_l (x934 : List Int) (x935 : List Int) (x1036 : List Int) := (link_seq (spec_PutInOrder_n8_l x934 x935 x1036) (fun (t : Unit) => (spec_PutInOrder_n11_l x934 x935 x1036)))

theorem spec_PutInOrder_n13_l (x1078 : List Int) : Link spec_PutInOrder_ctx LL (cq [1,1,1,1,1,1] (bodyOf Tryd.f41)) (aq [1,1,1,1,1,1] spec_PutInOrder_an) ⟨mkE 61 0 [(8, .slc 0)], [some (sI x1078)]⟩ (spec_PutInOrder_n13 x1078) (fun (t : Bool × (List Int)) => (Exit.ret, ⟨mkE 61 0 [(4, .slc 0), (5, dB t.1)], [some (sI t.2)]⟩)) := .of fun K h => by
  simp only [spec_PutInOrder_n13, wpW] at h
  exact .of (by kernel_rfl) h

def spec_PutInOrder_n14_l (x934 : List Int) (x935 : List Int) (x1036 : List Int) := (link_seq (spec_PutInOrder_n12_l x934 x935 x1036) (fun (t : (List Int)) => (spec_PutInOrder_n13_l t)))

def spec_PutInOrder_n15_l (x934 : List Int) (x935 : List Int) (x1036 : List Int) := (link_seq (spec_PutInOrder_n7_l x934 x935 x1036) (fun (t : Unit) => (spec_PutInOrder_n14_l x934 x935 x1036)))

def spec_PutInOrder_n16_l (x934 : List Int) (x935 : List Int) (x1019 : List Int) := (link_seq (spec_PutInOrder_n6_l x934 x935 x1019) (fun (t : (List Int)) => (spec_PutInOrder_n15_l x934 x935 t)))

def spec_PutInOrder_n17_l (x934 : List Int) (x935 : List Int) := (link_group (c := (cq [0,1,1] (bodyOf Tryd.f41))) (a := (aq [0,1,1] spec_PutInOrder_an)) [(cq [0] (bodyOf Tryd.f41)), (cq [0,1] (bodyOf Tryd.f41))] [(aq [0] spec_PutInOrder_an), (aq [0,1] spec_PutInOrder_an)] rfl (link_seq2 (spec_PutInOrder_n1_l x934 x935) (fun (t : (List Int)) => (spec_PutInOrder_n16_l x934 x935 t)) (fun (t : Bool × (List Int)) => t) (by
  rintro t
  · kernel_rfl) (by
  rintro t f K h
  · exact h)))

theorem spec_PutInOrder_e (x934 : List Int) (x935 : List Int) {r : AV} {H' : Heap} (h : (Ans.mk _ (spec_PutInOrder x934 x935) (fun (t : Bool × (List Int)) => (.tup [.slc 0, dB t.1], [some (sI t.2)])) [] none).run = some (r, H')) : Awp spec_PutInOrder_ctx LL (bodyOf Tryd.f41) spec_PutInOrder_an ⟨mkE 61 0 [(0, dL x934), (1, dL x935)], []⟩ (Ret (tlook tys) Tryd.f41.results.toList r H') :=
  ret_of' (Link.cast (by kernel_rfl) (by kernel_rfl) (spec_PutInOrder_n17_l x934 x935)) (by unfold spec_PutInOrder; kernel_rfl) (by
  intro t
  exact ret_mk [.slc 0, dB t.1] (by kernel_rfl) (by kernel_rfl) (by kernel_rfl) (by kernel_rfl)) h

def F_spec_PutInOrder : Fun := fun avs H =>
  match avs, H with
  | [.dat (.list (.int .i64)) x934, .dat (.list (.int .i64)) x935], [] => ⟨_, spec_PutInOrder x934 x935, fun (t : Bool × (List Int)) => (.tup [.slc 0, dB t.1], [some (sI t.2)]), [], none⟩
  | _, _ => Ans.no

theorem spec_PutInOrder_sound : Sound Tryd.prog 41 F_spec_PutInOrder := by
  refine fn_sound' (C := spec_PutInOrder_ctx) (c := bodyOf Tryd.f41) (cok_of tys_ok (allc spec_TreeOk_sound (allc spec_OrderOk_sound alln)) (allc Tryd.call40 (allc Tryd.call54 alln)) (by kernel_rfl)) Tryd.func41 (by kernel_rfl) LL spec_PutInOrder_an ?_
  intro avs H r H' h
  unfold F_spec_PutInOrder at h
  split at h
  · refine Awp.cast ?_ ?_ ?_ (spec_PutInOrder_e _ _ h) <;> kernel_rfl
  · simp [Ans.no, Ans.run] at h


/-! loop.example/headtrees/spec.l20Fill -/

def spec_l20Fill_an : Ann := (.seq (.seq (.leaf [0, 1, 2, 3, 4, 16]) (.cond (.leaf []) (.leaf [0, 1, 2, 3, 4]))) (.seq (.leaf [0, 1, 2, 3, 4, 10]) (.seq (.leaf [0, 1, 2, 3, 10]) (.seq (.leaf [0, 1, 3, 10, 11]) (.seq (.block (.loop (.seq (.seq (.leaf [0, 1, 3, 10, 11, 33]) (.cond (.leaf [0, 1, 3, 10, 11]) (.leaf [0, 1, 3, 10]))) (.block (.seq (.leaf [0, 1, 3, 10, 11, 12]) (.seq (.leaf [0, 1, 3, 10, 12]) (.leaf [0, 1, 3, 10, 11]))))))) (.seq (.leaf [0, 1, 3, 10, 11]) (.block (.loop (.seq (.seq (.leaf [0, 1, 3, 10, 11, 53]) (.cond (.leaf [0, 1, 3, 10, 11]) (.leaf []))) (.block (.seq (.leaf [0, 1, 3, 10, 11, 13]) (.seq (.leaf [0, 1, 3, 10, 13]) (.leaf [0, 1, 3, 10, 11])))))))))))))

def F_spec_l20Fill_fuel (n : Nat) : Fun := fun avs H =>
  match avs, H with
  | [.ptr 0 0, .slc 1, .dat (.int .i64) x1175, .dat (.int .i64) x1176, .dat (.int .i64) x1177], [some (.box [.dat (.list (.int .u8)) x1178, .dat (.int .i64) x1179]), some (.seq (.int .i64) x1180)] => ⟨_, spec_l20Fill_fuel n x1175 x1176 x1177 x1178 x1179 x1180, fun (t : Int × (List Int)) => (.tup [], [some (.box [dV x1178, dI t.1]), some (sI t.2)]), [], none⟩
  | _, _ => Ans.no

noncomputable def spec_l20Fill_ctx (n : Nat) : Ctx := ⟨tlook tys, olook [(30, F_spec_l20Rd_pick), (55, F_spec_l20Fill_fuel n)], ioF, 2, false, []⟩

theorem spec_l20Fill_n1_l (n : Nat) (x1175 : Int) (x1176 : Int) (x1177 : Int) (x1178 : List Int) (x1179 : Int) (x1180 : List Int) : Link (spec_l20Fill_ctx n) LL (Code.seq (cq [0] (bodyOf Tryd.f55)) (Code.seq (cq [0,1] (bodyOf Tryd.f55)) (Code.seq (cq [0,1,1] (bodyOf Tryd.f55)) (cq [0,1,1,1] (bodyOf Tryd.f55))))) (Ann.seq (aq [0] spec_l20Fill_an) (Ann.seq (aq [0,1] spec_l20Fill_an) (Ann.seq (aq [0,1,1] spec_l20Fill_an) (aq [0,1,1,1] spec_l20Fill_an)))) ⟨mkE 70 0 [(0, .ptr 0 0), (1, .slc 1), (2, dI x1175), (3, dI x1176), (4, dI x1177)], [some (.box [dV x1178, dI x1179]), some (sI x1180)]⟩ (spec_l20Fill_n1 (spec_l20Fill_fuel n) x1175 x1176 x1177 x1178 x1179 x1180) (Sum.elim (fun (t : Int × Int × (List Int)) => (Exit.normal, ⟨mkE 70 0 [(0, .ptr 0 0), (1, .slc 1), (3, dI x1176), (10, dI t.1), (11, dI x1175)], [some (.box [dV x1178, dI t.2.1]), some (sI t.2.2)]⟩)) (fun (t : Int × (List Int)) => (Exit.ret, ⟨mkE 70 0 [], [some (.box [dV x1178, dI t.1]), some (sI t.2)]⟩))) := .of fun K h => by
  simp only [spec_l20Fill_n1, wpW] at h
  exact .of (by kernel_rfl) h

theorem spec_l20Fill_n2_l (n : Nat) (x1176 : Int) (x1251 : Int) (x1266 : Int) (x1178 : List Int) (x1267 : Int) (x1268 : List Int) : Link (spec_l20Fill_ctx n) LL (cq [0,0,0,1,1,1,1] (bodyOf Tryd.f55)) (aq [0,0,0,1,1,1,1] spec_l20Fill_an) ⟨mkE 70 0 [(0, .ptr 0 0), (1, .slc 1), (3, dI x1176), (10, dI x1251), (11, dI x1266)], [some (.box [dV x1178, dI x1267]), some (sI x1268)]⟩ (spec_l20Fill_n2 (spec_l20Fill_fuel n) x1251 x1266 x1178 x1267 x1268) (Sum.elim (fun (t : Int × Int × (List Int)) => (Exit.normal, ⟨mkE 70 0 [(0, .ptr 0 0), (1, .slc 1), (3, dI x1176), (10, dI x1251), (11, dI t.1)], [some (.box [dV x1178, dI t.2.1]), some (sI t.2.2)]⟩)) (fun (t : Int × (List Int)) => ((Exit.exit 0), ⟨mkE 70 0 [(0, .ptr 0 0), (1, .slc 1), (3, dI x1176), (10, dI x1251)], [some (.box [dV x1178, dI t.1]), some (sI t.2)]⟩))) := .of fun K h => by
  simp only [spec_l20Fill_n2, wpW] at h
  exact .of (by kernel_rfl) h

def spec_l20Fill_n3_l (n : Nat) (x1176 : Int) (x1251 : Int) (x1175 : Int) (x1178 : List Int) (x1250 : Int) (x1254 : List Int) := (link_loop (mk := fun (s : Int × Int × (List Int)) => ⟨mkE 70 0 [(0, .ptr 0 0), (1, .slc 1), (3, dI x1176), (10, dI x1251), (11, dI s.1)], [some (.box [dV x1178, dI s.2.1]), some (sI s.2.2)]⟩) (fin := (fun (t : Int × (List Int)) => ((Exit.exit 0), ⟨mkE 70 0 [(0, .ptr 0 0), (1, .slc 1), (3, dI x1176), (10, dI x1251)], [some (.box [dV x1178, dI t.1]), some (sI t.2)]⟩))) (by
  rintro t f K h
  · exact h) (fun s => link_map (spec_l20Fill_n2_l n x1176 x1251 s.1 x1178 s.2.1 s.2.2) (Sum.elim (fun (t : Int × Int × (List Int)) => Sum.inl (t.1, t.2.1, t.2.2)) (fun (t : Int × (List Int)) => Sum.inr t)) (by
  rintro (t | t)
  · kernel_rfl
  · kernel_rfl)) (x1175, x1250, x1254))

def spec_l20Fill_n4_l (n : Nat) (x1176 : Int) (x1251 : Int) (x1175 : Int) (x1178 : List Int) (x1250 : Int) (x1254 : List Int) := (link_block (fin2 := (fun (t : Int × (List Int)) => (Exit.normal, ⟨mkE 70 0 [(0, .ptr 0 0), (1, .slc 1), (3, dI x1176), (10, dI x1251)], [some (.box [dV x1178, dI t.1]), some (sI t.2)]⟩))) (id := 0) (spec_l20Fill_n3_l n x1176 x1251 x1175 x1178 x1250 x1254) (fun (t : Int × (List Int)) => (t.1, t.2)) (by
  rintro t K h
  · exact Eq.mp (by kernel_rfl) h))

theorem spec_l20Fill_n5_l (n : Nat) (x1176 : Int) (x1251 : Int) (x1178 : List Int) (x1267 : Int) (x1268 : List Int) : Link (spec_l20Fill_ctx n) LL (cq [0,1,1,1,1,1] (bodyOf Tryd.f55)) (aq [0,1,1,1,1,1] spec_l20Fill_an) ⟨mkE 70 0 [(0, .ptr 0 0), (1, .slc 1), (3, dI x1176), (10, dI x1251)], [some (.box [dV x1178, dI x1267]), some (sI x1268)]⟩ (spec_l20Fill_n5 (spec_l20Fill_fuel n) x1251) (fun (t : Int) => (Exit.normal, ⟨mkE 70 0 [(0, .ptr 0 0), (1, .slc 1), (3, dI x1176), (10, dI x1251), (11, dI t)], [some (.box [dV x1178, dI x1267]), some (sI x1268)]⟩)) := .of fun K h => by
  simp only [spec_l20Fill_n5, wpW] at h
  exact .of (by kernel_rfl) h

theorem spec_l20Fill_n6_l (n : Nat) (x1176 : Int) (x1251 : Int) (x1293 : Int) (x1178 : List Int) (x1294 : Int) (x1295 : List Int) : Link (spec_l20Fill_ctx n) LL (cq [0,0,1,1,1,1,1,1] (bodyOf Tryd.f55)) (aq [0,0,1,1,1,1,1,1] spec_l20Fill_an) ⟨mkE 70 0 [(0, .ptr 0 0), (1, .slc 1), (3, dI x1176), (10, dI x1251), (11, dI x1293)], [some (.box [dV x1178, dI x1294]), some (sI x1295)]⟩ (spec_l20Fill_n6 (spec_l20Fill_fuel n) x1176 x1251 x1293 x1178 x1294 x1295) (Sum.elim (fun (t : Int × Int × (List Int)) => (Exit.normal, ⟨mkE 70 0 [(0, .ptr 0 0), (1, .slc 1), (3, dI x1176), (10, dI x1251), (11, dI t.1)], [some (.box [dV x1178, dI t.2.1]), some (sI t.2.2)]⟩)) (fun (t : Int × (List Int)) => ((Exit.exit 2), ⟨mkE 70 0 [], [some (.box [dV x1178, dI t.1]), some (sI t.2)]⟩))) := .of fun K h => by
  simp only [spec_l20Fill_n6, wpW] at h
  exact .of (by kernel_rfl) h

def spec_l20Fill_n7_l (n : Nat) (x1176 : Int) (x1251 : Int) (x1280 : Int) (x1178 : List Int) (x1267 : Int) (x1268 : List Int) := (link_loop (mk := fun (s : Int × Int × (List Int)) => ⟨mkE 70 0 [(0, .ptr 0 0), (1, .slc 1), (3, dI x1176), (10, dI x1251), (11, dI s.1)], [some (.box [dV x1178, dI s.2.1]), some (sI s.2.2)]⟩) (fin := (fun (t : Int × (List Int)) => ((Exit.exit 2), ⟨mkE 70 0 [], [some (.box [dV x1178, dI t.1]), some (sI t.2)]⟩))) (by
  rintro t f K h
  · exact h) (fun s => link_map (spec_l20Fill_n6_l n x1176 x1251 s.1 x1178 s.2.1 s.2.2) (Sum.elim (fun (t : Int × Int × (List Int)) => Sum.inl (t.1, t.2.1, t.2.2)) (fun (t : Int × (List Int)) => Sum.inr t)) (by
  rintro (t | t)
  · kernel_rfl
  · kernel_rfl)) (x1280, x1267, x1268))

def spec_l20Fill_n8_l (n : Nat) (x1176 : Int) (x1251 : Int) (x1280 : Int) (x1178 : List Int) (x1267 : Int) (x1268 : List Int) := (link_block (fin2 := (fun (t : Int × (List Int)) => (Exit.normal, ⟨mkE 70 0 [], [some (.box [dV x1178, dI t.1]), some (sI t.2)]⟩))) (id := 2) (spec_l20Fill_n7_l n x1176 x1251 x1280 x1178 x1267 x1268) (fun (t : Int × (List Int)) => (t.1, t.2)) (by
  rintro t K h
  · exact Eq.mp (by kernel_rfl) h))

def spec_l20Fill_n9_l (n : Nat) (x1176 : Int) (x1251 : Int) (x1178 : List Int) (x1267 : Int) (x1268 : List Int) := (link_seq (spec_l20Fill_n5_l n x1176 x1251 x1178 x1267 x1268) (fun (t : Int) => (spec_l20Fill_n8_l n x1176 x1251 t x1178 x1267 x1268)))

def spec_l20Fill_n10_l (n : Nat) (x1176 : Int) (x1251 : Int) (x1175 : Int) (x1178 : List Int) (x1250 : Int) (x1254 : List Int) := (link_seq (spec_l20Fill_n4_l n x1176 x1251 x1175 x1178 x1250 x1254) (fun (t : Int × (List Int)) => (spec_l20Fill_n9_l n x1176 x1251 x1178 t.1 t.2)))

def spec_l20Fill_n11_l (n : Nat) (x1175 : Int) (x1176 : Int) (x1177 : Int) (x1178 : List Int) (x1179 : Int) (x1180 : List Int) := (link_group (c := (cq [0,1,1,1] (bodyOf Tryd.f55))) (a := (aq [0,1,1,1] spec_l20Fill_an)) [(cq [0] (bodyOf Tryd.f55)), (cq [0,1] (bodyOf Tryd.f55)), (cq [0,1,1] (bodyOf Tryd.f55))] [(aq [0] spec_l20Fill_an), (aq [0,1] spec_l20Fill_an), (aq [0,1,1] spec_l20Fill_an)] rfl (link_seq2 (spec_l20Fill_n1_l n x1175 x1176 x1177 x1178 x1179 x1180) (fun (t : Int × Int × (List Int)) => (link_map (fin2 := (Sum.elim (fun (t : Int × (List Int)) => (Exit.normal, ⟨mkE 70 0 [], [some (.box [dV x1178, dI t.1]), some (sI t.2)]⟩)) (fun (t : Int × (List Int)) => (Exit.ret, ⟨mkE 70 0 [], [some (.box [dV x1178, dI t.1]), some (sI t.2)]⟩)))) (spec_l20Fill_n10_l n x1176 t.1 x1175 x1178 t.2.1 t.2.2) (fun (u : Int × (List Int)) => (Sum.inl (u.1, u.2))) (by
  rintro t
  · kernel_rfl))) (fun (t : Int × (List Int)) => (Sum.inr t)) (by
  rintro t
  · kernel_rfl) (by
  rintro t f K h
  · exact h)))

theorem spec_l20Fill_e (n : Nat) (x1175 : Int) (x1176 : Int) (x1177 : Int) (x1178 : List Int) (x1179 : Int) (x1180 : List Int) {r : AV} {H' : Heap} (h : (Ans.mk _ (spec_l20Fill_fuel (n + 1) x1175 x1176 x1177 x1178 x1179 x1180) (fun (t : Int × (List Int)) => (.tup [], [some (.box [dV x1178, dI t.1]), some (sI t.2)])) [] none).run = some (r, H')) : Awp (spec_l20Fill_ctx n) LL (bodyOf Tryd.f55) spec_l20Fill_an ⟨mkE 70 0 [(0, .ptr 0 0), (1, .slc 1), (2, dI x1175), (3, dI x1176), (4, dI x1177)], [some (.box [dV x1178, dI x1179]), some (sI x1180)]⟩ (Ret (tlook tys) Tryd.f55.results.toList r H') :=
  ret_of (Link.cast (by kernel_rfl) (by kernel_rfl) (spec_l20Fill_n11_l n x1175 x1176 x1177 x1178 x1179 x1180)) (Sum.elim (fun (t : Int × (List Int)) => (t.1, t.2)) (fun (t : Int × (List Int)) => t)) (by (show _ = _); kernel_rfl) (by
  rintro (t | t)
  · exact ret_mk [] (by kernel_rfl) (by kernel_rfl) (by kernel_rfl) (by kernel_rfl)
  · exact ret_mk [] (by kernel_rfl) (by kernel_rfl) (by kernel_rfl) (by kernel_rfl)) h

theorem spec_l20Fill_step (n : Nat) (h55 : Sound Tryd.prog 55 (F_spec_l20Fill_fuel n)) : Sound Tryd.prog 55 (F_spec_l20Fill_fuel (n + 1)) := by
  refine fn_sound' (C := spec_l20Fill_ctx n) (c := bodyOf Tryd.f55) (cok_of tys_ok (allc spec_l20Rd_pick_sound (allc h55 alln)) (allc Tryd.call30 (allc Tryd.call55 alln)) (by kernel_rfl)) Tryd.func55 (by kernel_rfl) LL spec_l20Fill_an ?_
  intro avs H r H' h
  unfold F_spec_l20Fill_fuel at h
  split at h
  · refine Awp.cast ?_ ?_ ?_ (spec_l20Fill_e n _ _ _ _ _ _ h) <;> kernel_rfl
  · simp [Ans.no, Ans.run] at h

theorem spec_l20Fill_null : Sound Tryd.prog 55 (F_spec_l20Fill_fuel 0) := by
  intro avs H r H' h
  unfold F_spec_l20Fill_fuel at h
  split at h
  · simp [spec_l20Fill_fuel, spec_l20Fill_knot, Ans.run] at h
  · simp [Ans.no, Ans.run] at h

theorem spec_l20Fill_knot_all : ∀ n, Sound Tryd.prog 55 (F_spec_l20Fill_fuel n)
  | 0 => spec_l20Fill_null
  | n + 1 => by
    have h55 := spec_l20Fill_knot_all n
    exact spec_l20Fill_step n h55

def F_spec_l20Fill : Fun := fun avs H =>
  match avs, H with
  | [.ptr 0 0, .slc 1, .dat (.int .i64) x1175, .dat (.int .i64) x1176, .dat (.int .i64) x1177], [some (.box [.dat (.list (.int .u8)) x1178, .dat (.int .i64) x1179]), some (.seq (.int .i64) x1180)] => ⟨_, spec_l20Fill x1175 x1176 x1177 x1178 x1179 x1180, fun (t : Int × (List Int)) => (.tup [], [some (.box [dV x1178, dI t.1]), some (sI t.2)]), [], none⟩
  | _, _ => Ans.no

theorem spec_l20Fill_sound : Sound Tryd.prog 55 F_spec_l20Fill := by
  have e : F_spec_l20Fill = F_spec_l20Fill_fuel RR := by
    funext avs H
    unfold F_spec_l20Fill F_spec_l20Fill_fuel
    split <;> first | rfl | (simp only [spec_l20Fill])
  rw [e]
  exact (spec_l20Fill_knot_all RR)


/-! loop.example/headtrees/spec.l20Flat -/

def spec_l20Flat_an : Ann := (.seq (.leaf [0, 1]) (.seq (.seq (.leaf [0, 1, 9]) (.cond (.seq (.leaf [4]) (.leaf [4])) (.leaf [0]))) (.seq (.leaf [0, 5]) (.seq (.leaf [0, 5, 6]) (.seq (.leaf [6]) (.seq (.leaf [4]) (.leaf [4])))))))

noncomputable def spec_l20Flat_ctx : Ctx := ⟨tlook tys, olook [(30, F_spec_l20Rd_pick), (39, F_spec_l20Tree), (55, F_spec_l20Fill)], ioF, 1, false, []⟩

theorem spec_l20Flat_n1_l (x1128 : Int) (x1129 : List Int) (x1130 : Int) : Link spec_l20Flat_ctx LL (bodyOf Tryd.f43) spec_l20Flat_an ⟨mkE 23 0 [(0, .ptr 0 0), (1, dI x1128)], [some (.box [dV x1129, dI x1130])]⟩ (spec_l20Flat_n1 x1128 x1129 x1130) (fun (t : Int × (List Int)) => (Exit.ret, ⟨mkE 23 0 [(4, .slc 1)], [some (.box [dV x1129, dI t.1]), some (sI t.2)]⟩)) := .of fun K h => by
  simp only [spec_l20Flat_n1, wpW] at h
  exact .of (by kernel_rfl) h

theorem spec_l20Flat_e (x1128 : Int) (x1129 : List Int) (x1130 : Int) {r : AV} {H' : Heap} (h : (Ans.mk _ (spec_l20Flat x1128 x1129 x1130) (fun (t : Int × (List Int)) => (.slc 1, [some (.box [dV x1129, dI t.1]), some (sI t.2)])) [] none).run = some (r, H')) : Awp spec_l20Flat_ctx LL (bodyOf Tryd.f43) spec_l20Flat_an ⟨mkE 23 0 [(0, .ptr 0 0), (1, dI x1128)], [some (.box [dV x1129, dI x1130])]⟩ (Ret (tlook tys) Tryd.f43.results.toList r H') :=
  ret_of' (spec_l20Flat_n1_l x1128 x1129 x1130) (by unfold spec_l20Flat; kernel_rfl) (by
  intro t
  exact ret_mk [.slc 1] (by kernel_rfl) (by kernel_rfl) (by kernel_rfl) (by kernel_rfl)) h

def F_spec_l20Flat : Fun := fun avs H =>
  match avs, H with
  | [.ptr 0 0, .dat (.int .i64) x1128], [some (.box [.dat (.list (.int .u8)) x1129, .dat (.int .i64) x1130])] => ⟨_, spec_l20Flat x1128 x1129 x1130, fun (t : Int × (List Int)) => (.slc 1, [some (.box [dV x1129, dI t.1]), some (sI t.2)]), [], none⟩
  | _, _ => Ans.no

theorem spec_l20Flat_sound : Sound Tryd.prog 43 F_spec_l20Flat := by
  refine fn_sound' (C := spec_l20Flat_ctx) (c := bodyOf Tryd.f43) (cok_of tys_ok (allc spec_l20Rd_pick_sound (allc spec_l20Tree_sound (allc spec_l20Fill_sound alln))) (allc Tryd.call30 (allc Tryd.call39 (allc Tryd.call55 alln))) (by kernel_rfl)) Tryd.func43 (by kernel_rfl) LL spec_l20Flat_an ?_
  intro avs H r H' h
  unfold F_spec_l20Flat at h
  split at h
  · refine Awp.cast ?_ ?_ ?_ (spec_l20Flat_e _ _ _ h) <;> kernel_rfl
  · simp [Ans.no, Ans.run] at h


/-! loop.example/headtrees/spec.l20Wild -/

def spec_l20Wild_an : Ann := (.seq (.leaf [0, 1]) (.seq (.leaf [0, 1, 5]) (.seq (.seq (.leaf [0, 1, 5, 17]) (.cond (.seq (.leaf [6]) (.seq (.leaf [4]) (.leaf [4]))) (.leaf [0, 1, 5]))) (.seq (.seq (.leaf [0, 1, 5, 30]) (.cond (.seq (.leaf [4]) (.leaf [4])) (.leaf [5]))) (.seq (.leaf [4]) (.leaf [4]))))))

noncomputable def spec_l20Wild_ctx : Ctx := ⟨tlook tys, olook [(39, F_spec_l20Tree), (30, F_spec_l20Rd_pick), (40, F_spec_TreeOk), (42, F_spec_l20Order), (41, F_spec_PutInOrder), (43, F_spec_l20Flat)], ioF, 1, false, []⟩

theorem spec_l20Wild_n1_l (x36 : Int) (x37 : List Int) (x38 : Int) : Link spec_l20Wild_ctx LL (bodyOf Tryd.f20) spec_l20Wild_an ⟨mkE 35 0 [(0, .ptr 0 0), (1, dI x36)], [some (.box [dV x37, dI x38])]⟩ (spec_l20Wild_n1 x36 x37 x38) (fun (t : Int × (List Int)) => (Exit.ret, ⟨mkE 35 0 [(4, .slc 1)], [some (.box [dV x37, dI t.1]), some (sI t.2)]⟩)) := .of fun K h => by
  simp only [spec_l20Wild_n1, wpW] at h
  exact .of (by kernel_rfl) h

theorem spec_l20Wild_e (x36 : Int) (x37 : List Int) (x38 : Int) {r : AV} {H' : Heap} (h : (Ans.mk _ (spec_l20Wild x36 x37 x38) (fun (t : Int × (List Int)) => (.slc 1, [some (.box [dV x37, dI t.1]), some (sI t.2)])) [] none).run = some (r, H')) : Awp spec_l20Wild_ctx LL (bodyOf Tryd.f20) spec_l20Wild_an ⟨mkE 35 0 [(0, .ptr 0 0), (1, dI x36)], [some (.box [dV x37, dI x38])]⟩ (Ret (tlook tys) Tryd.f20.results.toList r H') :=
  ret_of' (spec_l20Wild_n1_l x36 x37 x38) (by unfold spec_l20Wild; kernel_rfl) (by
  intro t
  exact ret_mk [.slc 1] (by kernel_rfl) (by kernel_rfl) (by kernel_rfl) (by kernel_rfl)) h

def F_spec_l20Wild : Fun := fun avs H =>
  match avs, H with
  | [.ptr 0 0, .dat (.int .i64) x36], [some (.box [.dat (.list (.int .u8)) x37, .dat (.int .i64) x38])] => ⟨_, spec_l20Wild x36 x37 x38, fun (t : Int × (List Int)) => (.slc 1, [some (.box [dV x37, dI t.1]), some (sI t.2)]), [], none⟩
  | _, _ => Ans.no

theorem spec_l20Wild_sound : Sound Tryd.prog 20 F_spec_l20Wild := by
  refine fn_sound' (C := spec_l20Wild_ctx) (c := bodyOf Tryd.f20) (cok_of tys_ok (allc spec_l20Tree_sound (allc spec_l20Rd_pick_sound (allc spec_TreeOk_sound (allc spec_l20Order_sound (allc spec_PutInOrder_sound (allc spec_l20Flat_sound alln)))))) (allc Tryd.call39 (allc Tryd.call30 (allc Tryd.call40 (allc Tryd.call42 (allc Tryd.call41 (allc Tryd.call43 alln)))))) (by kernel_rfl)) Tryd.func20 (by kernel_rfl) LL spec_l20Wild_an ?_
  intro avs H r H' h
  unfold F_spec_l20Wild at h
  split at h
  · refine Awp.cast ?_ ?_ ?_ (spec_l20Wild_e _ _ _ h) <;> kernel_rfl
  · simp [Ans.no, Ans.run] at h


/-! loop.example/headtrees/spec.l20Deed -/

def spec_l20Deed_an : Ann := (.seq (.leaf [0, 1, 4]) (.seq (.draw [0, 3, 4] [0, 1, 5, 2, 3, 4, 6, 7, 8, 9, 10, 11, 12] [] [0, 1, 4, 5]) (.seq (.seq (.leaf [0, 1, 4, 5, 18]) (.block (.seq (.leaf [0, 1, 4, 5, 18, 19]) (.cond (.seq (.leaf [0, 1, 4, 5]) (.leaf [0, 4, 5])) (.seq (.leaf [0, 1, 4, 5, 34]) (.cond (.leaf [0, 4, 5]) (.leaf [0, 4, 5]))))))) (.seq (.seq (.leaf [0, 4, 5, 47]) (.cond (.leaf [4, 5]) (.leaf [4, 5]))) (.seq (.leaf [4]) (.leaf [4]))))))

noncomputable def spec_l20Deed_ctx : Ctx := ⟨tlook tys, olook [(30, F_spec_l20Rd_pick), (35, F_spec_l20Rd_odd)], ioF, 1, false, []⟩

theorem spec_l20Deed_n1_l (x1429 : List Int) (x1430 : List Int) (x1431 : Int) : Link spec_l20Deed_ctx LL (bodyOf Tryd.f19) spec_l20Deed_an ⟨mkE 55 0 [(0, .ptr 0 0), (1, dL x1429)], [some (.box [dV x1430, dI x1431])]⟩ (spec_l20Deed_n1 x1429 x1430 x1431) (fun (t : Int × Int × Int × Int) => (Exit.ret, ⟨mkE 55 0 [(4, .ptr 1 0)], [some (.box [dV x1430, dI t.1]), some (.box [dI t.2.1, dI t.2.2.1, dI t.2.2.2])]⟩)) := .of fun K h => by
  simp only [spec_l20Deed_n1, wpW] at h
  exact .of (by kernel_rfl) h

theorem spec_l20Deed_e (x1429 : List Int) (x1430 : List Int) (x1431 : Int) {r : AV} {H' : Heap} (h : (Ans.mk _ (spec_l20Deed x1429 x1430 x1431) (fun (t : Int × Int × Int × Int) => (.agg [dI t.2.1, dI t.2.2.1, dI t.2.2.2], [some (.box [dV x1430, dI t.1]), some (.box [dI t.2.1, dI t.2.2.1, dI t.2.2.2])])) [] none).run = some (r, H')) : Awp spec_l20Deed_ctx LL (bodyOf Tryd.f19) spec_l20Deed_an ⟨mkE 55 0 [(0, .ptr 0 0), (1, dL x1429)], [some (.box [dV x1430, dI x1431])]⟩ (Ret (tlook tys) Tryd.f19.results.toList r H') :=
  ret_of' (spec_l20Deed_n1_l x1429 x1430 x1431) (by unfold spec_l20Deed; kernel_rfl) (by
  intro t
  exact ret_mk [.agg [dI t.2.1, dI t.2.2.1, dI t.2.2.2]] (by kernel_rfl) (by kernel_rfl) (by kernel_rfl) (by kernel_rfl)) h

def F_spec_l20Deed : Fun := fun avs H =>
  match avs, H with
  | [.ptr 0 0, .dat (.list (.int .i64)) x1429], [some (.box [.dat (.list (.int .u8)) x1430, .dat (.int .i64) x1431])] => ⟨_, spec_l20Deed x1429 x1430 x1431, fun (t : Int × Int × Int × Int) => (.agg [dI t.2.1, dI t.2.2.1, dI t.2.2.2], [some (.box [dV x1430, dI t.1]), some (.box [dI t.2.1, dI t.2.2.1, dI t.2.2.2])]), [], none⟩
  | _, _ => Ans.no

theorem spec_l20Deed_sound : Sound Tryd.prog 19 F_spec_l20Deed := by
  refine fn_sound' (C := spec_l20Deed_ctx) (c := bodyOf Tryd.f19) (cok_of tys_ok (allc spec_l20Rd_pick_sound (allc spec_l20Rd_odd_sound alln)) (allc Tryd.call30 (allc Tryd.call35 alln)) (by kernel_rfl)) Tryd.func19 (by kernel_rfl) LL spec_l20Deed_an ?_
  intro avs H r H' h
  unfold F_spec_l20Deed at h
  split at h
  · refine Awp.cast ?_ ?_ ?_ (spec_l20Deed_e _ _ _ h) <;> kernel_rfl
  · simp [Ans.no, Ans.run] at h


/-! loop.example/headtrees/spec.l20Deeds -/

def spec_l20Deeds_an : Ann := (.seq (.leaf [0, 1]) (.seq (.leaf [0, 1, 5]) (.seq (.seq (.leaf [0, 1, 5, 6]) (.block (.loop (.seq (.seq (.leaf [0, 1, 5, 6, 11]) (.cond (.leaf [0, 1, 5, 6]) (.leaf [5]))) (.seq (.block (.leaf [0, 1, 5, 6])) (.leaf [0, 1, 5, 6])))))) (.seq (.leaf [4]) (.leaf [4])))))

noncomputable def spec_l20Deeds_ctx : Ctx := ⟨tlook tys, olook [(30, F_spec_l20Rd_pick), (19, F_spec_l20Deed)], ioF, 1, false, []⟩

theorem spec_l20Deeds_n1_l (x1420 : List Int) (x1421 : List Int) (x1422 : Int) : Link spec_l20Deeds_ctx LL (Code.seq (cq [0] (bodyOf Tryd.f51)) (cq [0,1] (bodyOf Tryd.f51))) (Ann.seq (aq [0] spec_l20Deeds_an) (aq [0,1] spec_l20Deeds_an)) ⟨mkE 21 0 [(0, .ptr 0 0), (1, dL x1420)], [some (.box [dV x1421, dI x1422])]⟩ (spec_l20Deeds_n1) (fun (t : Unit) => (Exit.normal, ⟨mkE 21 0 [(0, .ptr 0 0), (1, dL x1420), (5, .slc 1)], [some (.box [dV x1421, dI x1422]), some (.seq (.pair (.int .i64) (.pair (.int .i64) (.pair (.int .i64) .unit))) ([] : List (Int × Int × Int × Unit)))]⟩)) := .of fun K h => by
  simp only [spec_l20Deeds_n1, wpW] at h
  exact .of (by kernel_rfl) h

theorem spec_l20Deeds_n2_l (x1420 : List Int) (x1421 : List Int) (x1422 : Int) : Link spec_l20Deeds_ctx LL (cq [0,0,1,1] (bodyOf Tryd.f51)) (aq [0,0,1,1] spec_l20Deeds_an) ⟨mkE 21 0 [(0, .ptr 0 0), (1, dL x1420), (5, .slc 1)], [some (.box [dV x1421, dI x1422]), some (.seq (.pair (.int .i64) (.pair (.int .i64) (.pair (.int .i64) .unit))) ([] : List (Int × Int × Int × Unit)))]⟩ (spec_l20Deeds_n2 x1421 x1422) (fun (t : Int × Int) => (Exit.normal, ⟨mkE 21 0 [(0, .ptr 0 0), (1, dL x1420), (5, .slc 1), (6, dI t.1)], [some (.box [dV x1421, dI t.2]), some (.seq (.pair (.int .i64) (.pair (.int .i64) (.pair (.int .i64) .unit))) ([] : List (Int × Int × Int × Unit)))]⟩)) := .of fun K h => by
  simp only [spec_l20Deeds_n2, wpW] at h
  exact .of (by kernel_rfl) h

theorem spec_l20Deeds_n3_l (x1420 : List Int) (x1702 : Int) (x1421 : List Int) (x1703 : Int) (x1704 : List (Int × Int × Int × Unit)) : Link spec_l20Deeds_ctx LL (cq [0,0,1,0,1,1] (bodyOf Tryd.f51)) (aq [0,0,1,0,1,1] spec_l20Deeds_an) ⟨mkE 21 0 [(0, .ptr 0 0), (1, dL x1420), (5, .slc 1), (6, dI x1702)], [some (.box [dV x1421, dI x1703]), some (.seq (.pair (.int .i64) (.pair (.int .i64) (.pair (.int .i64) .unit))) x1704)]⟩ (spec_l20Deeds_n3 x1420 x1702 x1421 x1703 x1704) (Sum.elim (fun (t : Int × Int × (List (Int × Int × Int × Unit))) => (Exit.normal, ⟨mkE 21 0 [(0, .ptr 0 0), (1, dL x1420), (5, .slc 1), (6, dI t.1)], [some (.box [dV x1421, dI t.2.1]), some (.seq (.pair (.int .i64) (.pair (.int .i64) (.pair (.int .i64) .unit))) t.2.2)]⟩)) (fun (t : Int × (List (Int × Int × Int × Unit))) => ((Exit.exit 0), ⟨mkE 21 0 [(5, .slc 1)], [some (.box [dV x1421, dI t.1]), some (.seq (.pair (.int .i64) (.pair (.int .i64) (.pair (.int .i64) .unit))) t.2)]⟩))) := .of fun K h => by
  simp only [spec_l20Deeds_n3, wpW] at h
  exact .of (by kernel_rfl) h

def spec_l20Deeds_n4_l (x1420 : List Int) (x1425 : Int) (x1421 : List Int) (x1426 : Int) := (link_loop (mk := fun (s : Int × Int × (List (Int × Int × Int × Unit))) => ⟨mkE 21 0 [(0, .ptr 0 0), (1, dL x1420), (5, .slc 1), (6, dI s.1)], [some (.box [dV x1421, dI s.2.1]), some (.seq (.pair (.int .i64) (.pair (.int .i64) (.pair (.int .i64) .unit))) s.2.2)]⟩) (fin := (fun (t : Int × (List (Int × Int × Int × Unit))) => ((Exit.exit 0), ⟨mkE 21 0 [(5, .slc 1)], [some (.box [dV x1421, dI t.1]), some (.seq (.pair (.int .i64) (.pair (.int .i64) (.pair (.int .i64) .unit))) t.2)]⟩))) (by
  rintro t f K h
  · exact h) (fun s => link_map (spec_l20Deeds_n3_l x1420 s.1 x1421 s.2.1 s.2.2) (Sum.elim (fun (t : Int × Int × (List (Int × Int × Int × Unit))) => Sum.inl (t.1, t.2.1, t.2.2)) (fun (t : Int × (List (Int × Int × Int × Unit))) => Sum.inr t)) (by
  rintro (t | t)
  · kernel_rfl
  · kernel_rfl)) (x1425, x1426, ([] : List (Int × Int × Int × Unit))))

def spec_l20Deeds_n5_l (x1420 : List Int) (x1425 : Int) (x1421 : List Int) (x1426 : Int) := (link_block (fin2 := (fun (t : Int × (List (Int × Int × Int × Unit))) => (Exit.normal, ⟨mkE 21 0 [(5, .slc 1)], [some (.box [dV x1421, dI t.1]), some (.seq (.pair (.int .i64) (.pair (.int .i64) (.pair (.int .i64) .unit))) t.2)]⟩))) (id := 0) (spec_l20Deeds_n4_l x1420 x1425 x1421 x1426) (fun (t : Int × (List (Int × Int × Int × Unit))) => (t.1, t.2)) (by
  rintro t K h
  · exact Eq.mp (by kernel_rfl) h))

def spec_l20Deeds_n6_l (x1420 : List Int) (x1421 : List Int) (x1422 : Int) := (link_seq (spec_l20Deeds_n2_l x1420 x1421 x1422) (fun (t : Int × Int) => (spec_l20Deeds_n5_l x1420 t.1 x1421 t.2)))

theorem spec_l20Deeds_n7_l (x1421 : List Int) (x1703 : Int) (x1704 : List (Int × Int × Int × Unit)) : Link spec_l20Deeds_ctx LL (cq [1,1,1] (bodyOf Tryd.f51)) (aq [1,1,1] spec_l20Deeds_an) ⟨mkE 21 0 [(5, .slc 1)], [some (.box [dV x1421, dI x1703]), some (.seq (.pair (.int .i64) (.pair (.int .i64) (.pair (.int .i64) .unit))) x1704)]⟩ (spec_l20Deeds_n7 x1703 x1704) (fun (t : Int × (List (Int × Int × Int × Unit))) => (Exit.ret, ⟨mkE 21 0 [(4, .slc 1)], [some (.box [dV x1421, dI t.1]), some (.seq (.pair (.int .i64) (.pair (.int .i64) (.pair (.int .i64) .unit))) t.2)]⟩)) := .of fun K h => by
  simp only [spec_l20Deeds_n7, wpW] at h
  exact .of (by kernel_rfl) h

def spec_l20Deeds_n8_l (x1420 : List Int) (x1421 : List Int) (x1422 : Int) := (link_seq (spec_l20Deeds_n6_l x1420 x1421 x1422) (fun (t : Int × (List (Int × Int × Int × Unit))) => (spec_l20Deeds_n7_l x1421 t.1 t.2)))

def spec_l20Deeds_n9_l (x1420 : List Int) (x1421 : List Int) (x1422 : Int) := (link_group (c := (cq [0,1] (bodyOf Tryd.f51))) (a := (aq [0,1] spec_l20Deeds_an)) [(cq [0] (bodyOf Tryd.f51))] [(aq [0] spec_l20Deeds_an)] rfl (link_seq (spec_l20Deeds_n1_l x1420 x1421 x1422) (fun (t : Unit) => (spec_l20Deeds_n8_l x1420 x1421 x1422))))

theorem spec_l20Deeds_e (x1420 : List Int) (x1421 : List Int) (x1422 : Int) {r : AV} {H' : Heap} (h : (Ans.mk _ (spec_l20Deeds x1420 x1421 x1422) (fun (t : Int × (List (Int × Int × Int × Unit))) => (.slc 1, [some (.box [dV x1421, dI t.1]), some (.seq (.pair (.int .i64) (.pair (.int .i64) (.pair (.int .i64) .unit))) t.2)])) [] none).run = some (r, H')) : Awp spec_l20Deeds_ctx LL (bodyOf Tryd.f51) spec_l20Deeds_an ⟨mkE 21 0 [(0, .ptr 0 0), (1, dL x1420)], [some (.box [dV x1421, dI x1422])]⟩ (Ret (tlook tys) Tryd.f51.results.toList r H') :=
  ret_of' (Link.cast (by kernel_rfl) (by kernel_rfl) (spec_l20Deeds_n9_l x1420 x1421 x1422)) (by unfold spec_l20Deeds; kernel_rfl) (by
  intro t
  exact ret_mk [.slc 1] (by kernel_rfl) (by kernel_rfl) (by kernel_rfl) (by kernel_rfl)) h

def F_spec_l20Deeds : Fun := fun avs H =>
  match avs, H with
  | [.ptr 0 0, .dat (.list (.int .i64)) x1420], [some (.box [.dat (.list (.int .u8)) x1421, .dat (.int .i64) x1422])] => ⟨_, spec_l20Deeds x1420 x1421 x1422, fun (t : Int × (List (Int × Int × Int × Unit))) => (.slc 1, [some (.box [dV x1421, dI t.1]), some (.seq (.pair (.int .i64) (.pair (.int .i64) (.pair (.int .i64) .unit))) t.2)]), [], none⟩
  | _, _ => Ans.no

theorem spec_l20Deeds_sound : Sound Tryd.prog 51 F_spec_l20Deeds := by
  refine fn_sound' (C := spec_l20Deeds_ctx) (c := bodyOf Tryd.f51) (cok_of tys_ok (allc spec_l20Rd_pick_sound (allc spec_l20Deed_sound alln)) (allc Tryd.call30 (allc Tryd.call19 alln)) (by kernel_rfl)) Tryd.func51 (by kernel_rfl) LL spec_l20Deeds_an ?_
  intro avs H r H' h
  unfold F_spec_l20Deeds at h
  split at h
  · refine Awp.cast ?_ ?_ ?_ (spec_l20Deeds_e _ _ _ h) <;> kernel_rfl
  · simp [Ans.no, Ans.run] at h


/-! loop.example/headtrees/spec.l1Number -/

def spec_l1Number_an : Ann := (.seq (.leaf [0]) (.seq (.seq (.leaf [0, 4]) (.cond (.seq (.leafF [⟨5, 9, false, none, none⟩] [2]) (.leaf [2])) (.leaf [0]))) (.seq (.draw [2, 7] [0, 1, 3, 4, 5, 6, 7, 8, 2, 9, 10] [] [2]) (.leaf [2]))))

def F_spec_l1Number_fuel (n : Nat) : Fun := fun avs H =>
  match avs, H with
  | [.dat (.int .i64) x1759], [] => ⟨_, spec_l1Number_fuel n x1759, fun (t : ByteArray) => (dS t, []), [], none⟩
  | _, _ => Ans.no

noncomputable def spec_l1Number_ctx (n : Nat) : Ctx := ⟨tlook tys, olook [(25, F_spec_l1Number_fuel n)], ioF, 0, false, []⟩

theorem spec_l1Number_n1_l (n : Nat) (x1759 : Int) : Link (spec_l1Number_ctx n) LL (bodyOf Tryd.f25) spec_l1Number_an ⟨mkE 21 0 [(0, dI x1759)], []⟩ (spec_l1Number_n1 (spec_l1Number_fuel n) x1759) (fun (t : ByteArray) => (Exit.ret, ⟨mkE 21 0 [(2, dS t)], []⟩)) := .of fun K h => by
  simp only [spec_l1Number_n1, wpW] at h
  exact .of (by kernel_rfl) h

theorem spec_l1Number_e (n : Nat) (x1759 : Int) {r : AV} {H' : Heap} (h : (Ans.mk _ (spec_l1Number_fuel (n + 1) x1759) (fun (t : ByteArray) => (dS t, [])) [] none).run = some (r, H')) : Awp (spec_l1Number_ctx n) LL (bodyOf Tryd.f25) spec_l1Number_an ⟨mkE 21 0 [(0, dI x1759)], []⟩ (Ret (tlook tys) Tryd.f25.results.toList r H') :=
  ret_of' (spec_l1Number_n1_l n x1759) (by (show _ = _); kernel_rfl) (by
  intro t
  exact ret_mk [dS t] (by kernel_rfl) (by kernel_rfl) (by kernel_rfl) (by kernel_rfl)) h

theorem spec_l1Number_step (n : Nat) (h25 : Sound Tryd.prog 25 (F_spec_l1Number_fuel n)) : Sound Tryd.prog 25 (F_spec_l1Number_fuel (n + 1)) := by
  refine fn_sound' (C := spec_l1Number_ctx n) (c := bodyOf Tryd.f25) (cok_of tys_ok (allc h25 alln) (allc Tryd.call25 alln) (by kernel_rfl)) Tryd.func25 (by kernel_rfl) LL spec_l1Number_an ?_
  intro avs H r H' h
  unfold F_spec_l1Number_fuel at h
  split at h
  · refine Awp.cast ?_ ?_ ?_ (spec_l1Number_e n _ h) <;> kernel_rfl
  · simp [Ans.no, Ans.run] at h

theorem spec_l1Number_null : Sound Tryd.prog 25 (F_spec_l1Number_fuel 0) := by
  intro avs H r H' h
  unfold F_spec_l1Number_fuel at h
  split at h
  · simp [spec_l1Number_fuel, spec_l1Number_knot, Ans.run] at h
  · simp [Ans.no, Ans.run] at h

theorem spec_l1Number_knot_all : ∀ n, Sound Tryd.prog 25 (F_spec_l1Number_fuel n)
  | 0 => spec_l1Number_null
  | n + 1 => by
    have h25 := spec_l1Number_knot_all n
    exact spec_l1Number_step n h25

def F_spec_l1Number : Fun := fun avs H =>
  match avs, H with
  | [.dat (.int .i64) x1759], [] => ⟨_, spec_l1Number x1759, fun (t : ByteArray) => (dS t, []), [], none⟩
  | _, _ => Ans.no

theorem spec_l1Number_sound : Sound Tryd.prog 25 F_spec_l1Number := by
  have e : F_spec_l1Number = F_spec_l1Number_fuel RR := by
    funext avs H
    unfold F_spec_l1Number F_spec_l1Number_fuel
    split <;> first | rfl | (simp only [spec_l1Number])
  rw [e]
  exact (spec_l1Number_knot_all RR)


/-! loop.example/headtrees/spec.DeedText -/

def spec_DeedText_an : Ann := (.seq (.leaf [1]) (.seq (.block (.seq (.leaf [1, 3]) (.cond (.seq (.draw [2, 7] [0, 1, 5, 6, 2, 3, 4, 7, 8, 9] [] [2]) (.leaf [2])) (.seq (.leaf [1, 26]) (.cond (.seq (.leaf [2]) (.leaf [2])) (.seq (.leaf [1, 44]) (.cond (.seq (.leaf [2]) (.leaf [2])) (.seq (.leaf [1, 48]) (.cond (.seq (.leaf [2]) (.leaf [2])) (.seq (.leaf [1, 52]) (.cond (.seq (.leaf [2]) (.leaf [2])) (.seq (.leaf [56]) (.cond (.seq (.leaf [2]) (.leaf [2])) (.leaf [])))))))))))))) (.seq (.leaf [2]) (.leaf [2]))))

noncomputable def spec_DeedText_ctx : Ctx := ⟨tlook tys, olook [(24, F_spec_l1In), (25, F_spec_l1Number)], ioF, 0, false, []⟩

theorem spec_DeedText_n1_l (x1751 : Int) (x1752 : Int) (x1753 : Int) : Link spec_DeedText_ctx LL (cq [0] (bodyOf Tryd.f8)) (aq [0] spec_DeedText_an) ⟨mkE 60 0 [(0, .agg [dI x1751, dI x1752, dI x1753])], []⟩ (spec_DeedText_n1) (fun (t : Unit) => (Exit.normal, ⟨mkE 60 0 [(1, .ptr 0 0)], [some (.box [dI x1751, dI x1752, dI x1753])]⟩)) := .of fun K h => by
  simp only [spec_DeedText_n1, wpW] at h
  exact .of (by kernel_rfl) h

theorem spec_DeedText_n2_l (x1751 : Int) (x1752 : Int) (x1753 : Int) : Link spec_DeedText_ctx LL (cq [0,0,0,1] (bodyOf Tryd.f8)) (aq [0,0,0,1] spec_DeedText_an) ⟨mkE 60 0 [(1, .ptr 0 0)], [some (.box [dI x1751, dI x1752, dI x1753])]⟩ (spec_DeedText_n2 x1751 x1752 x1753) (fun (t : Bool) => (Exit.normal, ⟨mkE 60 0 [(1, .ptr 0 0), (3, dB t)], [some (.box [dI x1751, dI x1752, dI x1753])]⟩)) := .of fun K h => by
  simp only [spec_DeedText_n2, wpW] at h
  exact .of (by kernel_rfl) h

theorem spec_DeedText_n3_l (x1977 : Bool) (x1751 : Int) (x1752 : Int) (x1753 : Int) : Link spec_DeedText_ctx LL (cq [0,1,0,0,1] (bodyOf Tryd.f8)) (aq [0,1,0,0,1] spec_DeedText_an) ⟨mkE 60 0 [(1, .ptr 0 0), (3, dB x1977)], [some (.box [dI x1751, dI x1752, dI x1753])]⟩ (spec_DeedText_n3 x1752 x1753) (fun (t : ByteArray) => (Exit.ret, ⟨mkE 60 0 [(2, dS t)], []⟩)) := .of fun K h => by
  simp only [spec_DeedText_n3, wpW] at h
  exact .of (by kernel_rfl) h

theorem spec_DeedText_n4_l (x1977 : Bool) (x1751 : Int) (x1752 : Int) (x1753 : Int) : Link spec_DeedText_ctx LL (cq [0,1,1,0,0,1] (bodyOf Tryd.f8)) (aq [0,1,1,0,0,1] spec_DeedText_an) ⟨mkE 60 0 [(1, .ptr 0 0), (3, dB x1977)], [some (.box [dI x1751, dI x1752, dI x1753])]⟩ (spec_DeedText_n4 x1751 x1752 x1753) (fun (t : Bool) => (Exit.normal, ⟨mkE 60 0 [(1, .ptr 0 0), (26, dB t)], [some (.box [dI x1751, dI x1752, dI x1753])]⟩)) := .of fun K h => by
  simp only [spec_DeedText_n4, wpW] at h
  exact .of (by kernel_rfl) h

theorem spec_DeedText_n5_l (x2075 : Bool) (x1751 : Int) (x1752 : Int) (x1753 : Int) : Link spec_DeedText_ctx LL (cq [1,1,1,0,0,1] (bodyOf Tryd.f8)) (aq [1,1,1,0,0,1] spec_DeedText_an) ⟨mkE 60 0 [(1, .ptr 0 0), (26, dB x2075)], [some (.box [dI x1751, dI x1752, dI x1753])]⟩ (spec_DeedText_n5 x2075 x1751 x1752 x1753) (Sum.elim (fun (t : Unit) => (Exit.normal, ⟨mkE 60 0 [], []⟩)) (fun (t : ByteArray) => (Exit.ret, ⟨mkE 60 0 [(2, dS t)], []⟩))) := .of fun K h => by
  simp only [spec_DeedText_n5, wpW] at h
  exact .of (by kernel_rfl) h

def spec_DeedText_n6_l (x1977 : Bool) (x1751 : Int) (x1752 : Int) (x1753 : Int) := (link_seq (spec_DeedText_n4_l x1977 x1751 x1752 x1753) (fun (t : Bool) => (spec_DeedText_n5_l t x1751 x1752 x1753)))

def spec_DeedText_n7_l (x1977 : Bool) (x1751 : Int) (x1752 : Int) (x1753 : Int) := (link_cond (c := .tmp 3) (g := x1977) (by kernel_rfl) ((link_map (fin2 := (Sum.elim (fun (t : Unit) => (Exit.normal, ⟨mkE 60 0 [], []⟩)) (fun (t : ByteArray) => (Exit.ret, ⟨mkE 60 0 [(2, dS t)], []⟩)))) (spec_DeedText_n3_l x1977 x1751 x1752 x1753) (fun (t : ByteArray) => (Sum.inr t)) (by
  rintro t
  · kernel_rfl))) ((spec_DeedText_n6_l x1977 x1751 x1752 x1753)))

def spec_DeedText_n8_l (x1751 : Int) (x1752 : Int) (x1753 : Int) := (link_seq (spec_DeedText_n2_l x1751 x1752 x1753) (fun (t : Bool) => (spec_DeedText_n7_l t x1751 x1752 x1753)))

def spec_DeedText_n9_l (x1751 : Int) (x1752 : Int) (x1753 : Int) := (link_block (fin2 := (Sum.elim (fun (t : Unit) => (Exit.normal, ⟨mkE 60 0 [], []⟩)) (fun (t : ByteArray) => (Exit.ret, ⟨mkE 60 0 [(2, dS t)], []⟩)))) (id := 0) (spec_DeedText_n8_l x1751 x1752 x1753) (Sum.elim (fun (t : Unit) => (Sum.inl ())) (fun (t : ByteArray) => (Sum.inr t))) (by
  rintro (t | t) K h
  · exact Eq.mp (by kernel_rfl) h
  · exact Eq.mp (by kernel_rfl) h))

theorem spec_DeedText_n10_l : Link spec_DeedText_ctx LL (cq [1,1] (bodyOf Tryd.f8)) (aq [1,1] spec_DeedText_an) ⟨mkE 60 0 [], []⟩ (spec_DeedText_n10) (fun (t : ByteArray) => (Exit.ret, ⟨mkE 60 0 [(2, dS t)], []⟩)) := .of fun K h => by
  simp only [spec_DeedText_n10, wpW] at h
  exact .of (by kernel_rfl) h

def spec_DeedText_n11_l (x1751 : Int) (x1752 : Int) (x1753 : Int) := (link_seq2 (spec_DeedText_n9_l x1751 x1752 x1753) (fun (t : Unit) => (spec_DeedText_n10_l)) (fun (t : ByteArray) => t) (by
  rintro t
  · kernel_rfl) (by
  rintro t f K h
  · exact h))

def spec_DeedText_n12_l (x1751 : Int) (x1752 : Int) (x1753 : Int) := (link_seq (spec_DeedText_n1_l x1751 x1752 x1753) (fun (t : Unit) => (spec_DeedText_n11_l x1751 x1752 x1753)))

theorem spec_DeedText_e (x1751 : Int) (x1752 : Int) (x1753 : Int) {r : AV} {H' : Heap} (h : (Ans.mk _ (spec_DeedText x1751 x1752 x1753) (fun (t : ByteArray) => (dS t, [])) [] none).run = some (r, H')) : Awp spec_DeedText_ctx LL (bodyOf Tryd.f8) spec_DeedText_an ⟨mkE 60 0 [(0, .agg [dI x1751, dI x1752, dI x1753])], []⟩ (Ret (tlook tys) Tryd.f8.results.toList r H') :=
  ret_of' (Link.cast (by kernel_rfl) (by kernel_rfl) (spec_DeedText_n12_l x1751 x1752 x1753)) (by unfold spec_DeedText; kernel_rfl) (by
  intro t
  exact ret_mk [dS t] (by kernel_rfl) (by kernel_rfl) (by kernel_rfl) (by kernel_rfl)) h

def F_spec_DeedText : Fun := fun avs H =>
  match avs, H with
  | [.agg [.dat (.int .i64) x1751, .dat (.int .i64) x1752, .dat (.int .i64) x1753]], [] => ⟨_, spec_DeedText x1751 x1752 x1753, fun (t : ByteArray) => (dS t, []), [], none⟩
  | _, _ => Ans.no

theorem spec_DeedText_sound : Sound Tryd.prog 8 F_spec_DeedText := by
  refine fn_sound' (C := spec_DeedText_ctx) (c := bodyOf Tryd.f8) (cok_of tys_ok (allc spec_l1In_sound (allc spec_l1Number_sound alln)) (allc Tryd.call24 (allc Tryd.call25 alln)) (by kernel_rfl)) Tryd.func8 (by kernel_rfl) LL spec_DeedText_an ?_
  intro avs H r H' h
  unfold F_spec_DeedText at h
  split at h
  · refine Awp.cast ?_ ?_ ?_ (spec_DeedText_e _ _ _ h) <;> kernel_rfl
  · simp [Ans.no, Ans.run] at h


/-! loop.example/headtrees/spec.l20Written -/

def spec_l20Written_an : Ann := (.seq (.leaf [0]) (.seq (.leaf [0, 3]) (.seq (.leafF [⟨3, 9, false, none, none⟩] [3, 4]) (.seq (.seq (.leaf [3, 4, 5]) (.block (.loop (.seq (.seq (.leaf [3, 4, 5, 14]) (.cond (.leaf [3, 4, 5]) (.leaf [3]))) (.seq (.block (.seq (.leaf [3, 4, 5, 22]) (.cond (.leaf [3, 4, 5]) (.leaf [3, 4, 5])))) (.leaf [3, 4, 5])))))) (.seq (.leaf [2]) (.leaf [2]))))))

noncomputable def spec_l20Written_ctx : Ctx := ⟨tlook tys, olook [(20, F_spec_l20Wild), (51, F_spec_l20Deeds), (8, F_spec_DeedText)], ioF, 1, false, []⟩

theorem spec_l20Written_n1_l (x34 : List Int) (x35 : Int) : Link spec_l20Written_ctx LL (Code.seq (cq [0] (bodyOf Tryd.f34)) (Code.seq (cq [0,1] (bodyOf Tryd.f34)) (cq [0,1,1] (bodyOf Tryd.f34)))) (Ann.seq (aq [0] spec_l20Written_an) (Ann.seq (aq [0,1] spec_l20Written_an) (aq [0,1,1] spec_l20Written_an))) ⟨mkE 31 0 [(0, .ptr 0 0)], [some (.box [dV x34, dI x35])]⟩ (spec_l20Written_n1 x34 x35) (fun (t : Int × (List (Int × Int × Int × Unit))) => (Exit.normal, ⟨mkE 31 0 [(3, .slc 1), (4, .slc 2)], [some (.box [dV x34, dI t.1]), some (.seq (.pair (.int .i64) (.pair (.int .i64) (.pair (.int .i64) .unit))) ([] : List (Int × Int × Int × Unit))), some (.seq (.pair (.int .i64) (.pair (.int .i64) (.pair (.int .i64) .unit))) t.2)]⟩)) := .of fun K h => by
  simp only [spec_l20Written_n1, wpW] at h
  exact .of (by kernel_rfl) h

theorem spec_l20Written_n2_l (x34 : List Int) (x1737 : Int) (x1738 : List (Int × Int × Int × Unit)) : Link spec_l20Written_ctx LL (cq [0,0,1,1,1] (bodyOf Tryd.f34)) (aq [0,0,1,1,1] spec_l20Written_an) ⟨mkE 31 0 [(3, .slc 1), (4, .slc 2)], [some (.box [dV x34, dI x1737]), some (.seq (.pair (.int .i64) (.pair (.int .i64) (.pair (.int .i64) .unit))) ([] : List (Int × Int × Int × Unit))), some (.seq (.pair (.int .i64) (.pair (.int .i64) (.pair (.int .i64) .unit))) x1738)]⟩ (spec_l20Written_n2) (fun (t : Unit) => (Exit.normal, ⟨mkE 31 0 [(3, .slc 1), (4, .slc 2), (5, dI 0)], [some (.box [dV x34, dI x1737]), some (.seq (.pair (.int .i64) (.pair (.int .i64) (.pair (.int .i64) .unit))) ([] : List (Int × Int × Int × Unit))), some (.seq (.pair (.int .i64) (.pair (.int .i64) (.pair (.int .i64) .unit))) x1738)]⟩)) := .of fun K h => by
  simp only [spec_l20Written_n2, wpW] at h
  exact .of (by kernel_rfl) h

theorem spec_l20Written_n3_l (x2139 : Int) (x34 : List Int) (x1737 : Int) (x2140 : List (Int × Int × Int × Unit)) (x1738 : List (Int × Int × Int × Unit)) : Link spec_l20Written_ctx LL (cq [0,0,1,0,1,1,1] (bodyOf Tryd.f34)) (aq [0,0,1,0,1,1,1] spec_l20Written_an) ⟨mkE 31 0 [(3, .slc 1), (4, .slc 2), (5, dI x2139)], [some (.box [dV x34, dI x1737]), some (.seq (.pair (.int .i64) (.pair (.int .i64) (.pair (.int .i64) .unit))) x2140), some (.seq (.pair (.int .i64) (.pair (.int .i64) (.pair (.int .i64) .unit))) x1738)]⟩ (spec_l20Written_n3 x2139 x2140 x1738) (Sum.elim (fun (t : Int × (List (Int × Int × Int × Unit))) => (Exit.normal, ⟨mkE 31 0 [(3, .slc 1), (4, .slc 2), (5, dI t.1)], [some (.box [dV x34, dI x1737]), some (.seq (.pair (.int .i64) (.pair (.int .i64) (.pair (.int .i64) .unit))) t.2), some (.seq (.pair (.int .i64) (.pair (.int .i64) (.pair (.int .i64) .unit))) x1738)]⟩)) (fun (t : (List (Int × Int × Int × Unit))) => ((Exit.exit 0), ⟨mkE 31 0 [(3, .slc 1)], [some (.box [dV x34, dI x1737]), some (.seq (.pair (.int .i64) (.pair (.int .i64) (.pair (.int .i64) .unit))) t)]⟩))) := .of fun K h => by
  simp only [spec_l20Written_n3, wpW] at h
  exact .of (by kernel_rfl) h

def spec_l20Written_n4_l (x34 : List Int) (x1737 : Int) (x1738 : List (Int × Int × Int × Unit)) := (link_loop (mk := fun (s : Int × (List (Int × Int × Int × Unit))) => ⟨mkE 31 0 [(3, .slc 1), (4, .slc 2), (5, dI s.1)], [some (.box [dV x34, dI x1737]), some (.seq (.pair (.int .i64) (.pair (.int .i64) (.pair (.int .i64) .unit))) s.2), some (.seq (.pair (.int .i64) (.pair (.int .i64) (.pair (.int .i64) .unit))) x1738)]⟩) (fin := (fun (t : (List (Int × Int × Int × Unit))) => ((Exit.exit 0), ⟨mkE 31 0 [(3, .slc 1)], [some (.box [dV x34, dI x1737]), some (.seq (.pair (.int .i64) (.pair (.int .i64) (.pair (.int .i64) .unit))) t)]⟩))) (by
  rintro t f K h
  · exact h) (fun s => link_map (spec_l20Written_n3_l s.1 x34 x1737 s.2 x1738) (Sum.elim (fun (t : Int × (List (Int × Int × Int × Unit))) => Sum.inl (t.1, t.2)) (fun (t : (List (Int × Int × Int × Unit))) => Sum.inr t)) (by
  rintro (t | t)
  · kernel_rfl
  · kernel_rfl)) (0, ([] : List (Int × Int × Int × Unit))))

def spec_l20Written_n5_l (x34 : List Int) (x1737 : Int) (x1738 : List (Int × Int × Int × Unit)) := (link_block (fin2 := (fun (t : (List (Int × Int × Int × Unit))) => (Exit.normal, ⟨mkE 31 0 [(3, .slc 1)], [some (.box [dV x34, dI x1737]), some (.seq (.pair (.int .i64) (.pair (.int .i64) (.pair (.int .i64) .unit))) t)]⟩))) (id := 0) (spec_l20Written_n4_l x34 x1737 x1738) (fun (t : (List (Int × Int × Int × Unit))) => t) (by
  rintro t K h
  · exact Eq.mp (by kernel_rfl) h))

def spec_l20Written_n6_l (x34 : List Int) (x1737 : Int) (x1738 : List (Int × Int × Int × Unit)) := (link_seq (spec_l20Written_n2_l x34 x1737 x1738) (fun (t : Unit) => (spec_l20Written_n5_l x34 x1737 x1738)))

theorem spec_l20Written_n7_l (x34 : List Int) (x1737 : Int) (x2140 : List (Int × Int × Int × Unit)) : Link spec_l20Written_ctx LL (cq [1,1,1,1] (bodyOf Tryd.f34)) (aq [1,1,1,1] spec_l20Written_an) ⟨mkE 31 0 [(3, .slc 1)], [some (.box [dV x34, dI x1737]), some (.seq (.pair (.int .i64) (.pair (.int .i64) (.pair (.int .i64) .unit))) x2140)]⟩ (spec_l20Written_n7 x1737 x2140) (fun (t : Int × (List (Int × Int × Int × Unit))) => (Exit.ret, ⟨mkE 31 0 [(2, .slc 1)], [some (.box [dV x34, dI t.1]), some (.seq (.pair (.int .i64) (.pair (.int .i64) (.pair (.int .i64) .unit))) t.2)]⟩)) := .of fun K h => by
  simp only [spec_l20Written_n7, wpW] at h
  exact .of (by kernel_rfl) h

def spec_l20Written_n8_l (x34 : List Int) (x1737 : Int) (x1738 : List (Int × Int × Int × Unit)) := (link_seq (spec_l20Written_n6_l x34 x1737 x1738) (fun (t : (List (Int × Int × Int × Unit))) => (spec_l20Written_n7_l x34 x1737 t)))

def spec_l20Written_n9_l (x34 : List Int) (x35 : Int) := (link_group (c := (cq [0,1,1] (bodyOf Tryd.f34))) (a := (aq [0,1,1] spec_l20Written_an)) [(cq [0] (bodyOf Tryd.f34)), (cq [0,1] (bodyOf Tryd.f34))] [(aq [0] spec_l20Written_an), (aq [0,1] spec_l20Written_an)] rfl (link_seq (spec_l20Written_n1_l x34 x35) (fun (t : Int × (List (Int × Int × Int × Unit))) => (spec_l20Written_n8_l x34 t.1 t.2))))

theorem spec_l20Written_e (x34 : List Int) (x35 : Int) {r : AV} {H' : Heap} (h : (Ans.mk _ (spec_l20Written x34 x35) (fun (t : Int × (List (Int × Int × Int × Unit))) => (.slc 1, [some (.box [dV x34, dI t.1]), some (.seq (.pair (.int .i64) (.pair (.int .i64) (.pair (.int .i64) .unit))) t.2)])) [] none).run = some (r, H')) : Awp spec_l20Written_ctx LL (bodyOf Tryd.f34) spec_l20Written_an ⟨mkE 31 0 [(0, .ptr 0 0)], [some (.box [dV x34, dI x35])]⟩ (Ret (tlook tys) Tryd.f34.results.toList r H') :=
  ret_of' (Link.cast (by kernel_rfl) (by kernel_rfl) (spec_l20Written_n9_l x34 x35)) (by unfold spec_l20Written; kernel_rfl) (by
  intro t
  exact ret_mk [.slc 1] (by kernel_rfl) (by kernel_rfl) (by kernel_rfl) (by kernel_rfl)) h

def F_spec_l20Written : Fun := fun avs H =>
  match avs, H with
  | [.ptr 0 0], [some (.box [.dat (.list (.int .u8)) x34, .dat (.int .i64) x35])] => ⟨_, spec_l20Written x34 x35, fun (t : Int × (List (Int × Int × Int × Unit))) => (.slc 1, [some (.box [dV x34, dI t.1]), some (.seq (.pair (.int .i64) (.pair (.int .i64) (.pair (.int .i64) .unit))) t.2)]), [], none⟩
  | _, _ => Ans.no

theorem spec_l20Written_sound : Sound Tryd.prog 34 F_spec_l20Written := by
  refine fn_sound' (C := spec_l20Written_ctx) (c := bodyOf Tryd.f34) (cok_of tys_ok (allc spec_l20Wild_sound (allc spec_l20Deeds_sound (allc spec_DeedText_sound alln))) (allc Tryd.call20 (allc Tryd.call51 (allc Tryd.call8 alln))) (by kernel_rfl)) Tryd.func34 (by kernel_rfl) LL spec_l20Written_an ?_
  intro avs H r H' h
  unfold F_spec_l20Written at h
  split at h
  · refine Awp.cast ?_ ?_ ?_ (spec_l20Written_e _ _ h) <;> kernel_rfl
  · simp [Ans.no, Ans.run] at h


/-! loop.example/headtrees/spec.DrawJournalText -/

def spec_DrawJournalText_an : Ann := (.seq (.leaf [0]) (.seq (.leaf [3]) (.seq (.leaf [3, 4]) (.seq (.seq (.leaf [4, 10]) (.cond (.leaf [4]) (.leaf [4]))) (.seq (.leaf [2]) (.leaf [2]))))))

noncomputable def spec_DrawJournalText_ctx : Ctx := ⟨tlook tys, olook [(18, F_spec_l20Open), (34, F_spec_l20Written), (35, F_spec_l20Rd_odd)], ioF, 0, false, []⟩

theorem spec_DrawJournalText_n1_l (x10 : List Int) : Link spec_DrawJournalText_ctx LL (bodyOf Tryd.f13) spec_DrawJournalText_an ⟨mkE 16 0 [(0, dV x10)], []⟩ (spec_DrawJournalText_n1 x10) (fun (t : (List (Int × Int × Int × Unit))) => (Exit.ret, ⟨mkE 16 0 [(2, .slc 0)], [some (.seq (.pair (.int .i64) (.pair (.int .i64) (.pair (.int .i64) .unit))) t)]⟩)) := .of fun K h => by
  simp only [spec_DrawJournalText_n1, wpW] at h
  exact .of (by kernel_rfl) h

theorem spec_DrawJournalText_e (x10 : List Int) {r : AV} {H' : Heap} (h : (Ans.mk _ (spec_DrawJournalText x10) (fun (t : (List (Int × Int × Int × Unit))) => (.slc 0, [some (.seq (.pair (.int .i64) (.pair (.int .i64) (.pair (.int .i64) .unit))) t)])) [] none).run = some (r, H')) : Awp spec_DrawJournalText_ctx LL (bodyOf Tryd.f13) spec_DrawJournalText_an ⟨mkE 16 0 [(0, dV x10)], []⟩ (Ret (tlook tys) Tryd.f13.results.toList r H') :=
  ret_of' (spec_DrawJournalText_n1_l x10) (by unfold spec_DrawJournalText; kernel_rfl) (by
  intro t
  exact ret_mk [.slc 0] (by kernel_rfl) (by kernel_rfl) (by kernel_rfl) (by kernel_rfl)) h

def F_spec_DrawJournalText : Fun := fun avs H =>
  match avs, H with
  | [.dat (.list (.int .u8)) x10], [] => ⟨_, spec_DrawJournalText x10, fun (t : (List (Int × Int × Int × Unit))) => (.slc 0, [some (.seq (.pair (.int .i64) (.pair (.int .i64) (.pair (.int .i64) .unit))) t)]), [], none⟩
  | _, _ => Ans.no

theorem spec_DrawJournalText_sound : Sound Tryd.prog 13 F_spec_DrawJournalText := by
  refine fn_sound' (C := spec_DrawJournalText_ctx) (c := bodyOf Tryd.f13) (cok_of tys_ok (allc spec_l20Open_sound (allc spec_l20Written_sound (allc spec_l20Rd_odd_sound alln))) (allc Tryd.call18 (allc Tryd.call34 (allc Tryd.call35 alln))) (by kernel_rfl)) Tryd.func13 (by kernel_rfl) LL spec_DrawJournalText_an ?_
  intro avs H r H' h
  unfold F_spec_DrawJournalText at h
  split at h
  · refine Awp.cast ?_ ?_ ?_ (spec_DrawJournalText_e _ h) <;> kernel_rfl
  · simp [Ans.no, Ans.run] at h


/-! loop.example/headtrees/impl.numbersIn -/

def impl_numbersIn_an : Ann := (.seq (.leaf [0]) (.seq (.seq (.leaf [3]) (.block (.seq (.leaf [3, 4]) (.cond (.seq (.leaf [2]) (.leaf [2])) (.seq (.leaf [6]) (.cond (.seq (.leaf [2]) (.leaf [2])) (.leaf []))))))) (.seq (.leaf [2]) (.leaf [2]))))

noncomputable def impl_numbersIn_ctx : Ctx := ⟨tlook tys, olook [], ioF, 0, false, []⟩

theorem impl_numbersIn_n1_l (x2267 : Int) : Link impl_numbersIn_ctx LL (bodyOf Tryd.f22) impl_numbersIn_an ⟨mkE 8 0 [(0, dI x2267)], []⟩ (impl_numbersIn_n1 x2267) (fun (t : Int) => (Exit.ret, ⟨mkE 8 0 [(2, dI t)], []⟩)) := .of fun K h => by
  simp only [impl_numbersIn_n1, wpW] at h
  exact .of (by kernel_rfl) h

theorem impl_numbersIn_e (x2267 : Int) {r : AV} {H' : Heap} (h : (Ans.mk _ (impl_numbersIn x2267) (fun (t : Int) => (dI t, [])) [] none).run = some (r, H')) : Awp impl_numbersIn_ctx LL (bodyOf Tryd.f22) impl_numbersIn_an ⟨mkE 8 0 [(0, dI x2267)], []⟩ (Ret (tlook tys) Tryd.f22.results.toList r H') :=
  ret_of' (impl_numbersIn_n1_l x2267) (by unfold impl_numbersIn; kernel_rfl) (by
  intro t
  exact ret_mk [dI t] (by kernel_rfl) (by kernel_rfl) (by kernel_rfl) (by kernel_rfl)) h

def F_impl_numbersIn : Fun := fun avs H =>
  match avs, H with
  | [.dat (.int .i64) x2267], [] => ⟨_, impl_numbersIn x2267, fun (t : Int) => (dI t, []), [], none⟩
  | _, _ => Ans.no

theorem impl_numbersIn_sound : Sound Tryd.prog 22 F_impl_numbersIn := by
  refine fn_sound' (C := impl_numbersIn_ctx) (c := bodyOf Tryd.f22) (cok_of tys_ok (alln) (alln) (by kernel_rfl)) Tryd.func22 (by kernel_rfl) LL impl_numbersIn_an ?_
  intro avs H r H' h
  unfold F_impl_numbersIn at h
  split at h
  · refine Awp.cast ?_ ?_ ?_ (impl_numbersIn_e _ h) <;> kernel_rfl
  · simp [Ans.no, Ans.run] at h


/-! (loop.example/headtrees/impl.Deed).restOk -/

def impl_Deed_restOk_an : Ann := (.seq (.leaf [1]) (.seq (.leaf [1, 3]) (.seq (.leaf [2]) (.leaf [2]))))

noncomputable def impl_Deed_restOk_ctx : Ctx := ⟨tlook tys, olook [(22, F_impl_numbersIn)], ioF, 0, false, []⟩

theorem impl_Deed_restOk_n1_l (x2264 : Int) (x2265 : Int) (x2266 : Int) : Link impl_Deed_restOk_ctx LL (bodyOf Tryd.f44) impl_Deed_restOk_an ⟨mkE 23 0 [(0, .agg [dI x2264, dI x2265, dI x2266])], []⟩ (impl_Deed_restOk_n1 x2264 x2265 x2266) (fun (t : Bool) => (Exit.ret, ⟨mkE 23 0 [(2, dB t)], []⟩)) := .of fun K h => by
  simp only [impl_Deed_restOk_n1, wpW] at h
  exact .of (by kernel_rfl) h

theorem impl_Deed_restOk_e (x2264 : Int) (x2265 : Int) (x2266 : Int) {r : AV} {H' : Heap} (h : (Ans.mk _ (impl_Deed_restOk x2264 x2265 x2266) (fun (t : Bool) => (dB t, [])) [] none).run = some (r, H')) : Awp impl_Deed_restOk_ctx LL (bodyOf Tryd.f44) impl_Deed_restOk_an ⟨mkE 23 0 [(0, .agg [dI x2264, dI x2265, dI x2266])], []⟩ (Ret (tlook tys) Tryd.f44.results.toList r H') :=
  ret_of' (impl_Deed_restOk_n1_l x2264 x2265 x2266) (by unfold impl_Deed_restOk; kernel_rfl) (by
  intro t
  exact ret_mk [dB t] (by kernel_rfl) (by kernel_rfl) (by kernel_rfl) (by kernel_rfl)) h

def F_impl_Deed_restOk : Fun := fun avs H =>
  match avs, H with
  | [.agg [.dat (.int .i64) x2264, .dat (.int .i64) x2265, .dat (.int .i64) x2266]], [] => ⟨_, impl_Deed_restOk x2264 x2265 x2266, fun (t : Bool) => (dB t, []), [], none⟩
  | _, _ => Ans.no

theorem impl_Deed_restOk_sound : Sound Tryd.prog 44 F_impl_Deed_restOk := by
  refine fn_sound' (C := impl_Deed_restOk_ctx) (c := bodyOf Tryd.f44) (cok_of tys_ok (allc impl_numbersIn_sound alln) (allc Tryd.call22 alln) (by kernel_rfl)) Tryd.func44 (by kernel_rfl) LL impl_Deed_restOk_an ?_
  intro avs H r H' h
  unfold F_impl_Deed_restOk at h
  split at h
  · refine Awp.cast ?_ ?_ ?_ (impl_Deed_restOk_e _ _ _ h) <;> kernel_rfl
  · simp [Ans.no, Ans.run] at h


/-! (loop.example/headtrees/impl.Deed).inText -/

def impl_Deed_inText_an : Ann := (.seq (.leaf [1]) (.seq (.leaf [2]) (.leaf [2])))

noncomputable def impl_Deed_inText_ctx : Ctx := ⟨tlook tys, olook [(44, F_impl_Deed_restOk)], ioF, 0, false, []⟩

theorem impl_Deed_inText_n1_l (x2259 : Int) (x2260 : Int) (x2261 : Int) : Link impl_Deed_inText_ctx LL (bodyOf Tryd.f21) impl_Deed_inText_an ⟨mkE 35 0 [(0, .agg [dI x2259, dI x2260, dI x2261])], []⟩ (impl_Deed_inText_n1 x2259 x2260 x2261) (fun (t : Bool) => (Exit.ret, ⟨mkE 35 0 [(2, dB t)], []⟩)) := .of fun K h => by
  simp only [impl_Deed_inText_n1, wpW] at h
  exact .of (by kernel_rfl) h

theorem impl_Deed_inText_e (x2259 : Int) (x2260 : Int) (x2261 : Int) {r : AV} {H' : Heap} (h : (Ans.mk _ (impl_Deed_inText x2259 x2260 x2261) (fun (t : Bool) => (dB t, [])) [] none).run = some (r, H')) : Awp impl_Deed_inText_ctx LL (bodyOf Tryd.f21) impl_Deed_inText_an ⟨mkE 35 0 [(0, .agg [dI x2259, dI x2260, dI x2261])], []⟩ (Ret (tlook tys) Tryd.f21.results.toList r H') :=
  ret_of' (impl_Deed_inText_n1_l x2259 x2260 x2261) (by unfold impl_Deed_inText; kernel_rfl) (by
  intro t
  exact ret_mk [dB t] (by kernel_rfl) (by kernel_rfl) (by kernel_rfl) (by kernel_rfl)) h

def F_impl_Deed_inText : Fun := fun avs H =>
  match avs, H with
  | [.agg [.dat (.int .i64) x2259, .dat (.int .i64) x2260, .dat (.int .i64) x2261]], [] => ⟨_, impl_Deed_inText x2259 x2260 x2261, fun (t : Bool) => (dB t, []), [], none⟩
  | _, _ => Ans.no

theorem impl_Deed_inText_sound : Sound Tryd.prog 21 F_impl_Deed_inText := by
  refine fn_sound' (C := impl_Deed_inText_ctx) (c := bodyOf Tryd.f21) (cok_of tys_ok (allc impl_Deed_restOk_sound alln) (allc Tryd.call44 alln) (by kernel_rfl)) Tryd.func21 (by kernel_rfl) LL impl_Deed_inText_an ?_
  intro avs H r H' h
  unfold F_impl_Deed_inText at h
  split at h
  · refine Awp.cast ?_ ?_ ?_ (impl_Deed_inText_e _ _ _ h) <;> kernel_rfl
  · simp [Ans.no, Ans.run] at h


/-! strconv.Itoa -/

def ren_itoaS : Go.Shelf.Ren := ⟨fun | 129 => 83 | 171 => 23 | 243 => 45 | 246 => 56 | 283 => 68 | 284 => 69 | 285 => 70 | 286 => 71 | 317 => 82 | 318 => 84 | 319 => 85 | 320 => 86 | 337 => 92 | 338 => 93 | n => n, fun | 0 => 0 | 2 => 2 | 3 => 3 | 4 => 4 | 5 => 5 | 9 => 9 | 20 => 20 | 37 => 22 | 46 => 102 | 51 => 109 | 53 => 91 | 171 => 90 | 173 => 94 | 212 => 108 | 213 => 110 | 232 => 124 | 233 => 125 | n => n, fun | 17 => 4 | 18 => 7 | 19 => 8 | n => n⟩
theorem lay_itoaS : Lays.n171 Tryd.prog ren_itoaS := {
  mixed := by kernel_rfl
  f129 := Tryd.func83.trans (congrArg some (by kernel_rfl))
  f171 := Tryd.func23.trans (congrArg some (by kernel_rfl))
  f243 := Tryd.func45.trans (congrArg some (by kernel_rfl))
  f246 := Tryd.func56.trans (congrArg some (by kernel_rfl))
  f283 := Tryd.func68.trans (congrArg some (by kernel_rfl))
  f284 := Tryd.func69.trans (congrArg some (by kernel_rfl))
  f285 := Tryd.func70.trans (congrArg some (by kernel_rfl))
  f286 := Tryd.func71.trans (congrArg some (by kernel_rfl))
  f317 := Tryd.func82.trans (congrArg some (by kernel_rfl))
  f318 := Tryd.func84.trans (congrArg some (by kernel_rfl))
  f319 := Tryd.func85.trans (congrArg some (by kernel_rfl))
  f320 := Tryd.func86.trans (congrArg some (by kernel_rfl))
  f337 := Tryd.func92.trans (congrArg some (by kernel_rfl))
  f338 := Tryd.func93.trans (congrArg some (by kernel_rfl))
  t0 := Tryd.underlying0
  a0 := Tryd.isAgg0
  z0 := Tryd.sizeOf0
  v0 := Tryd.zeroValue0
  t2 := Tryd.underlying2
  a2 := Tryd.isAgg2
  z2 := Tryd.sizeOf2
  v2 := Tryd.zeroValue2
  t3 := Tryd.underlying3
  a3 := Tryd.isAgg3
  z3 := Tryd.sizeOf3
  v3 := Tryd.zeroValue3
  t4 := Tryd.underlying4
  a4 := Tryd.isAgg4
  z4 := Tryd.sizeOf4
  v4 := Tryd.zeroValue4
  t5 := Tryd.underlying5
  a5 := Tryd.isAgg5
  z5 := Tryd.sizeOf5
  v5 := Tryd.zeroValue5
  t9 := Tryd.underlying9
  a9 := Tryd.isAgg9
  z9 := Tryd.sizeOf9
  v9 := Tryd.zeroValue9
  t20 := Tryd.underlying20
  a20 := Tryd.isAgg20
  z20 := Tryd.sizeOf20
  v20 := Tryd.zeroValue20
  t37 := Tryd.underlying22
  a37 := Tryd.isAgg22
  z37 := Tryd.sizeOf22
  v37 := Tryd.zeroValue22
  t46 := Tryd.underlying102
  a46 := Tryd.isAgg102
  z46 := Tryd.sizeOf102
  v46 := Tryd.zeroValue102
  t51 := Tryd.underlying109
  a51 := Tryd.isAgg109
  z51 := Tryd.sizeOf109
  v51 := Tryd.zeroValue109
  t53 := Tryd.underlying91
  a53 := Tryd.isAgg91
  z53 := Tryd.sizeOf91
  v53 := Tryd.zeroValue91
  t171 := Tryd.underlying90
  a171 := Tryd.isAgg90
  z171 := Tryd.sizeOf90
  v171 := Tryd.zeroValue90
  t173 := Tryd.underlying94
  a173 := Tryd.isAgg94
  z173 := Tryd.sizeOf94
  v173 := Tryd.zeroValue94
  t212 := Tryd.underlying108
  a212 := Tryd.isAgg108
  z212 := Tryd.sizeOf108
  v212 := Tryd.zeroValue108
  t213 := Tryd.underlying110
  a213 := Tryd.isAgg110
  z213 := Tryd.sizeOf110
  t232 := Tryd.underlying124
  a232 := Tryd.isAgg124
  z232 := Tryd.sizeOf124
  v232 := Tryd.zeroValue124
  t233 := Tryd.underlying125
  a233 := Tryd.isAgg125
  z233 := Tryd.sizeOf125
  v233 := Tryd.zeroValue125
  g17 := by kernel_rfl
  g18 := by kernel_rfl
  g19 := by kernel_rfl }

def F_strconv_Itoa : Fun := F_itoaS
theorem strconv_Itoa_sound : Sound Tryd.prog 23 F_strconv_Itoa := itoaS_sound lay_itoaS


/-! loop.example/headtrees/impl.DeedText -/

def impl_DeedText_an : Ann := (.seq (.leaf [1]) (.seq (.seq (.leaf [1, 8]) (.cond (.seq (.leaf [2]) (.leaf [2])) (.leaf [1]))) (.seq (.leaf [1, 3]) (.seq (.seq (.draw [7, 4] [0, 1, 2, 3, 4, 5, 6, 10, 7, 8, 9] [] [3, 21, 22, 23]) (.block (.loop (.seq (.leaf [3, 21, 22, 23, 24]) (.seq (.cond (.leaf [3, 21, 22, 23]) (.leaf [3])) (.seq (.block (.seq (.leaf [3, 5, 21, 22, 23]) (.leaf [3, 21, 22, 23]))) (.leaf [3, 21, 22, 23]))))))) (.seq (.leaf [2]) (.leaf [2]))))))

noncomputable def impl_DeedText_ctx : Ctx := ⟨tlook tys, olook [(21, F_impl_Deed_inText), (22, F_impl_numbersIn), (23, F_strconv_Itoa)], ioF, 0, false, []⟩

theorem impl_DeedText_n1_l (x2256 : Int) (x2257 : Int) (x2258 : Int) : Link impl_DeedText_ctx LL (Code.seq (cq [0] (bodyOf Tryd.f7)) (Code.seq (cq [0,1] (bodyOf Tryd.f7)) (cq [0,1,1] (bodyOf Tryd.f7)))) (Ann.seq (aq [0] impl_DeedText_an) (Ann.seq (aq [0,1] impl_DeedText_an) (aq [0,1,1] impl_DeedText_an))) ⟨mkE 34 0 [(0, .agg [dI x2256, dI x2257, dI x2258])], []⟩ (impl_DeedText_n1 x2256 x2257 x2258) (Sum.elim (fun (t : ByteArray) => (Exit.normal, ⟨mkE 34 0 [(1, .ptr 0 0), (3, dS t)], [some (.box [dI x2256, dI x2257, dI x2258])]⟩)) (fun (t : ByteArray) => (Exit.ret, ⟨mkE 34 0 [(2, dS t)], []⟩))) := .of fun K h => by
  simp only [impl_DeedText_n1, wpW] at h
  exact .of (by kernel_rfl) h

theorem impl_DeedText_n2_l (x2316 : ByteArray) (x2256 : Int) (x2257 : Int) (x2258 : Int) : Link impl_DeedText_ctx LL (cq [0,0,1,1,1] (bodyOf Tryd.f7)) (aq [0,0,1,1,1] impl_DeedText_an) ⟨mkE 34 0 [(1, .ptr 0 0), (3, dS x2316)], [some (.box [dI x2256, dI x2257, dI x2258])]⟩ (impl_DeedText_n2 x2256 x2257 x2258) (fun (t : (List Int) × Int) => (Exit.normal, ⟨mkE 34 0 [(3, dS x2316), (21, dL t.1), (22, dI t.2), (23, dI 0)], []⟩)) := .of fun K h => by
  simp only [impl_DeedText_n2, wpW] at h
  exact .of (by kernel_rfl) h

theorem impl_DeedText_n3_l (x2338 : ByteArray) (x2321 : List Int) (x2322 : Int) (x2339 : Int) : Link impl_DeedText_ctx LL (cq [0,0,1,0,1,1,1] (bodyOf Tryd.f7)) (aq [0,0,1,0,1,1,1] impl_DeedText_an) ⟨mkE 34 0 [(3, dS x2338), (21, dL x2321), (22, dI x2322), (23, dI x2339)], []⟩ (impl_DeedText_n3 x2338 x2321 x2322 x2339) (Sum.elim (fun (t : ByteArray × Int) => (Exit.normal, ⟨mkE 34 0 [(3, dS t.1), (21, dL x2321), (22, dI x2322), (23, dI t.2)], []⟩)) (fun (t : ByteArray) => ((Exit.exit 0), ⟨mkE 34 0 [(3, dS t)], []⟩))) := .of fun K h => by
  simp only [impl_DeedText_n3, wpW] at h
  exact .of (by kernel_rfl) h

def impl_DeedText_n4_l (x2316 : ByteArray) (x2321 : List Int) (x2322 : Int) := (link_loop (mk := fun (s : ByteArray × Int) => ⟨mkE 34 0 [(3, dS s.1), (21, dL x2321), (22, dI x2322), (23, dI s.2)], []⟩) (fin := (fun (t : ByteArray) => ((Exit.exit 0), ⟨mkE 34 0 [(3, dS t)], []⟩))) (by
  rintro t f K h
  · exact h) (fun s => link_map (impl_DeedText_n3_l s.1 x2321 x2322 s.2) (Sum.elim (fun (t : ByteArray × Int) => Sum.inl (t.1, t.2)) (fun (t : ByteArray) => Sum.inr t)) (by
  rintro (t | t)
  · kernel_rfl
  · kernel_rfl)) (x2316, 0))

def impl_DeedText_n5_l (x2316 : ByteArray) (x2321 : List Int) (x2322 : Int) := (link_block (fin2 := (fun (t : ByteArray) => (Exit.normal, ⟨mkE 34 0 [(3, dS t)], []⟩))) (id := 0) (impl_DeedText_n4_l x2316 x2321 x2322) (fun (t : ByteArray) => t) (by
  rintro t K h
  · exact Eq.mp (by kernel_rfl) h))

def impl_DeedText_n6_l (x2316 : ByteArray) (x2256 : Int) (x2257 : Int) (x2258 : Int) := (link_seq (impl_DeedText_n2_l x2316 x2256 x2257 x2258) (fun (t : (List Int) × Int) => (impl_DeedText_n5_l x2316 t.1 t.2)))

theorem impl_DeedText_n7_l (x2338 : ByteArray) : Link impl_DeedText_ctx LL (cq [1,1,1,1] (bodyOf Tryd.f7)) (aq [1,1,1,1] impl_DeedText_an) ⟨mkE 34 0 [(3, dS x2338)], []⟩ (impl_DeedText_n7 x2338) (fun (t : ByteArray) => (Exit.ret, ⟨mkE 34 0 [(2, dS t)], []⟩)) := .of fun K h => by
  simp only [impl_DeedText_n7, wpW] at h
  exact .of (by kernel_rfl) h

def impl_DeedText_n8_l (x2316 : ByteArray) (x2256 : Int) (x2257 : Int) (x2258 : Int) := (link_seq (impl_DeedText_n6_l x2316 x2256 x2257 x2258) (fun (t : ByteArray) => (impl_DeedText_n7_l t)))

def impl_DeedText_n9_l (x2256 : Int) (x2257 : Int) (x2258 : Int) := (link_group (c := (cq [0,1,1] (bodyOf Tryd.f7))) (a := (aq [0,1,1] impl_DeedText_an)) [(cq [0] (bodyOf Tryd.f7)), (cq [0,1] (bodyOf Tryd.f7))] [(aq [0] impl_DeedText_an), (aq [0,1] impl_DeedText_an)] rfl (link_seq2 (impl_DeedText_n1_l x2256 x2257 x2258) (fun (t : ByteArray) => (impl_DeedText_n8_l t x2256 x2257 x2258)) (fun (t : ByteArray) => t) (by
  rintro t
  · kernel_rfl) (by
  rintro t f K h
  · exact h)))

theorem impl_DeedText_e (x2256 : Int) (x2257 : Int) (x2258 : Int) {r : AV} {H' : Heap} (h : (Ans.mk _ (impl_DeedText x2256 x2257 x2258) (fun (t : ByteArray) => (dS t, [])) [] none).run = some (r, H')) : Awp impl_DeedText_ctx LL (bodyOf Tryd.f7) impl_DeedText_an ⟨mkE 34 0 [(0, .agg [dI x2256, dI x2257, dI x2258])], []⟩ (Ret (tlook tys) Tryd.f7.results.toList r H') :=
  ret_of' (Link.cast (by kernel_rfl) (by kernel_rfl) (impl_DeedText_n9_l x2256 x2257 x2258)) (by unfold impl_DeedText; kernel_rfl) (by
  intro t
  exact ret_mk [dS t] (by kernel_rfl) (by kernel_rfl) (by kernel_rfl) (by kernel_rfl)) h

def F_impl_DeedText : Fun := fun avs H =>
  match avs, H with
  | [.agg [.dat (.int .i64) x2256, .dat (.int .i64) x2257, .dat (.int .i64) x2258]], [] => ⟨_, impl_DeedText x2256 x2257 x2258, fun (t : ByteArray) => (dS t, []), [], none⟩
  | _, _ => Ans.no

theorem impl_DeedText_sound : Sound Tryd.prog 7 F_impl_DeedText := by
  refine fn_sound' (C := impl_DeedText_ctx) (c := bodyOf Tryd.f7) (cok_of tys_ok (allc impl_Deed_inText_sound (allc impl_numbersIn_sound (allc strconv_Itoa_sound alln))) (allc Tryd.call21 (allc Tryd.call22 (allc Tryd.call23 alln))) (by kernel_rfl)) Tryd.func7 (by kernel_rfl) LL impl_DeedText_an ?_
  intro avs H r H' h
  unfold F_impl_DeedText at h
  split at h
  · refine Awp.cast ?_ ?_ ?_ (impl_DeedText_e _ _ _ h) <;> kernel_rfl
  · simp [Ans.no, Ans.run] at h


/-! loop.example/headtrees/impl.JournalText -/

def ren_impl_JournalText : Go.Shelf.Ren := ⟨fun | 166 => 36 | 169 => 37 | 240 => 52 | 276 => 66 | n => n, fun | 0 => 0 | 3 => 3 | 4 => 4 | 5 => 5 | 9 => 9 | 20 => 20 | 37 => 22 | 70 => 59 | 72 => 61 | 75 => 52 | 80 => 62 | 127 => 74 | 164 => 88 | n => n, fun | n => n⟩
theorem lay_impl_JournalText_w : Lays.n166 Tryd.prog ren_impl_JournalText := {
  mixed := by kernel_rfl
  f166 := Tryd.func36.trans (congrArg some (by kernel_rfl))
  f240 := Tryd.func52.trans (congrArg some (by kernel_rfl))
  f276 := Tryd.func66.trans (congrArg some (by kernel_rfl))
  t0 := Tryd.underlying0
  a0 := Tryd.isAgg0
  z0 := Tryd.sizeOf0
  v0 := Tryd.zeroValue0
  t3 := Tryd.underlying3
  a3 := Tryd.isAgg3
  z3 := Tryd.sizeOf3
  v3 := Tryd.zeroValue3
  t4 := Tryd.underlying4
  a4 := Tryd.isAgg4
  z4 := Tryd.sizeOf4
  v4 := Tryd.zeroValue4
  t9 := Tryd.underlying9
  a9 := Tryd.isAgg9
  z9 := Tryd.sizeOf9
  v9 := Tryd.zeroValue9
  t20 := Tryd.underlying20
  a20 := Tryd.isAgg20
  z20 := Tryd.sizeOf20
  v20 := Tryd.zeroValue20
  t37 := Tryd.underlying22
  a37 := Tryd.isAgg22
  z37 := Tryd.sizeOf22
  v37 := Tryd.zeroValue22
  t70 := Tryd.underlying59
  a70 := Tryd.isAgg59
  z70 := Tryd.sizeOf59
  v70 := Tryd.zeroValue59
  t72 := Tryd.underlying61
  a72 := Tryd.isAgg61
  z72 := Tryd.sizeOf61
  v72 := Tryd.zeroValue61
  t75 := Tryd.underlying52
  a75 := Tryd.isAgg52
  z75 := Tryd.sizeOf52
  v75 := Tryd.zeroValue52
  t164 := Tryd.underlying88
  a164 := Tryd.isAgg88
  z164 := Tryd.sizeOf88
  v164 := Tryd.zeroValue88 }
theorem lay_impl_JournalText_s : Lays.n169 Tryd.prog ren_impl_JournalText := {
  mixed := by kernel_rfl
  f169 := Tryd.func37.trans (congrArg some (by kernel_rfl))
  t0 := Tryd.underlying0
  a0 := Tryd.isAgg0
  z0 := Tryd.sizeOf0
  v0 := Tryd.zeroValue0
  t3 := Tryd.underlying3
  a3 := Tryd.isAgg3
  z3 := Tryd.sizeOf3
  v3 := Tryd.zeroValue3
  t9 := Tryd.underlying9
  a9 := Tryd.isAgg9
  z9 := Tryd.sizeOf9
  v9 := Tryd.zeroValue9
  t37 := Tryd.underlying22
  a37 := Tryd.isAgg22
  z37 := Tryd.sizeOf22
  v37 := Tryd.zeroValue22
  t70 := Tryd.underlying59
  a70 := Tryd.isAgg59
  z70 := Tryd.sizeOf59
  v70 := Tryd.zeroValue59
  t72 := Tryd.underlying61
  a72 := Tryd.isAgg61
  z72 := Tryd.sizeOf61
  v72 := Tryd.zeroValue61
  t127 := Tryd.underlying74
  a127 := Tryd.isAgg74
  z127 := Tryd.sizeOf74
  v127 := Tryd.zeroValue74 }
theorem lay_impl_JournalText_x : Builder.Extra Tryd.prog ren_impl_JournalText := {
  sizeBuilder := by kernel_rfl
  liesBuilder := by kernel_rfl
  t5 := Tryd.underlying5
  a5 := Tryd.isAgg5
  z5 := Tryd.sizeOf5
  v5 := Tryd.zeroValue5
  infoByte := by kernel_rfl
  cellsByte := by kernel_rfl
  sizeByte := by kernel_rfl
  neB5 := by decide }

set_option maxRecDepth 100000 in
theorem impl_JournalText_walk (xs : List DeedV) (a : Option Addr) (cap : Nat) (t : ByteArray) (w : World)
    (hD0 : ∀ (d : DeedV) (s : ByteArray) (w' : World), (fun d : DeedV => impl_DeedText d.1 d.2.1 d.2.2.1) d = some s → Go.RowKit.Below w.heap.size w w' → Calls Tryd.prog 7 #[deedVal d] w' fun e w'' => e = .returned (.string s) ∧ Go.RowKit.Below w'.heap.size w' w'')
    (hc0 : DeedCells w a xs) (hn : xs.length ≤ 1099511627776) (hcap : xs.length ≤ cap) (ht0 : jtext (fun d : DeedV => impl_DeedText d.1 d.2.1 d.2.2.1) xs ByteArray.empty = some t) :
    Calls Tryd.prog 14 #[.slice a xs.length cap] w fun e w' => e = .returned (.string t) ∧ Go.RowKit.Below w.heap.size w w' := by
  generalize (fun d : DeedV => impl_DeedText d.1 d.2.1 d.2.2.1) = g at hD0 ht0
  have HC : Go.RowKit.Hid (DeedCells w a xs) := hc0
  have HD : Go.RowKit.Hid (∀ (d : DeedV) (s : ByteArray) (w' : World), g d = some s → Go.RowKit.Below w.heap.size w w' → Calls Tryd.prog 7 #[deedVal d] w' fun e w'' => e = .returned (.string s) ∧ Go.RowKit.Below w'.heap.size w' w'') := hD0
  have HT : Go.RowKit.Hid (jtext g xs ByteArray.empty = some t) := ht0
  clear hc0 hD0 ht0
  go_enter Tryd.func14, Tryd.ntmps14
  go_wp2_with fail
  go_loopw [9] (fun i wr => ∃ k : Nat, k ≤ xs.length ∧ i = .int .i64 k ∧ Go.RowKit.Hid (∃ acc, jtext g (xs.drop k) acc = some t ∧ Lib.IsBuilderF 61 5 w.heap.size w.heap.size (Lib.byteCells acc.data.toList) wr) ∧ Go.RowKit.Hid (Go.RowKit.Below w.heap.size w wr)) (fun i _ => xs.length - (Go.RowKit.intOf i).toNat)
  case atStart => exact ⟨0, Nat.zero_le _, rfl, ⟨ByteArray.empty, HT.out, bld_new w⟩, (Go.RowKit.Below.refl _ _).alloc (Nat.le_refl _) _⟩
  case round =>
    obtain ⟨k, hk, rfl, HA, HW⟩ := hrel
    by_cases hkn : k < xs.length
    · obtain ⟨acc, hj, hB⟩ := HA.out
      have hd : xs[k]? = some xs[k] := List.getElem?_eq_getElem hkn
      obtain ⟨b, o, rfl, hb, c0, c1, c2⟩ := HC.out k _ hd
      rw [← HW.out.cell (p := ⟨b, _, none⟩) hb] at c0 c1 c2
      rw [List.drop_eq_getElem_cons hkn, jtext] at hj
      generalize xs[k] = d at hd c0 c1 c2 hj
      obtain ⟨s, hs, hj⟩ := Option.bind_eq_some_iff.1 hj
      have Hj := (show Go.RowKit.Hid _ from hj)
      clear hj
      go_wp2_with fail
      refine Calls.mono (HD.out d s _ hs (HW.out.alloc HW.out.size _)) ?_
      rintro e w1 ⟨rfl, hb1⟩
      have HB1 : Go.RowKit.Hid (Lib.IsBuilderF 61 5 w.heap.size w.heap.size (Lib.byteCells acc.data.toList) w1) := bld_keep hB (fun q hq => (hb1.block q (by simp; omega)).trans (Go.RowKit.Below.heap_alloc _ _ _ hq))
      have HW1 : Go.RowKit.Hid (Go.RowKit.Below w.heap.size w w1) := (HW.out.alloc HW.out.size _).trans (hb1.mono (by have := HW.out.size; simp; omega))
      clear hb1
      by_cases hse : s = ByteArray.empty
      · subst hse
        have ht : t = ByteArray.empty := by
          have := Hj.out
          rw [if_pos rfl] at this
          exact (Option.some.inj this).symm
        subst ht
        go_wp2_with fail
        go_ret
        exact ⟨rfl, HW1.out⟩
      · have hj := Hj.out
        rw [if_neg hse] at hj
        split at hj
        · rename_i hsz
          have hemp : s.toList.isEmpty = false := by
            rw [Bool.eq_false_iff]
            intro h
            rw [List.isEmpty_iff, Lib.toList_data] at h
            exact hse (ByteArray.ext (Array.toList_inj.mp h))
          have hle : ¬ 9223372036854775807 < s.size + 1 := by omega
          have hal : (Lib.byteCells acc.data.toList).length = acc.size := by rw [Lib.byteCells_length, Lib.size_eq]
          have cW := Any.Builder_WriteString_k lay_impl_JournalText_w lay_impl_JournalText_x w.heap.size w.heap.size (Lib.byteCells acc.data.toList) (s ++ ByteArray.mk #[10]) w1 HB1.out (by rw [hal, ByteArray.size_append]; exact hsz.2) HW1.out.size
          have hnext : Lib.byteCells acc.data.toList ++ Lib.strCells (s ++ ByteArray.mk #[10]) = Lib.byteCells (acc ++ (s ++ ByteArray.mk #[10])).data.toList := by
            rw [Lib.strCells_eq, ← Lib.byteCells_append, show (acc ++ (s ++ ByteArray.mk #[10])).data = acc.data ++ (s ++ ByteArray.mk #[10]).data from ByteArray.data_append, Array.toList_append]
          rw [hnext] at cW
          have Hj2 := (show Go.RowKit.Hid _ from hj)
          have HCW := (show Go.RowKit.Hid _ from cW)
          clear hj cW hnext hal
          go_wp2_with fail
          refine Calls.mono HCW.out ?_
          rintro e w2 ⟨rfl, h2, hb2, _⟩
          have HB2 := (show Go.RowKit.Hid _ from h2)
          have HW2 := (show Go.RowKit.Hid _ from HW1.out.trans hb2)
          clear h2 hb2
          go_wp2
          go_roundw
          case rel => exact ⟨k + 1, by omega, by go_num, ⟨⟨_, Hj2.out, .inr HB2.out⟩, HW2⟩⟩
          case measure => simp [Go.RowKit.intOf]; omega
        · cases hj
    · have hke : k = xs.length := by omega
      subst hke
      obtain ⟨acc, hj, hB⟩ := HA.out
      rw [List.drop_eq_nil_of_le (Nat.le_refl _), jtext] at hj
      obtain rfl := Option.some.inj hj
      have HCS := (show Go.RowKit.Hid _ from Any.Builder_String_any_k lay_impl_JournalText_s lay_impl_JournalText_x w.heap.size w.heap.size acc.data.toList wr hB HW.out.size)
      clear hj
      go_wp2_with fail
      refine Calls.mono HCS.out ?_
      rintro e w2 ⟨rfl, _, hb2, _⟩
      have HW2 := (show Go.RowKit.Hid _ from HW.out.trans hb2)
      go_wp2
      go_ret
      exact ⟨rfl, HW2.out⟩

def F_impl_JournalText : Fun := F_jtext (fun d : DeedV => impl_DeedText d.1 d.2.1 d.2.2.1)
theorem impl_JournalText_sound : Sound Tryd.prog 14 F_impl_JournalText := jtext_sound (g := (fun d : DeedV => impl_DeedText d.1 d.2.1 d.2.2.1)) (fun _ => rfl) impl_DeedText_sound impl_JournalText_walk


/-! loop.example/headtrees/spec.JournalText -/

def spec_JournalText_an : Ann := (.seq (.leaf [0]) (.seq (.leaf [0, 3]) (.seq (.seq (.leaf [0, 3, 4]) (.block (.loop (.seq (.seq (.leaf [0, 3, 4, 8]) (.cond (.leaf [0, 3, 4]) (.leaf [3]))) (.seq (.block (.seq (.seq (.leaf [0, 3, 4, 16]) (.cond (.seq (.leaf [2]) (.leaf [2])) (.leaf [0, 3, 4]))) (.leaf [0, 3, 4]))) (.leaf [0, 3, 4])))))) (.seq (.leaf [2]) (.leaf [2])))))

noncomputable def spec_JournalText_ctx : Ctx := ⟨tlook tys, olook [(8, F_spec_DeedText)], ioF, 0, false, []⟩

theorem spec_JournalText_n1_l (x2360 : List (Int × Int × Int × Unit)) : Link spec_JournalText_ctx LL (Code.seq (cq [0] (bodyOf Tryd.f15)) (cq [0,1] (bodyOf Tryd.f15))) (Ann.seq (aq [0] spec_JournalText_an) (aq [0,1] spec_JournalText_an)) ⟨mkE 26 0 [(0, .dat (.list (.pair (.int .i64) (.pair (.int .i64) (.pair (.int .i64) .unit)))) x2360)], []⟩ (spec_JournalText_n1) (fun (t : Unit) => (Exit.normal, ⟨mkE 26 0 [(0, .dat (.list (.pair (.int .i64) (.pair (.int .i64) (.pair (.int .i64) .unit)))) x2360), (3, dS ByteArray.empty)], []⟩)) := .of fun K h => by
  simp only [spec_JournalText_n1, wpW] at h
  exact .of (by kernel_rfl) h

theorem spec_JournalText_n2_l (x2360 : List (Int × Int × Int × Unit)) : Link spec_JournalText_ctx LL (cq [0,0,1,1] (bodyOf Tryd.f15)) (aq [0,0,1,1] spec_JournalText_an) ⟨mkE 26 0 [(0, .dat (.list (.pair (.int .i64) (.pair (.int .i64) (.pair (.int .i64) .unit)))) x2360), (3, dS ByteArray.empty)], []⟩ (spec_JournalText_n2) (fun (t : Unit) => (Exit.normal, ⟨mkE 26 0 [(0, .dat (.list (.pair (.int .i64) (.pair (.int .i64) (.pair (.int .i64) .unit)))) x2360), (3, dS ByteArray.empty), (4, dI 0)], []⟩)) := .of fun K h => by
  simp only [spec_JournalText_n2, wpW] at h
  exact .of (by kernel_rfl) h

theorem spec_JournalText_n3_l (x2360 : List (Int × Int × Int × Unit)) (x2407 : ByteArray) (x2408 : Int) : Link spec_JournalText_ctx LL (cq [0,0,1,0,1,1] (bodyOf Tryd.f15)) (aq [0,0,1,0,1,1] spec_JournalText_an) ⟨mkE 26 0 [(0, .dat (.list (.pair (.int .i64) (.pair (.int .i64) (.pair (.int .i64) .unit)))) x2360), (3, dS x2407), (4, dI x2408)], []⟩ (spec_JournalText_n3 x2360 x2407 x2408) (Sum.elim (fun (t : ByteArray × Int) => (Exit.normal, ⟨mkE 26 0 [(0, .dat (.list (.pair (.int .i64) (.pair (.int .i64) (.pair (.int .i64) .unit)))) x2360), (3, dS t.1), (4, dI t.2)], []⟩)) (Sum.elim (fun (t : ByteArray) => (Exit.ret, ⟨mkE 26 0 [(2, dS t)], []⟩)) (fun (t : ByteArray) => ((Exit.exit 0), ⟨mkE 26 0 [(3, dS t)], []⟩)))) := .of fun K h => by
  simp only [spec_JournalText_n3, wpW] at h
  exact .of (by kernel_rfl) h

def spec_JournalText_n4_l (x2360 : List (Int × Int × Int × Unit)) := (link_loop (mk := fun (s : ByteArray × Int) => ⟨mkE 26 0 [(0, .dat (.list (.pair (.int .i64) (.pair (.int .i64) (.pair (.int .i64) .unit)))) x2360), (3, dS s.1), (4, dI s.2)], []⟩) (fin := (Sum.elim (fun (t : ByteArray) => (Exit.ret, ⟨mkE 26 0 [(2, dS t)], []⟩)) (fun (t : ByteArray) => ((Exit.exit 0), ⟨mkE 26 0 [(3, dS t)], []⟩)))) (by
  rintro (t | t) f K h
  · exact h
  · exact h) (fun s => link_map (spec_JournalText_n3_l x2360 s.1 s.2) (Sum.elim (fun (t : ByteArray × Int) => Sum.inl (t.1, t.2)) (Sum.elim (fun (t : ByteArray) => Sum.inr (Sum.inl t)) (fun (t : ByteArray) => Sum.inr (Sum.inr t)))) (by
  rintro (t | t | t)
  · kernel_rfl
  · kernel_rfl
  · kernel_rfl)) (ByteArray.empty, 0))

def spec_JournalText_n5_l (x2360 : List (Int × Int × Int × Unit)) := (link_block (fin2 := (Sum.elim (fun (t : ByteArray) => (Exit.normal, ⟨mkE 26 0 [(3, dS t)], []⟩)) (fun (t : ByteArray) => (Exit.ret, ⟨mkE 26 0 [(2, dS t)], []⟩)))) (id := 0) (spec_JournalText_n4_l x2360) (Sum.elim (fun (t : ByteArray) => (Sum.inr t)) (fun (t : ByteArray) => (Sum.inl t))) (by
  rintro (t | t) K h
  · exact Eq.mp (by kernel_rfl) h
  · exact Eq.mp (by kernel_rfl) h))

def spec_JournalText_n6_l (x2360 : List (Int × Int × Int × Unit)) := (link_seq (spec_JournalText_n2_l x2360) (fun (t : Unit) => (spec_JournalText_n5_l x2360)))

theorem spec_JournalText_n7_l (x2407 : ByteArray) : Link spec_JournalText_ctx LL (cq [1,1,1] (bodyOf Tryd.f15)) (aq [1,1,1] spec_JournalText_an) ⟨mkE 26 0 [(3, dS x2407)], []⟩ (spec_JournalText_n7 x2407) (fun (t : ByteArray) => (Exit.ret, ⟨mkE 26 0 [(2, dS t)], []⟩)) := .of fun K h => by
  simp only [spec_JournalText_n7, wpW] at h
  exact .of (by kernel_rfl) h

def spec_JournalText_n8_l (x2360 : List (Int × Int × Int × Unit)) := (link_seq2 (spec_JournalText_n6_l x2360) (fun (t : ByteArray) => (spec_JournalText_n7_l t)) (fun (t : ByteArray) => t) (by
  rintro t
  · kernel_rfl) (by
  rintro t f K h
  · exact h))

def spec_JournalText_n9_l (x2360 : List (Int × Int × Int × Unit)) := (link_group (c := (cq [0,1] (bodyOf Tryd.f15))) (a := (aq [0,1] spec_JournalText_an)) [(cq [0] (bodyOf Tryd.f15))] [(aq [0] spec_JournalText_an)] rfl (link_seq (spec_JournalText_n1_l x2360) (fun (t : Unit) => (spec_JournalText_n8_l x2360))))

theorem spec_JournalText_e (x2360 : List (Int × Int × Int × Unit)) {r : AV} {H' : Heap} (h : (Ans.mk _ (spec_JournalText x2360) (fun (t : ByteArray) => (dS t, [])) [] none).run = some (r, H')) : Awp spec_JournalText_ctx LL (bodyOf Tryd.f15) spec_JournalText_an ⟨mkE 26 0 [(0, .dat (.list (.pair (.int .i64) (.pair (.int .i64) (.pair (.int .i64) .unit)))) x2360)], []⟩ (Ret (tlook tys) Tryd.f15.results.toList r H') :=
  ret_of' (Link.cast (by kernel_rfl) (by kernel_rfl) (spec_JournalText_n9_l x2360)) (by unfold spec_JournalText; kernel_rfl) (by
  intro t
  exact ret_mk [dS t] (by kernel_rfl) (by kernel_rfl) (by kernel_rfl) (by kernel_rfl)) h

def F_spec_JournalText : Fun := fun avs H =>
  match avs, H with
  | [.dat (.list (.pair (.int .i64) (.pair (.int .i64) (.pair (.int .i64) .unit)))) x2360], [] => ⟨_, spec_JournalText x2360, fun (t : ByteArray) => (dS t, []), [], none⟩
  | _, _ => Ans.no

theorem spec_JournalText_sound : Sound Tryd.prog 15 F_spec_JournalText := by
  refine fn_sound' (C := spec_JournalText_ctx) (c := bodyOf Tryd.f15) (cok_of tys_ok (allc spec_DeedText_sound alln) (allc Tryd.call8 alln) (by kernel_rfl)) Tryd.func15 (by kernel_rfl) LL spec_JournalText_an ?_
  intro avs H r H' h
  unfold F_spec_JournalText at h
  split at h
  · refine Awp.cast ?_ ?_ ?_ (spec_JournalText_e _ h) <;> kernel_rfl
  · simp [Ans.no, Ans.run] at h


/-! loop.example/headtrees/impl.oneRoot -/

def impl_oneRoot_an : Ann := (.seq (.leaf [0]) (.seq (.leaf [0, 3]) (.seq (.seq (.leaf [0, 3, 6, 7, 8]) (.block (.loop (.seq (.leaf [0, 3, 6, 7, 8, 9]) (.seq (.cond (.leaf [0, 3, 6, 7, 8]) (.leaf [3])) (.seq (.block (.seq (.leaf [0, 3, 5, 6, 7, 8]) (.seq (.seq (.leaf [0, 3, 5, 6, 7, 8, 19]) (.cond (.seq (.leaf [2]) (.leaf [2])) (.leaf [0, 3, 5, 6, 7, 8]))) (.seq (.leaf [0, 3, 6, 7, 8, 21]) (.cond (.leaf [0, 3, 6, 7, 8]) (.leaf [0, 3, 6, 7, 8])))))) (.leaf [0, 3, 6, 7, 8]))))))) (.seq (.leaf [2]) (.leaf [2])))))

noncomputable def impl_oneRoot_ctx : Ctx := ⟨tlook tys, olook [], ioF, 0, false, []⟩

theorem impl_oneRoot_n1_l (x2470 : List Int) : Link impl_oneRoot_ctx LL (Code.seq (cq [0] (bodyOf Tryd.f46)) (cq [0,1] (bodyOf Tryd.f46))) (Ann.seq (aq [0] impl_oneRoot_an) (aq [0,1] impl_oneRoot_an)) ⟨mkE 27 0 [(0, dL x2470)], []⟩ (impl_oneRoot_n1) (fun (t : Unit) => (Exit.normal, ⟨mkE 27 0 [(0, dL x2470), (3, dI 0)], []⟩)) := .of fun K h => by
  simp only [impl_oneRoot_n1, wpW] at h
  exact .of (by kernel_rfl) h

theorem impl_oneRoot_n2_l (x2470 : List Int) : Link impl_oneRoot_ctx LL (cq [0,0,1,1] (bodyOf Tryd.f46)) (aq [0,0,1,1] impl_oneRoot_an) ⟨mkE 27 0 [(0, dL x2470), (3, dI 0)], []⟩ (impl_oneRoot_n2 x2470) (fun (t : Int) => (Exit.normal, ⟨mkE 27 0 [(0, dL x2470), (3, dI 0), (6, dL x2470), (7, dI t), (8, dI 0)], []⟩)) := .of fun K h => by
  simp only [impl_oneRoot_n2, wpW] at h
  exact .of (by kernel_rfl) h

theorem impl_oneRoot_n3_l (x2470 : List Int) (x2492 : Int) (x2471 : Int) (x2493 : Int) : Link impl_oneRoot_ctx LL (cq [0,0,1,0,1,1] (bodyOf Tryd.f46)) (aq [0,0,1,0,1,1] impl_oneRoot_an) ⟨mkE 27 0 [(0, dL x2470), (3, dI x2492), (6, dL x2470), (7, dI x2471), (8, dI x2493)], []⟩ (impl_oneRoot_n3 x2470 x2492 x2471 x2493) (Sum.elim (fun (t : Int × Int) => (Exit.normal, ⟨mkE 27 0 [(0, dL x2470), (3, dI t.1), (6, dL x2470), (7, dI x2471), (8, dI t.2)], []⟩)) (Sum.elim (fun (t : Bool) => (Exit.ret, ⟨mkE 27 0 [(2, dB t)], []⟩)) (fun (t : Int) => ((Exit.exit 0), ⟨mkE 27 0 [(3, dI t)], []⟩)))) := .of fun K h => by
  simp only [impl_oneRoot_n3, wpW] at h
  exact .of (by kernel_rfl) h

def impl_oneRoot_n4_l (x2470 : List Int) (x2471 : Int) := (link_loop (mk := fun (s : Int × Int) => ⟨mkE 27 0 [(0, dL x2470), (3, dI s.1), (6, dL x2470), (7, dI x2471), (8, dI s.2)], []⟩) (fin := (Sum.elim (fun (t : Bool) => (Exit.ret, ⟨mkE 27 0 [(2, dB t)], []⟩)) (fun (t : Int) => ((Exit.exit 0), ⟨mkE 27 0 [(3, dI t)], []⟩)))) (by
  rintro (t | t) f K h
  · exact h
  · exact h) (fun s => link_map (impl_oneRoot_n3_l x2470 s.1 x2471 s.2) (Sum.elim (fun (t : Int × Int) => Sum.inl (t.1, t.2)) (Sum.elim (fun (t : Bool) => Sum.inr (Sum.inl t)) (fun (t : Int) => Sum.inr (Sum.inr t)))) (by
  rintro (t | t | t)
  · kernel_rfl
  · kernel_rfl
  · kernel_rfl)) (0, 0))

def impl_oneRoot_n5_l (x2470 : List Int) (x2471 : Int) := (link_block (fin2 := (Sum.elim (fun (t : Int) => (Exit.normal, ⟨mkE 27 0 [(3, dI t)], []⟩)) (fun (t : Bool) => (Exit.ret, ⟨mkE 27 0 [(2, dB t)], []⟩)))) (id := 0) (impl_oneRoot_n4_l x2470 x2471) (Sum.elim (fun (t : Bool) => (Sum.inr t)) (fun (t : Int) => (Sum.inl t))) (by
  rintro (t | t) K h
  · exact Eq.mp (by kernel_rfl) h
  · exact Eq.mp (by kernel_rfl) h))

def impl_oneRoot_n6_l (x2470 : List Int) := (link_seq (impl_oneRoot_n2_l x2470) (fun (t : Int) => (impl_oneRoot_n5_l x2470 t)))

theorem impl_oneRoot_n7_l (x2492 : Int) : Link impl_oneRoot_ctx LL (cq [1,1,1] (bodyOf Tryd.f46)) (aq [1,1,1] impl_oneRoot_an) ⟨mkE 27 0 [(3, dI x2492)], []⟩ (impl_oneRoot_n7 x2492) (fun (t : Bool) => (Exit.ret, ⟨mkE 27 0 [(2, dB t)], []⟩)) := .of fun K h => by
  simp only [impl_oneRoot_n7, wpW] at h
  exact .of (by kernel_rfl) h

def impl_oneRoot_n8_l (x2470 : List Int) := (link_seq2 (impl_oneRoot_n6_l x2470) (fun (t : Int) => (impl_oneRoot_n7_l t)) (fun (t : Bool) => t) (by
  rintro t
  · kernel_rfl) (by
  rintro t f K h
  · exact h))

def impl_oneRoot_n9_l (x2470 : List Int) := (link_group (c := (cq [0,1] (bodyOf Tryd.f46))) (a := (aq [0,1] impl_oneRoot_an)) [(cq [0] (bodyOf Tryd.f46))] [(aq [0] impl_oneRoot_an)] rfl (link_seq (impl_oneRoot_n1_l x2470) (fun (t : Unit) => (impl_oneRoot_n8_l x2470))))

theorem impl_oneRoot_e (x2470 : List Int) {r : AV} {H' : Heap} (h : (Ans.mk _ (impl_oneRoot x2470) (fun (t : Bool) => (dB t, [])) [] none).run = some (r, H')) : Awp impl_oneRoot_ctx LL (bodyOf Tryd.f46) impl_oneRoot_an ⟨mkE 27 0 [(0, dL x2470)], []⟩ (Ret (tlook tys) Tryd.f46.results.toList r H') :=
  ret_of' (Link.cast (by kernel_rfl) (by kernel_rfl) (impl_oneRoot_n9_l x2470)) (by unfold impl_oneRoot; kernel_rfl) (by
  intro t
  exact ret_mk [dB t] (by kernel_rfl) (by kernel_rfl) (by kernel_rfl) (by kernel_rfl)) h

def F_impl_oneRoot : Fun := fun avs H =>
  match avs, H with
  | [.dat (.list (.int .i64)) x2470], [] => ⟨_, impl_oneRoot x2470, fun (t : Bool) => (dB t, []), [], none⟩
  | _, _ => Ans.no

theorem impl_oneRoot_sound : Sound Tryd.prog 46 F_impl_oneRoot := by
  refine fn_sound' (C := impl_oneRoot_ctx) (c := bodyOf Tryd.f46) (cok_of tys_ok (alln) (alln) (by kernel_rfl)) Tryd.func46 (by kernel_rfl) LL impl_oneRoot_an ?_
  intro avs H r H' h
  unfold F_impl_oneRoot at h
  split at h
  · refine Awp.cast ?_ ?_ ?_ (impl_oneRoot_e _ h) <;> kernel_rfl
  · simp [Ans.no, Ans.run] at h


/-! (*loop.example/headtrees/impl.walker).up -/

def impl_walker_up_an : Ann := (.seq (.leaf [0]) (.seq (.draw [] [0, 1, 2, 3, 4, 5, 6, 7, 8, 9, 10, 11] [] [0, 3]) (.seq (.seq (.leaf [0, 3, 16]) (.cond (.seq (.leaf [2]) (.leaf [2])) (.leaf [0, 3]))) (.seq (.leaf [0]) (.seq (.leaf []) (.seq (.leaf [2]) (.leaf [2])))))))

noncomputable def impl_walker_up_ctx : Ctx := ⟨tlook tys, olook [], ioF, 1, false, []⟩

theorem impl_walker_up_n1_l (x2526 : List Int) (x2527 : Int) (x2528 : Int) : Link impl_walker_up_ctx LL (bodyOf Tryd.f57) impl_walker_up_an ⟨mkE 28 0 [(0, .ptr 0 0)], [some (.box [dL x2526, dI x2527, dI x2528])]⟩ (impl_walker_up_n1 x2526 x2527 x2528) (fun (t : Bool × Int × Int) => (Exit.ret, ⟨mkE 28 0 [(2, dB t.1)], [some (.box [dL x2526, dI t.2.1, dI t.2.2])]⟩)) := .of fun K h => by
  simp only [impl_walker_up_n1, wpW] at h
  exact .of (by kernel_rfl) h

theorem impl_walker_up_e (x2526 : List Int) (x2527 : Int) (x2528 : Int) {r : AV} {H' : Heap} (h : (Ans.mk _ (impl_walker_up x2526 x2527 x2528) (fun (t : Bool × Int × Int) => (dB t.1, [some (.box [dL x2526, dI t.2.1, dI t.2.2])])) [] none).run = some (r, H')) : Awp impl_walker_up_ctx LL (bodyOf Tryd.f57) impl_walker_up_an ⟨mkE 28 0 [(0, .ptr 0 0)], [some (.box [dL x2526, dI x2527, dI x2528])]⟩ (Ret (tlook tys) Tryd.f57.results.toList r H') :=
  ret_of' (impl_walker_up_n1_l x2526 x2527 x2528) (by unfold impl_walker_up; kernel_rfl) (by
  intro t
  exact ret_mk [dB t.1] (by kernel_rfl) (by kernel_rfl) (by kernel_rfl) (by kernel_rfl)) h

def F_impl_walker_up : Fun := fun avs H =>
  match avs, H with
  | [.ptr 0 0], [some (.box [.dat (.list (.int .i64)) x2526, .dat (.int .i64) x2527, .dat (.int .i64) x2528])] => ⟨_, impl_walker_up x2526 x2527 x2528, fun (t : Bool × Int × Int) => (dB t.1, [some (.box [dL x2526, dI t.2.1, dI t.2.2])]), [], none⟩
  | _, _ => Ans.no

theorem impl_walker_up_sound : Sound Tryd.prog 57 F_impl_walker_up := by
  refine fn_sound' (C := impl_walker_up_ctx) (c := bodyOf Tryd.f57) (cok_of tys_ok (alln) (alln) (by kernel_rfl)) Tryd.func57 (by kernel_rfl) LL impl_walker_up_an ?_
  intro avs H r H' h
  unfold F_impl_walker_up at h
  split at h
  · refine Awp.cast ?_ ?_ ?_ (impl_walker_up_e _ _ _ h) <;> kernel_rfl
  · simp [Ans.no, Ans.run] at h


/-! loop.example/headtrees/impl.stepsToRoot -/

def impl_stepsToRoot_an : Ann := (.seq (.leaf [0, 1]) (.seq (.leaf [0, 6]) (.seq (.block (.loop (.seq (.seq (.leaf [0, 6, 10]) (.cond (.leaf [0, 6]) (.leaf [6]))) (.block (.seq (.leaf [0, 6, 15]) (.cond (.seq (.leaf [4, 5]) (.leaf [4, 5])) (.leaf [0, 6]))))))) (.seq (.leaf [4, 5]) (.leaf [4, 5])))))

noncomputable def impl_stepsToRoot_ctx : Ctx := ⟨tlook tys, olook [(57, F_impl_walker_up)], ioF, 0, false, []⟩

theorem impl_stepsToRoot_n1_l (x2524 : List Int) (x2525 : Int) : Link impl_stepsToRoot_ctx LL (Code.seq (cq [0] (bodyOf Tryd.f47)) (cq [0,1] (bodyOf Tryd.f47))) (Ann.seq (aq [0] impl_stepsToRoot_an) (aq [0,1] impl_stepsToRoot_an)) ⟨mkE 18 0 [(0, dL x2524), (1, dI x2525)], []⟩ (impl_stepsToRoot_n1) (fun (t : Unit) => (Exit.normal, ⟨mkE 18 0 [(0, dL x2524), (6, .ptr 0 0)], [some (.box [dL x2524, dI x2525, dI 0])]⟩)) := .of fun K h => by
  simp only [impl_stepsToRoot_n1, wpW] at h
  exact .of (by kernel_rfl) h

theorem impl_stepsToRoot_n2_l (x2524 : List Int) (x2562 : Int) (x2563 : Int) : Link impl_stepsToRoot_ctx LL (cq [0,0,0,1,1] (bodyOf Tryd.f47)) (aq [0,0,0,1,1] impl_stepsToRoot_an) ⟨mkE 18 0 [(0, dL x2524), (6, .ptr 0 0)], [some (.box [dL x2524, dI x2562, dI x2563])]⟩ (impl_stepsToRoot_n2 x2524 x2562 x2563) (Sum.elim (fun (t : Int × Int) => (Exit.normal, ⟨mkE 18 0 [(0, dL x2524), (6, .ptr 0 0)], [some (.box [dL x2524, dI t.1, dI t.2])]⟩)) (Sum.elim (fun (t : Int × Bool) => (Exit.ret, ⟨mkE 18 0 [(4, dI t.1), (5, dB t.2)], []⟩)) (fun (t : Int × Int) => ((Exit.exit 0), ⟨mkE 18 0 [(6, .ptr 0 0)], [some (.box [dL x2524, dI t.1, dI t.2])]⟩)))) := .of fun K h => by
  simp only [impl_stepsToRoot_n2, wpW] at h
  exact .of (by kernel_rfl) h

def impl_stepsToRoot_n3_l (x2524 : List Int) (x2525 : Int) := (link_loop (mk := fun (s : Int × Int) => ⟨mkE 18 0 [(0, dL x2524), (6, .ptr 0 0)], [some (.box [dL x2524, dI s.1, dI s.2])]⟩) (fin := (Sum.elim (fun (t : Int × Bool) => (Exit.ret, ⟨mkE 18 0 [(4, dI t.1), (5, dB t.2)], []⟩)) (fun (t : Int × Int) => ((Exit.exit 0), ⟨mkE 18 0 [(6, .ptr 0 0)], [some (.box [dL x2524, dI t.1, dI t.2])]⟩)))) (by
  rintro (t | t) f K h
  · exact h
  · exact h) (fun s => link_map (impl_stepsToRoot_n2_l x2524 s.1 s.2) (Sum.elim (fun (t : Int × Int) => Sum.inl (t.1, t.2)) (Sum.elim (fun (t : Int × Bool) => Sum.inr (Sum.inl t)) (fun (t : Int × Int) => Sum.inr (Sum.inr t)))) (by
  rintro (t | t | t)
  · kernel_rfl
  · kernel_rfl
  · kernel_rfl)) (x2525, 0))

def impl_stepsToRoot_n4_l (x2524 : List Int) (x2525 : Int) := (link_block (fin2 := (Sum.elim (fun (t : Int × Int) => (Exit.normal, ⟨mkE 18 0 [(6, .ptr 0 0)], [some (.box [dL x2524, dI t.1, dI t.2])]⟩)) (fun (t : Int × Bool) => (Exit.ret, ⟨mkE 18 0 [(4, dI t.1), (5, dB t.2)], []⟩)))) (id := 0) (impl_stepsToRoot_n3_l x2524 x2525) (Sum.elim (fun (t : Int × Bool) => (Sum.inr t)) (fun (t : Int × Int) => (Sum.inl (t.1, t.2)))) (by
  rintro (t | t) K h
  · exact Eq.mp (by kernel_rfl) h
  · exact Eq.mp (by kernel_rfl) h))

theorem impl_stepsToRoot_n5_l (x2524 : List Int) (x2570 : Int) (x2571 : Int) : Link impl_stepsToRoot_ctx LL (cq [1,1,1] (bodyOf Tryd.f47)) (aq [1,1,1] impl_stepsToRoot_an) ⟨mkE 18 0 [(6, .ptr 0 0)], [some (.box [dL x2524, dI x2570, dI x2571])]⟩ (impl_stepsToRoot_n5 x2571) (fun (t : Int × Bool) => (Exit.ret, ⟨mkE 18 0 [(4, dI t.1), (5, dB t.2)], []⟩)) := .of fun K h => by
  simp only [impl_stepsToRoot_n5, wpW] at h
  exact .of (by kernel_rfl) h

def impl_stepsToRoot_n6_l (x2524 : List Int) (x2525 : Int) := (link_seq2 (impl_stepsToRoot_n4_l x2524 x2525) (fun (t : Int × Int) => (impl_stepsToRoot_n5_l x2524 t.1 t.2)) (fun (t : Int × Bool) => t) (by
  rintro t
  · kernel_rfl) (by
  rintro t f K h
  · exact h))

def impl_stepsToRoot_n7_l (x2524 : List Int) (x2525 : Int) := (link_group (c := (cq [0,1] (bodyOf Tryd.f47))) (a := (aq [0,1] impl_stepsToRoot_an)) [(cq [0] (bodyOf Tryd.f47))] [(aq [0] impl_stepsToRoot_an)] rfl (link_seq (impl_stepsToRoot_n1_l x2524 x2525) (fun (t : Unit) => (impl_stepsToRoot_n6_l x2524 x2525))))

theorem impl_stepsToRoot_e (x2524 : List Int) (x2525 : Int) {r : AV} {H' : Heap} (h : (Ans.mk _ (impl_stepsToRoot x2524 x2525) (fun (t : Int × Bool) => (.tup [dI t.1, dB t.2], [])) [] none).run = some (r, H')) : Awp impl_stepsToRoot_ctx LL (bodyOf Tryd.f47) impl_stepsToRoot_an ⟨mkE 18 0 [(0, dL x2524), (1, dI x2525)], []⟩ (Ret (tlook tys) Tryd.f47.results.toList r H') :=
  ret_of' (Link.cast (by kernel_rfl) (by kernel_rfl) (impl_stepsToRoot_n7_l x2524 x2525)) (by unfold impl_stepsToRoot; kernel_rfl) (by
  intro t
  exact ret_mk [dI t.1, dB t.2] (by kernel_rfl) (by kernel_rfl) (by kernel_rfl) (by kernel_rfl)) h

def F_impl_stepsToRoot : Fun := fun avs H =>
  match avs, H with
  | [.dat (.list (.int .i64)) x2524, .dat (.int .i64) x2525], [] => ⟨_, impl_stepsToRoot x2524 x2525, fun (t : Int × Bool) => (.tup [dI t.1, dB t.2], []), [], none⟩
  | _, _ => Ans.no

theorem impl_stepsToRoot_sound : Sound Tryd.prog 47 F_impl_stepsToRoot := by
  refine fn_sound' (C := impl_stepsToRoot_ctx) (c := bodyOf Tryd.f47) (cok_of tys_ok (allc impl_walker_up_sound alln) (allc Tryd.call57 alln) (by kernel_rfl)) Tryd.func47 (by kernel_rfl) LL impl_stepsToRoot_an ?_
  intro avs H r H' h
  unfold F_impl_stepsToRoot at h
  split at h
  · refine Awp.cast ?_ ?_ ?_ (impl_stepsToRoot_e _ _ h) <;> kernel_rfl
  · simp [Ans.no, Ans.run] at h


/-! loop.example/headtrees/impl.TreeOk -/

def impl_TreeOk_an : Ann := (.seq (.leaf [0]) (.seq (.seq (.leaf [0, 18]) (.cond (.seq (.leaf [2]) (.leaf [2])) (.leaf [0]))) (.seq (.seq (.leaf [0, 20, 21]) (.block (.loop (.seq (.leaf [0, 20, 21, 22]) (.seq (.cond (.leaf [0, 20, 21]) (.leaf [])) (.seq (.block (.seq (.leaf [0, 3, 20, 21]) (.seq (.leaf [0, 5, 20, 21]) (.seq (.leaf [0, 20, 21, 32]) (.cond (.seq (.leaf [2]) (.leaf [2])) (.leaf [0, 20, 21])))))) (.leaf [0, 20, 21]))))))) (.seq (.leaf [2]) (.leaf [2])))))

noncomputable def impl_TreeOk_ctx : Ctx := ⟨tlook tys, olook [(46, F_impl_oneRoot), (47, F_impl_stepsToRoot)], ioF, 0, false, []⟩

theorem impl_TreeOk_n1_l (x2465 : List Int) : Link impl_TreeOk_ctx LL (Code.seq (cq [0] (bodyOf Tryd.f26)) (cq [0,1] (bodyOf Tryd.f26))) (Ann.seq (aq [0] impl_TreeOk_an) (aq [0,1] impl_TreeOk_an)) ⟨mkE 34 0 [(0, dL x2465)], []⟩ (impl_TreeOk_n1 x2465) (Sum.elim (fun (t : Unit) => (Exit.normal, ⟨mkE 34 0 [(0, dL x2465)], []⟩)) (fun (t : Bool) => (Exit.ret, ⟨mkE 34 0 [(2, dB t)], []⟩))) := .of fun K h => by
  simp only [impl_TreeOk_n1, wpW] at h
  exact .of (by kernel_rfl) h

theorem impl_TreeOk_n2_l (x2465 : List Int) : Link impl_TreeOk_ctx LL (cq [0,0,1,1] (bodyOf Tryd.f26)) (aq [0,0,1,1] impl_TreeOk_an) ⟨mkE 34 0 [(0, dL x2465)], []⟩ (impl_TreeOk_n2 x2465) (fun (t : Int) => (Exit.normal, ⟨mkE 34 0 [(0, dL x2465), (20, dI t), (21, dI 0)], []⟩)) := .of fun K h => by
  simp only [impl_TreeOk_n2, wpW] at h
  exact .of (by kernel_rfl) h

theorem impl_TreeOk_n3_l (x2465 : List Int) (x2519 : Int) (x2587 : Int) : Link impl_TreeOk_ctx LL (cq [0,0,1,0,1,1] (bodyOf Tryd.f26)) (aq [0,0,1,0,1,1] impl_TreeOk_an) ⟨mkE 34 0 [(0, dL x2465), (20, dI x2519), (21, dI x2587)], []⟩ (impl_TreeOk_n3 x2465 x2519 x2587) (Sum.elim (fun (t : Int) => (Exit.normal, ⟨mkE 34 0 [(0, dL x2465), (20, dI x2519), (21, dI t)], []⟩)) (Sum.elim (fun (t : Bool) => (Exit.ret, ⟨mkE 34 0 [(2, dB t)], []⟩)) (fun (t : Unit) => ((Exit.exit 0), ⟨mkE 34 0 [], []⟩)))) := .of fun K h => by
  simp only [impl_TreeOk_n3, wpW] at h
  exact .of (by kernel_rfl) h

def impl_TreeOk_n4_l (x2465 : List Int) (x2519 : Int) := (link_loop (mk := fun (s : Int) => ⟨mkE 34 0 [(0, dL x2465), (20, dI x2519), (21, dI s)], []⟩) (fin := (Sum.elim (fun (t : Bool) => (Exit.ret, ⟨mkE 34 0 [(2, dB t)], []⟩)) (fun (t : Unit) => ((Exit.exit 0), ⟨mkE 34 0 [], []⟩)))) (by
  rintro (t | t) f K h
  · exact h
  · exact h) (fun s => link_map (impl_TreeOk_n3_l x2465 x2519 s) (Sum.elim (fun (t : Int) => Sum.inl t) (Sum.elim (fun (t : Bool) => Sum.inr (Sum.inl t)) (fun (t : Unit) => Sum.inr (Sum.inr t)))) (by
  rintro (t | t | t)
  · kernel_rfl
  · kernel_rfl
  · kernel_rfl)) 0)

def impl_TreeOk_n5_l (x2465 : List Int) (x2519 : Int) := (link_block (fin2 := (Sum.elim (fun (t : Unit) => (Exit.normal, ⟨mkE 34 0 [], []⟩)) (fun (t : Bool) => (Exit.ret, ⟨mkE 34 0 [(2, dB t)], []⟩)))) (id := 0) (impl_TreeOk_n4_l x2465 x2519) (Sum.elim (fun (t : Bool) => (Sum.inr t)) (fun (t : Unit) => (Sum.inl ()))) (by
  rintro (t | t) K h
  · exact Eq.mp (by kernel_rfl) h
  · exact Eq.mp (by kernel_rfl) h))

def impl_TreeOk_n6_l (x2465 : List Int) := (link_seq (impl_TreeOk_n2_l x2465) (fun (t : Int) => (impl_TreeOk_n5_l x2465 t)))

theorem impl_TreeOk_n7_l : Link impl_TreeOk_ctx LL (cq [1,1,1] (bodyOf Tryd.f26)) (aq [1,1,1] impl_TreeOk_an) ⟨mkE 34 0 [], []⟩ (impl_TreeOk_n7) (fun (t : Bool) => (Exit.ret, ⟨mkE 34 0 [(2, dB t)], []⟩)) := .of fun K h => by
  simp only [impl_TreeOk_n7, wpW] at h
  exact .of (by kernel_rfl) h

def impl_TreeOk_n8_l (x2465 : List Int) := (link_seq2 (impl_TreeOk_n6_l x2465) (fun (t : Unit) => (impl_TreeOk_n7_l)) (fun (t : Bool) => t) (by
  rintro t
  · kernel_rfl) (by
  rintro t f K h
  · exact h))

def impl_TreeOk_n9_l (x2465 : List Int) := (link_group (c := (cq [0,1] (bodyOf Tryd.f26))) (a := (aq [0,1] impl_TreeOk_an)) [(cq [0] (bodyOf Tryd.f26))] [(aq [0] impl_TreeOk_an)] rfl (link_seq2 (impl_TreeOk_n1_l x2465) (fun (t : Unit) => (impl_TreeOk_n8_l x2465)) (fun (t : Bool) => t) (by
  rintro t
  · kernel_rfl) (by
  rintro t f K h
  · exact h)))

theorem impl_TreeOk_e (x2465 : List Int) {r : AV} {H' : Heap} (h : (Ans.mk _ (impl_TreeOk x2465) (fun (t : Bool) => (dB t, [])) [] none).run = some (r, H')) : Awp impl_TreeOk_ctx LL (bodyOf Tryd.f26) impl_TreeOk_an ⟨mkE 34 0 [(0, dL x2465)], []⟩ (Ret (tlook tys) Tryd.f26.results.toList r H') :=
  ret_of' (Link.cast (by kernel_rfl) (by kernel_rfl) (impl_TreeOk_n9_l x2465)) (by unfold impl_TreeOk; kernel_rfl) (by
  intro t
  exact ret_mk [dB t] (by kernel_rfl) (by kernel_rfl) (by kernel_rfl) (by kernel_rfl)) h

def F_impl_TreeOk : Fun := fun avs H =>
  match avs, H with
  | [.dat (.list (.int .i64)) x2465], [] => ⟨_, impl_TreeOk x2465, fun (t : Bool) => (dB t, []), [], none⟩
  | _, _ => Ans.no

theorem impl_TreeOk_sound : Sound Tryd.prog 26 F_impl_TreeOk := by
  refine fn_sound' (C := impl_TreeOk_ctx) (c := bodyOf Tryd.f26) (cok_of tys_ok (allc impl_oneRoot_sound (allc impl_stepsToRoot_sound alln)) (allc Tryd.call46 (allc Tryd.call47 alln)) (by kernel_rfl)) Tryd.func26 (by kernel_rfl) LL impl_TreeOk_an ?_
  intro avs H r H' h
  unfold F_impl_TreeOk at h
  split at h
  · refine Awp.cast ?_ ?_ ?_ (impl_TreeOk_e _ h) <;> kernel_rfl
  · simp [Ans.no, Ans.run] at h


/-! loop.example/headtrees/laws.alive -/

def laws_alive_an : Ann := (.seq (.leaf []) (.seq (.leaf [0]) (.leaf [0])))

noncomputable def laws_alive_ctx : Ctx := ⟨tlook tys, olook [(26, F_impl_TreeOk)], ioF, 0, false, []⟩

theorem laws_alive_n1_l : Link laws_alive_ctx LL (bodyOf Tryd.f9) laws_alive_an ⟨mkE 8 0 [], []⟩ (laws_alive_n1) (fun (t : Bool) => (Exit.ret, ⟨mkE 8 0 [(0, dB t)], []⟩)) := .of fun K h => by
  simp only [laws_alive_n1, wpW] at h
  exact .of (by kernel_rfl) h

theorem laws_alive_e {r : AV} {H' : Heap} (h : (Ans.mk _ (laws_alive) (fun (t : Bool) => (dB t, [])) [] none).run = some (r, H')) : Awp laws_alive_ctx LL (bodyOf Tryd.f9) laws_alive_an ⟨mkE 8 0 [], []⟩ (Ret (tlook tys) Tryd.f9.results.toList r H') :=
  ret_of' (laws_alive_n1_l) (by unfold laws_alive; kernel_rfl) (by
  intro t
  exact ret_mk [dB t] (by kernel_rfl) (by kernel_rfl) (by kernel_rfl) (by kernel_rfl)) h

def F_laws_alive : Fun := fun avs H =>
  match avs, H with
  | [], [] => ⟨_, laws_alive, fun (t : Bool) => (dB t, []), [], none⟩
  | _, _ => Ans.no

theorem laws_alive_sound : Sound Tryd.prog 9 F_laws_alive := by
  refine fn_sound' (C := laws_alive_ctx) (c := bodyOf Tryd.f9) (cok_of tys_ok (allc impl_TreeOk_sound alln) (allc Tryd.call26 alln) (by kernel_rfl)) Tryd.func9 (by kernel_rfl) LL laws_alive_an ?_
  intro avs H r H' h
  unfold F_laws_alive at h
  split at h
  · refine Awp.cast ?_ ?_ ?_ (laws_alive_e h) <;> kernel_rfl
  · simp [Ans.no, Ans.run] at h


/-! internal/stringslite.Index -/

def ren_sidx : Go.Shelf.Ren := ⟨fun | 217 => 78 | 219 => 67 | 224 => 80 | 225 => 79 | 266 => 90 | 267 => 81 | 314 => 91 | n => n, fun | 3 => 3 | 4 => 4 | 5 => 5 | 9 => 9 | 46 => 102 | 51 => 109 | 146 => 117 | n => n, fun | 1 => 3 | n => n⟩
theorem lay_sidx : Lays.n219 Tryd.prog ren_sidx := {
  mixed := by kernel_rfl
  f217 := Tryd.func78.trans (congrArg some (by kernel_rfl))
  f219 := Tryd.func67.trans (congrArg some (by kernel_rfl))
  f224 := Tryd.func80.trans (congrArg some (by kernel_rfl))
  f225 := Tryd.func79.trans (congrArg some (by kernel_rfl))
  f266 := Tryd.func90.trans (congrArg some (by kernel_rfl))
  f267 := Tryd.func81.trans (congrArg some (by kernel_rfl))
  f314 := Tryd.func91.trans (congrArg some (by kernel_rfl))
  t3 := Tryd.underlying3
  a3 := Tryd.isAgg3
  z3 := Tryd.sizeOf3
  v3 := Tryd.zeroValue3
  t4 := Tryd.underlying4
  a4 := Tryd.isAgg4
  z4 := Tryd.sizeOf4
  v4 := Tryd.zeroValue4
  t5 := Tryd.underlying5
  a5 := Tryd.isAgg5
  z5 := Tryd.sizeOf5
  v5 := Tryd.zeroValue5
  t9 := Tryd.underlying9
  a9 := Tryd.isAgg9
  z9 := Tryd.sizeOf9
  v9 := Tryd.zeroValue9
  t46 := Tryd.underlying102
  a46 := Tryd.isAgg102
  z46 := Tryd.sizeOf102
  v46 := Tryd.zeroValue102
  t51 := Tryd.underlying109
  a51 := Tryd.isAgg109
  z51 := Tryd.sizeOf109
  v51 := Tryd.zeroValue109
  t146 := Tryd.underlying117
  a146 := Tryd.isAgg117
  z146 := Tryd.sizeOf117
  v146 := Tryd.zeroValue117
  g1 := by kernel_rfl }

def F_internal_stringslite_Index : Fun := F_sidx
theorem internal_stringslite_Index_sound : Sound Tryd.prog 67 F_internal_stringslite_Index := sidx_sound lay_sidx


/-! internal/stringslite.Cut -/

def internal_stringslite_Cut_an : Ann := (.seq (.leaf [0, 1]) (.seq (.seq (.leaf [0, 1, 7]) (.seq (.leaf [0, 1, 7, 12]) (.cond (.seq (.draw [] [0, 1, 2, 3, 4, 5, 6, 7, 8, 9, 10, 11] [] [4, 5, 6]) (.leaf [4, 5, 6])) (.leaf [0])))) (.seq (.leaf [4, 5, 6]) (.leaf [4, 5, 6]))))

noncomputable def internal_stringslite_Cut_ctx : Ctx := ⟨tlook tys, olook [(67, F_internal_stringslite_Index)], ioF, 0, false, []⟩

theorem internal_stringslite_Cut_n1_l (x2629 : ByteArray) (x2630 : ByteArray) : Link internal_stringslite_Cut_ctx LL (bodyOf Tryd.f53) internal_stringslite_Cut_an ⟨mkE 23 0 [(0, dS x2629), (1, dS x2630)], []⟩ (internal_stringslite_Cut_n1 x2629 x2630) (fun (t : ByteArray × ByteArray × Bool) => (Exit.ret, ⟨mkE 23 0 [(4, dS t.1), (5, dS t.2.1), (6, dB t.2.2)], []⟩)) := .of fun K h => by
  simp only [internal_stringslite_Cut_n1, wpW] at h
  exact .of (by kernel_rfl) h

theorem internal_stringslite_Cut_e (x2629 : ByteArray) (x2630 : ByteArray) {r : AV} {H' : Heap} (h : (Ans.mk _ (internal_stringslite_Cut x2629 x2630) (fun (t : ByteArray × ByteArray × Bool) => (.tup [dS t.1, dS t.2.1, dB t.2.2], [])) [] none).run = some (r, H')) : Awp internal_stringslite_Cut_ctx LL (bodyOf Tryd.f53) internal_stringslite_Cut_an ⟨mkE 23 0 [(0, dS x2629), (1, dS x2630)], []⟩ (Ret (tlook tys) Tryd.f53.results.toList r H') :=
  ret_of' (internal_stringslite_Cut_n1_l x2629 x2630) (by unfold internal_stringslite_Cut; kernel_rfl) (by
  intro t
  exact ret_mk [dS t.1, dS t.2.1, dB t.2.2] (by kernel_rfl) (by kernel_rfl) (by kernel_rfl) (by kernel_rfl)) h

def F_internal_stringslite_Cut : Fun := fun avs H =>
  match avs, H with
  | [.dat .str x2629, .dat .str x2630], [] => ⟨_, internal_stringslite_Cut x2629 x2630, fun (t : ByteArray × ByteArray × Bool) => (.tup [dS t.1, dS t.2.1, dB t.2.2], []), [], none⟩
  | _, _ => Ans.no

theorem internal_stringslite_Cut_sound : Sound Tryd.prog 53 F_internal_stringslite_Cut := by
  refine fn_sound' (C := internal_stringslite_Cut_ctx) (c := bodyOf Tryd.f53) (cok_of tys_ok (allc internal_stringslite_Index_sound alln) (allc Tryd.call67 alln) (by kernel_rfl)) Tryd.func53 (by kernel_rfl) LL internal_stringslite_Cut_an ?_
  intro avs H r H' h
  unfold F_internal_stringslite_Cut at h
  split at h
  · refine Awp.cast ?_ ?_ ?_ (internal_stringslite_Cut_e _ _ h) <;> kernel_rfl
  · simp [Ans.no, Ans.run] at h


/-! strings.Cut -/

def strings_Cut_an : Ann := (.seq (.leaf [0, 1]) (.seq (.leaf [4, 5, 6]) (.leaf [4, 5, 6])))

noncomputable def strings_Cut_ctx : Ctx := ⟨tlook tys, olook [(53, F_internal_stringslite_Cut)], ioF, 0, false, []⟩

theorem strings_Cut_n1_l (x2627 : ByteArray) (x2628 : ByteArray) : Link strings_Cut_ctx LL (bodyOf Tryd.f38) strings_Cut_an ⟨mkE 13 0 [(0, dS x2627), (1, dS x2628)], []⟩ (strings_Cut_n1 x2627 x2628) (fun (t : ByteArray × ByteArray × Bool) => (Exit.ret, ⟨mkE 13 0 [(4, dS t.1), (5, dS t.2.1), (6, dB t.2.2)], []⟩)) := .of fun K h => by
  simp only [strings_Cut_n1, wpW] at h
  exact .of (by kernel_rfl) h

theorem strings_Cut_e (x2627 : ByteArray) (x2628 : ByteArray) {r : AV} {H' : Heap} (h : (Ans.mk _ (strings_Cut x2627 x2628) (fun (t : ByteArray × ByteArray × Bool) => (.tup [dS t.1, dS t.2.1, dB t.2.2], [])) [] none).run = some (r, H')) : Awp strings_Cut_ctx LL (bodyOf Tryd.f38) strings_Cut_an ⟨mkE 13 0 [(0, dS x2627), (1, dS x2628)], []⟩ (Ret (tlook tys) Tryd.f38.results.toList r H') :=
  ret_of' (strings_Cut_n1_l x2627 x2628) (by unfold strings_Cut; kernel_rfl) (by
  intro t
  exact ret_mk [dS t.1, dS t.2.1, dB t.2.2] (by kernel_rfl) (by kernel_rfl) (by kernel_rfl) (by kernel_rfl)) h

def F_strings_Cut : Fun := fun avs H =>
  match avs, H with
  | [.dat .str x2627, .dat .str x2628], [] => ⟨_, strings_Cut x2627 x2628, fun (t : ByteArray × ByteArray × Bool) => (.tup [dS t.1, dS t.2.1, dB t.2.2], []), [], none⟩
  | _, _ => Ans.no

theorem strings_Cut_sound : Sound Tryd.prog 38 F_strings_Cut := by
  refine fn_sound' (C := strings_Cut_ctx) (c := bodyOf Tryd.f38) (cok_of tys_ok (allc internal_stringslite_Cut_sound alln) (allc Tryd.call53 alln) (by kernel_rfl)) Tryd.func38 (by kernel_rfl) LL strings_Cut_an ?_
  intro avs H r H' h
  unfold F_strings_Cut at h
  split at h
  · refine Awp.cast ?_ ?_ ?_ (strings_Cut_e _ _ h) <;> kernel_rfl
  · simp [Ans.no, Ans.run] at h


/-! strings.Index -/

def strings_Index_an : Ann := (.seq (.leaf [0, 1]) (.seq (.leaf [4]) (.leaf [4])))

noncomputable def strings_Index_ctx : Ctx := ⟨tlook tys, olook [(67, F_internal_stringslite_Index)], ioF, 0, false, []⟩

theorem strings_Index_n1_l (x2728 : ByteArray) (x2729 : ByteArray) : Link strings_Index_ctx LL (bodyOf Tryd.f60) strings_Index_an ⟨mkE 8 0 [(0, dS x2728), (1, dS x2729)], []⟩ (strings_Index_n1 x2728 x2729) (fun (t : Int) => (Exit.ret, ⟨mkE 8 0 [(4, dI t)], []⟩)) := .of fun K h => by
  simp only [strings_Index_n1, wpW] at h
  exact .of (by kernel_rfl) h

theorem strings_Index_e (x2728 : ByteArray) (x2729 : ByteArray) {r : AV} {H' : Heap} (h : (Ans.mk _ (strings_Index x2728 x2729) (fun (t : Int) => (dI t, [])) [] none).run = some (r, H')) : Awp strings_Index_ctx LL (bodyOf Tryd.f60) strings_Index_an ⟨mkE 8 0 [(0, dS x2728), (1, dS x2729)], []⟩ (Ret (tlook tys) Tryd.f60.results.toList r H') :=
  ret_of' (strings_Index_n1_l x2728 x2729) (by unfold strings_Index; kernel_rfl) (by
  intro t
  exact ret_mk [dI t] (by kernel_rfl) (by kernel_rfl) (by kernel_rfl) (by kernel_rfl)) h

def F_strings_Index : Fun := fun avs H =>
  match avs, H with
  | [.dat .str x2728, .dat .str x2729], [] => ⟨_, strings_Index x2728 x2729, fun (t : Int) => (dI t, []), [], none⟩
  | _, _ => Ans.no

theorem strings_Index_sound : Sound Tryd.prog 60 F_strings_Index := by
  refine fn_sound' (C := strings_Index_ctx) (c := bodyOf Tryd.f60) (cok_of tys_ok (allc internal_stringslite_Index_sound alln) (allc Tryd.call67 alln) (by kernel_rfl)) Tryd.func60 (by kernel_rfl) LL strings_Index_an ?_
  intro avs H r H' h
  unfold F_strings_Index at h
  split at h
  · refine Awp.cast ?_ ?_ ?_ (strings_Index_e _ _ h) <;> kernel_rfl
  · simp [Ans.no, Ans.run] at h


/-! strings.genSplit -/

def strings_genSplit_an : Ann := (.seq (.leaf [0, 1, 2, 3]) (.seq (.seq (.leaf [0, 1, 2, 3, 13]) (.cond (.seq (.leaf [8]) (.leafF [⟨0, 8, true, none, none⟩] [8])) (.leaf [0, 1, 2, 3]))) (.seq (.seq (.leaf [0, 1, 2, 3, 15]) (.cond (.seq (.leaf [8]) (.leaf [8])) (.leaf [0, 1, 2, 3]))) (.seq (.seq (.leaf [0, 1, 2, 3, 20]) (.cond (.leaf [0, 1, 2, 3]) (.leaf [0, 1, 2, 3]))) (.seq (.leaf [0, 1, 2, 3]) (.seq (.leaf [0, 1, 2, 3, 9]) (.seq (.leaf [0, 1, 2, 3, 9]) (.seq (.leaf [0, 1, 2, 3, 9, 10]) (.seq (.block (.loop (.seq (.seq (.leaf [0, 1, 2, 3, 9, 10, 36]) (.cond (.leaf [0, 1, 2, 3, 9, 10]) (.leaf [0, 9, 10]))) (.block (.seq (.leaf [0, 1, 2, 3, 9, 10, 11]) (.seq (.seq (.leaf [0, 1, 2, 3, 9, 10, 11, 41]) (.cond (.leaf [0, 9, 10]) (.leaf [0, 1, 2, 3, 9, 10, 11]))) (.seq (.leaf [0, 1, 2, 3, 9, 10, 11]) (.seq (.leaf [0, 1, 2, 3, 9, 10]) (.leaf [0, 1, 2, 3, 9, 10]))))))))) (.seq (.leaf [9, 10]) (.seq (.leaf [8]) (.leaf [8]))))))))))))

noncomputable def strings_genSplit_ctx : Ctx := ⟨tlook tys, olook [(60, F_strings_Index)], ioF, 0, false, []⟩

theorem strings_genSplit_n1_l (x2684 : ByteArray) (x2685 : ByteArray) (x2686 : Int) (x2687 : Int) : Link strings_genSplit_ctx LL (Code.seq (cq [0] (bodyOf Tryd.f48)) (Code.seq (cq [0,1] (bodyOf Tryd.f48)) (Code.seq (cq [0,1,1] (bodyOf Tryd.f48)) (Code.seq (cq [0,1,1,1] (bodyOf Tryd.f48)) (Code.seq (cq [0,1,1,1,1] (bodyOf Tryd.f48)) (Code.seq (cq [0,1,1,1,1,1] (bodyOf Tryd.f48)) (Code.seq (cq [0,1,1,1,1,1,1] (bodyOf Tryd.f48)) (cq [0,1,1,1,1,1,1,1] (bodyOf Tryd.f48))))))))) (Ann.seq (aq [0] strings_genSplit_an) (Ann.seq (aq [0,1] strings_genSplit_an) (Ann.seq (aq [0,1,1] strings_genSplit_an) (Ann.seq (aq [0,1,1,1] strings_genSplit_an) (Ann.seq (aq [0,1,1,1,1] strings_genSplit_an) (Ann.seq (aq [0,1,1,1,1,1] strings_genSplit_an) (Ann.seq (aq [0,1,1,1,1,1,1] strings_genSplit_an) (aq [0,1,1,1,1,1,1,1] strings_genSplit_an)))))))) ⟨mkE 66 0 [(0, dS x2684), (1, dS x2685), (2, dI x2686), (3, dI x2687)], []⟩ (strings_genSplit_n1 x2684 x2685 x2687) (Sum.elim (fun (t : Int × (List ByteArray)) => (Exit.normal, ⟨mkE 66 0 [(0, dS x2684), (1, dS x2685), (2, dI x2686), (3, dI t.1), (9, .slc 0), (10, dI 0)], [some (.seq .str t.2)]⟩)) (fun (t : Nat × (List ByteArray)) => (Exit.ret, ⟨mkE 66 0 [(8, .win 0 0 t.1)], [some (.seq .str t.2)]⟩))) := .of fun K h => by
  simp only [strings_genSplit_n1, wpW, wpO_none] at h
  exact .of (by kernel_rfl) h

theorem strings_genSplit_n2_l (x2840 : ByteArray) (x2685 : ByteArray) (x2686 : Int) (x2823 : Int) (x2841 : Int) (x2842 : List ByteArray) : Link strings_genSplit_ctx LL (cq [0,0,0,1,1,1,1,1,1,1,1] (bodyOf Tryd.f48)) (aq [0,0,0,1,1,1,1,1,1,1,1] strings_genSplit_an) ⟨mkE 66 0 [(0, dS x2840), (1, dS x2685), (2, dI x2686), (3, dI x2823), (9, .slc 0), (10, dI x2841)], [some (.seq .str x2842)]⟩ (strings_genSplit_n2 x2840 x2685 x2686 x2823 x2841 x2842) (Sum.elim (fun (t : ByteArray × Int × (List ByteArray)) => (Exit.normal, ⟨mkE 66 0 [(0, dS t.1), (1, dS x2685), (2, dI x2686), (3, dI x2823), (9, .slc 0), (10, dI t.2.1)], [some (.seq .str t.2.2)]⟩)) (fun (t : ByteArray × Int × (List ByteArray)) => ((Exit.exit 0), ⟨mkE 66 0 [(0, dS t.1), (9, .slc 0), (10, dI t.2.1)], [some (.seq .str t.2.2)]⟩))) := .of fun K h => by
  simp only [strings_genSplit_n2, wpW] at h
  exact .of (by kernel_rfl) h

def strings_genSplit_n3_l (x2684 : ByteArray) (x2685 : ByteArray) (x2686 : Int) (x2823 : Int) (x2822 : List ByteArray) := (link_loop (mk := fun (s : ByteArray × Int × (List ByteArray)) => ⟨mkE 66 0 [(0, dS s.1), (1, dS x2685), (2, dI x2686), (3, dI x2823), (9, .slc 0), (10, dI s.2.1)], [some (.seq .str s.2.2)]⟩) (fin := (fun (t : ByteArray × Int × (List ByteArray)) => ((Exit.exit 0), ⟨mkE 66 0 [(0, dS t.1), (9, .slc 0), (10, dI t.2.1)], [some (.seq .str t.2.2)]⟩))) (by
  rintro t f K h
  · exact h) (fun s => link_map (strings_genSplit_n2_l s.1 x2685 x2686 x2823 s.2.1 s.2.2) (Sum.elim (fun (t : ByteArray × Int × (List ByteArray)) => Sum.inl (t.1, t.2.1, t.2.2)) (fun (t : ByteArray × Int × (List ByteArray)) => Sum.inr t)) (by
  rintro (t | t)
  · kernel_rfl
  · kernel_rfl)) (x2684, 0, x2822))

def strings_genSplit_n4_l (x2684 : ByteArray) (x2685 : ByteArray) (x2686 : Int) (x2823 : Int) (x2822 : List ByteArray) := (link_block (fin2 := (fun (t : ByteArray × Int × (List ByteArray)) => (Exit.normal, ⟨mkE 66 0 [(0, dS t.1), (9, .slc 0), (10, dI t.2.1)], [some (.seq .str t.2.2)]⟩))) (id := 0) (strings_genSplit_n3_l x2684 x2685 x2686 x2823 x2822) (fun (t : ByteArray × Int × (List ByteArray)) => (t.1, t.2.1, t.2.2)) (by
  rintro t K h
  · exact Eq.mp (by kernel_rfl) h))

theorem strings_genSplit_n5_l (x2840 : ByteArray) (x2841 : Int) (x2842 : List ByteArray) : Link strings_genSplit_ctx LL (cq [1,1,1,1,1,1,1,1,1] (bodyOf Tryd.f48)) (aq [1,1,1,1,1,1,1,1,1] strings_genSplit_an) ⟨mkE 66 0 [(0, dS x2840), (9, .slc 0), (10, dI x2841)], [some (.seq .str x2842)]⟩ (strings_genSplit_n5 x2840 x2841 x2842) (fun (t : Nat × (List ByteArray)) => (Exit.ret, ⟨mkE 66 0 [(8, .win 0 0 t.1)], [some (.seq .str t.2)]⟩)) := .of fun K h => by
  simp only [strings_genSplit_n5, wpW] at h
  exact .of (by kernel_rfl) h

def strings_genSplit_n6_l (x2684 : ByteArray) (x2685 : ByteArray) (x2686 : Int) (x2823 : Int) (x2822 : List ByteArray) := (link_seq (strings_genSplit_n4_l x2684 x2685 x2686 x2823 x2822) (fun (t : ByteArray × Int × (List ByteArray)) => (strings_genSplit_n5_l t.1 t.2.1 t.2.2)))

def strings_genSplit_n7_l (x2684 : ByteArray) (x2685 : ByteArray) (x2686 : Int) (x2687 : Int) := (link_group (c := (cq [0,1,1,1,1,1,1,1] (bodyOf Tryd.f48))) (a := (aq [0,1,1,1,1,1,1,1] strings_genSplit_an)) [(cq [0] (bodyOf Tryd.f48)), (cq [0,1] (bodyOf Tryd.f48)), (cq [0,1,1] (bodyOf Tryd.f48)), (cq [0,1,1,1] (bodyOf Tryd.f48)), (cq [0,1,1,1,1] (bodyOf Tryd.f48)), (cq [0,1,1,1,1,1] (bodyOf Tryd.f48)), (cq [0,1,1,1,1,1,1] (bodyOf Tryd.f48))] [(aq [0] strings_genSplit_an), (aq [0,1] strings_genSplit_an), (aq [0,1,1] strings_genSplit_an), (aq [0,1,1,1] strings_genSplit_an), (aq [0,1,1,1,1] strings_genSplit_an), (aq [0,1,1,1,1,1] strings_genSplit_an), (aq [0,1,1,1,1,1,1] strings_genSplit_an)] rfl (link_seq2 (strings_genSplit_n1_l x2684 x2685 x2686 x2687) (fun (t : Int × (List ByteArray)) => (strings_genSplit_n6_l x2684 x2685 x2686 t.1 t.2)) (fun (t : Nat × (List ByteArray)) => t) (by
  rintro t
  · kernel_rfl) (by
  rintro t f K h
  · exact h)))

theorem strings_genSplit_e (x2684 : ByteArray) (x2685 : ByteArray) (x2686 : Int) (x2687 : Int) {r : AV} {H' : Heap} (h : (Ans.mk _ (strings_genSplit x2684 x2685 x2686 x2687) (fun (t : Nat × (List ByteArray)) => (.win 0 0 t.1, [some (.seq .str t.2)])) [] none).run = some (r, H')) : Awp strings_genSplit_ctx LL (bodyOf Tryd.f48) strings_genSplit_an ⟨mkE 66 0 [(0, dS x2684), (1, dS x2685), (2, dI x2686), (3, dI x2687)], []⟩ (Ret (tlook tys) Tryd.f48.results.toList r H') :=
  ret_of' (Link.cast (by kernel_rfl) (by kernel_rfl) (strings_genSplit_n7_l x2684 x2685 x2686 x2687)) (by unfold strings_genSplit; kernel_rfl) (by
  intro t
  exact ret_mk [.win 0 0 t.1] (by kernel_rfl) (by kernel_rfl) (by kernel_rfl) (by kernel_rfl)) h

def F_strings_genSplit : Fun := fun avs H =>
  match avs, H with
  | [.dat .str x2684, .dat .str x2685, .dat (.int .i64) x2686, .dat (.int .i64) x2687], [] => ⟨_, strings_genSplit x2684 x2685 x2686 x2687, fun (t : Nat × (List ByteArray)) => (.win 0 0 t.1, [some (.seq .str t.2)]), [], none⟩
  | _, _ => Ans.no

theorem strings_genSplit_sound : Sound Tryd.prog 48 F_strings_genSplit := by
  refine fn_sound' (C := strings_genSplit_ctx) (c := bodyOf Tryd.f48) (cok_of tys_ok (allc strings_Index_sound alln) (allc Tryd.call60 alln) (by kernel_rfl)) Tryd.func48 (by kernel_rfl) LL strings_genSplit_an ?_
  intro avs H r H' h
  unfold F_strings_genSplit at h
  split at h
  · refine Awp.cast ?_ ?_ ?_ (strings_genSplit_e _ _ _ _ h) <;> kernel_rfl
  · simp [Ans.no, Ans.run] at h


/-! strings.SplitN -/

def strings_SplitN_an : Ann := (.seq (.leaf [0, 1, 2]) (.seq (.leaf [6]) (.leaf [6])))

noncomputable def strings_SplitN_ctx : Ctx := ⟨tlook tys, olook [(48, F_strings_genSplit)], ioF, 0, false, []⟩

theorem strings_SplitN_n1_l (x2680 : ByteArray) (x2681 : ByteArray) (x2682 : Int) : Link strings_SplitN_ctx LL (bodyOf Tryd.f27) strings_SplitN_an ⟨mkE 11 0 [(0, dS x2680), (1, dS x2681), (2, dI x2682)], []⟩ (strings_SplitN_n1 x2680 x2681 x2682) (fun (t : Nat × (List ByteArray)) => (Exit.ret, ⟨mkE 11 0 [(6, .win 0 0 t.1)], [some (.seq .str t.2)]⟩)) := .of fun K h => by
  simp only [strings_SplitN_n1, wpW] at h
  exact .of (by kernel_rfl) h

theorem strings_SplitN_e (x2680 : ByteArray) (x2681 : ByteArray) (x2682 : Int) {r : AV} {H' : Heap} (h : (Ans.mk _ (strings_SplitN x2680 x2681 x2682) (fun (t : Nat × (List ByteArray)) => (.win 0 0 t.1, [some (.seq .str t.2)])) [] none).run = some (r, H')) : Awp strings_SplitN_ctx LL (bodyOf Tryd.f27) strings_SplitN_an ⟨mkE 11 0 [(0, dS x2680), (1, dS x2681), (2, dI x2682)], []⟩ (Ret (tlook tys) Tryd.f27.results.toList r H') :=
  ret_of' (strings_SplitN_n1_l x2680 x2681 x2682) (by unfold strings_SplitN; kernel_rfl) (by
  intro t
  exact ret_mk [.win 0 0 t.1] (by kernel_rfl) (by kernel_rfl) (by kernel_rfl) (by kernel_rfl)) h

def F_strings_SplitN : Fun := fun avs H =>
  match avs, H with
  | [.dat .str x2680, .dat .str x2681, .dat (.int .i64) x2682], [] => ⟨_, strings_SplitN x2680 x2681 x2682, fun (t : Nat × (List ByteArray)) => (.win 0 0 t.1, [some (.seq .str t.2)]), [], none⟩
  | _, _ => Ans.no

theorem strings_SplitN_sound : Sound Tryd.prog 27 F_strings_SplitN := by
  refine fn_sound' (C := strings_SplitN_ctx) (c := bodyOf Tryd.f27) (cok_of tys_ok (allc strings_genSplit_sound alln) (allc Tryd.call48 alln) (by kernel_rfl)) Tryd.func27 (by kernel_rfl) LL strings_SplitN_an ?_
  intro avs H r H' h
  unfold F_strings_SplitN at h
  split at h
  · refine Awp.cast ?_ ?_ ?_ (strings_SplitN_e _ _ _ h) <;> kernel_rfl
  · simp [Ans.no, Ans.run] at h


/-! loop.example/headtrees/impl.kindFor -/

def impl_kindFor_an : Ann := (.seq (.leaf [0]) (.seq (.seq (.leaf [0, 5, 6]) (.block (.loop (.seq (.leaf [0, 5, 6, 7]) (.seq (.cond (.leaf [0, 5, 6]) (.leaf [])) (.seq (.block (.seq (.leaf [0, 3, 4, 5, 6]) (.seq (.leaf [0, 3, 5, 6, 12]) (.cond (.seq (.leaf [2]) (.leaf [2])) (.leaf [0, 5, 6]))))) (.leaf [0, 5, 6]))))))) (.seq (.leaf [2]) (.leaf [2]))))

noncomputable def impl_kindFor_ctx : Ctx := ⟨tlook tys, olook [], ioF, 0, false, []⟩

theorem impl_kindFor_n1_l (x2890 : ByteArray) : Link impl_kindFor_ctx LL (cq [0] (bodyOf Tryd.f28)) (aq [0] impl_kindFor_an) ⟨mkE 15 0 [(0, dS x2890)], []⟩ (impl_kindFor_n1) (fun (t : Unit) => (Exit.normal, ⟨mkE 15 0 [(0, dS x2890)], []⟩)) := .of fun K h => by
  simp only [impl_kindFor_n1, wpW] at h
  exact .of (by kernel_rfl) h

theorem impl_kindFor_n2_l (x2890 : ByteArray) : Link impl_kindFor_ctx LL (cq [0,0,1] (bodyOf Tryd.f28)) (aq [0,0,1] impl_kindFor_an) ⟨mkE 15 0 [(0, dS x2890)], []⟩ (impl_kindFor_n2) (fun (t : ByteArray × ByteArray × ByteArray × ByteArray × ByteArray × ByteArray) => (Exit.normal, ⟨mkE 15 0 [(0, dS x2890), (5, .agg [dS t.1, dS t.2.1, dS t.2.2.1, dS t.2.2.2.1, dS t.2.2.2.2.1, dS t.2.2.2.2.2]), (6, dI 0)], []⟩)) := .of fun K h => by
  simp only [impl_kindFor_n2, wpW] at h
  exact .of (by kernel_rfl) h

theorem impl_kindFor_n3_l (x2890 : ByteArray) (x2892 : ByteArray) (x2893 : ByteArray) (x2894 : ByteArray) (x2895 : ByteArray) (x2896 : ByteArray) (x2897 : ByteArray) (x2907 : Int) : Link impl_kindFor_ctx LL (cq [0,0,1,0,1] (bodyOf Tryd.f28)) (aq [0,0,1,0,1] impl_kindFor_an) ⟨mkE 15 0 [(0, dS x2890), (5, .agg [dS x2892, dS x2893, dS x2894, dS x2895, dS x2896, dS x2897]), (6, dI x2907)], []⟩ (impl_kindFor_n3 x2890 x2892 x2893 x2894 x2895 x2896 x2897 x2907) (Sum.elim (fun (t : Int) => (Exit.normal, ⟨mkE 15 0 [(0, dS x2890), (5, .agg [dS x2892, dS x2893, dS x2894, dS x2895, dS x2896, dS x2897]), (6, dI t)], []⟩)) (Sum.elim (fun (t : Int) => (Exit.ret, ⟨mkE 15 0 [(2, dI t)], []⟩)) (fun (t : Unit) => ((Exit.exit 0), ⟨mkE 15 0 [], []⟩)))) := .of fun K h => by
  simp only [impl_kindFor_n3, wpW] at h
  exact .of (by kernel_rfl) h

def impl_kindFor_n4_l (x2890 : ByteArray) (x2892 : ByteArray) (x2893 : ByteArray) (x2894 : ByteArray) (x2895 : ByteArray) (x2896 : ByteArray) (x2897 : ByteArray) := (link_loop (mk := fun (s : Int) => ⟨mkE 15 0 [(0, dS x2890), (5, .agg [dS x2892, dS x2893, dS x2894, dS x2895, dS x2896, dS x2897]), (6, dI s)], []⟩) (fin := (Sum.elim (fun (t : Int) => (Exit.ret, ⟨mkE 15 0 [(2, dI t)], []⟩)) (fun (t : Unit) => ((Exit.exit 0), ⟨mkE 15 0 [], []⟩)))) (by
  rintro (t | t) f K h
  · exact h
  · exact h) (fun s => link_map (impl_kindFor_n3_l x2890 x2892 x2893 x2894 x2895 x2896 x2897 s) (Sum.elim (fun (t : Int) => Sum.inl t) (Sum.elim (fun (t : Int) => Sum.inr (Sum.inl t)) (fun (t : Unit) => Sum.inr (Sum.inr t)))) (by
  rintro (t | t | t)
  · kernel_rfl
  · kernel_rfl
  · kernel_rfl)) 0)

def impl_kindFor_n5_l (x2890 : ByteArray) (x2892 : ByteArray) (x2893 : ByteArray) (x2894 : ByteArray) (x2895 : ByteArray) (x2896 : ByteArray) (x2897 : ByteArray) := (link_block (fin2 := (Sum.elim (fun (t : Unit) => (Exit.normal, ⟨mkE 15 0 [], []⟩)) (fun (t : Int) => (Exit.ret, ⟨mkE 15 0 [(2, dI t)], []⟩)))) (id := 0) (impl_kindFor_n4_l x2890 x2892 x2893 x2894 x2895 x2896 x2897) (Sum.elim (fun (t : Int) => (Sum.inr t)) (fun (t : Unit) => (Sum.inl ()))) (by
  rintro (t | t) K h
  · exact Eq.mp (by kernel_rfl) h
  · exact Eq.mp (by kernel_rfl) h))

def impl_kindFor_n6_l (x2890 : ByteArray) := (link_seq (impl_kindFor_n2_l x2890) (fun (t : ByteArray × ByteArray × ByteArray × ByteArray × ByteArray × ByteArray) => (impl_kindFor_n5_l x2890 t.1 t.2.1 t.2.2.1 t.2.2.2.1 t.2.2.2.2.1 t.2.2.2.2.2)))

theorem impl_kindFor_n7_l : Link impl_kindFor_ctx LL (cq [1,1] (bodyOf Tryd.f28)) (aq [1,1] impl_kindFor_an) ⟨mkE 15 0 [], []⟩ (impl_kindFor_n7) (fun (t : Int) => (Exit.ret, ⟨mkE 15 0 [(2, dI t)], []⟩)) := .of fun K h => by
  simp only [impl_kindFor_n7, wpW] at h
  exact .of (by kernel_rfl) h

def impl_kindFor_n8_l (x2890 : ByteArray) := (link_seq2 (impl_kindFor_n6_l x2890) (fun (t : Unit) => (impl_kindFor_n7_l)) (fun (t : Int) => t) (by
  rintro t
  · kernel_rfl) (by
  rintro t f K h
  · exact h))

def impl_kindFor_n9_l (x2890 : ByteArray) := (link_seq (impl_kindFor_n1_l x2890) (fun (t : Unit) => (impl_kindFor_n8_l x2890)))

theorem impl_kindFor_e (x2890 : ByteArray) {r : AV} {H' : Heap} (h : (Ans.mk _ (impl_kindFor x2890) (fun (t : Int) => (dI t, [])) [] none).run = some (r, H')) : Awp impl_kindFor_ctx LL (bodyOf Tryd.f28) impl_kindFor_an ⟨mkE 15 0 [(0, dS x2890)], []⟩ (Ret (tlook tys) Tryd.f28.results.toList r H') :=
  ret_of' (Link.cast (by kernel_rfl) (by kernel_rfl) (impl_kindFor_n9_l x2890)) (by unfold impl_kindFor; kernel_rfl) (by
  intro t
  exact ret_mk [dI t] (by kernel_rfl) (by kernel_rfl) (by kernel_rfl) (by kernel_rfl)) h

def F_impl_kindFor : Fun := fun avs H =>
  match avs, H with
  | [.dat .str x2890], [] => ⟨_, impl_kindFor x2890, fun (t : Int) => (dI t, []), [], none⟩
  | _, _ => Ans.no

theorem impl_kindFor_sound : Sound Tryd.prog 28 F_impl_kindFor := by
  refine fn_sound' (C := impl_kindFor_ctx) (c := bodyOf Tryd.f28) (cok_of tys_ok (alln) (alln) (by kernel_rfl)) Tryd.func28 (by kernel_rfl) LL impl_kindFor_an ?_
  intro avs H r H' h
  unfold F_impl_kindFor at h
  split at h
  · refine Awp.cast ?_ ?_ ?_ (impl_kindFor_e _ h) <;> kernel_rfl
  · simp [Ans.no, Ans.run] at h


/-! strconv.Atoi -/

def ren_atoiS : Go.Shelf.Ren := ⟨fun | 129 => 83 | 171 => 23 | 172 => 29 | 205 => 77 | 243 => 45 | 244 => 49 | 245 => 50 | 246 => 56 | 247 => 61 | 279 => 62 | 280 => 63 | 281 => 64 | 282 => 65 | 283 => 68 | 284 => 69 | 285 => 70 | 286 => 71 | 287 => 75 | 316 => 76 | 317 => 82 | 318 => 84 | 319 => 85 | 320 => 86 | 321 => 88 | 322 => 89 | 337 => 92 | 338 => 93 | n => n, fun | 0 => 0 | 2 => 2 | 3 => 3 | 4 => 4 | 5 => 5 | 9 => 9 | 20 => 20 | 21 => 21 | 37 => 22 | 46 => 102 | 51 => 109 | 53 => 91 | 75 => 52 | 76 => 53 | 80 => 62 | 85 => 83 | 127 => 74 | 143 => 114 | 145 => 116 | 167 => 82 | 168 => 85 | 171 => 90 | 173 => 94 | 175 => 100 | 210 => 105 | 212 => 108 | 213 => 110 | 232 => 124 | 233 => 125 | n => n, fun | 15 => 1 | 16 => 2 | 17 => 4 | 18 => 7 | 19 => 8 | n => n⟩
theorem lay_atoiS : LaysC.n172 Tryd.prog ren_atoiS := {
  mixed := by kernel_rfl
  f129 := Tryd.func83.trans (congrArg some (by kernel_rfl))
  f171 := Tryd.func23.trans (congrArg some (by kernel_rfl))
  f172 := Tryd.func29.trans (congrArg some (by kernel_rfl))
  f205 := Tryd.func77.trans (congrArg some (by kernel_rfl))
  f243 := Tryd.func45.trans (congrArg some (by kernel_rfl))
  f244 := Tryd.func49.trans (congrArg some (by kernel_rfl))
  f245 := Tryd.func50.trans (congrArg some (by kernel_rfl))
  f246 := Tryd.func56.trans (congrArg some (by kernel_rfl))
  f247 := Tryd.func61.trans (congrArg some (by kernel_rfl))
  f279 := Tryd.func62.trans (congrArg some (by kernel_rfl))
  f280 := Tryd.func63.trans (congrArg some (by kernel_rfl))
  f281 := Tryd.func64.trans (congrArg some (by kernel_rfl))
  f282 := Tryd.func65.trans (congrArg some (by kernel_rfl))
  f283 := Tryd.func68.trans (congrArg some (by kernel_rfl))
  f284 := Tryd.func69.trans (congrArg some (by kernel_rfl))
  f285 := Tryd.func70.trans (congrArg some (by kernel_rfl))
  f286 := Tryd.func71.trans (congrArg some (by kernel_rfl))
  f287 := Tryd.func75.trans (congrArg some (by kernel_rfl))
  f316 := Tryd.func76.trans (congrArg some (by kernel_rfl))
  f317 := Tryd.func82.trans (congrArg some (by kernel_rfl))
  f318 := Tryd.func84.trans (congrArg some (by kernel_rfl))
  f319 := Tryd.func85.trans (congrArg some (by kernel_rfl))
  f320 := Tryd.func86.trans (congrArg some (by kernel_rfl))
  f321 := Tryd.func88.trans (congrArg some (by kernel_rfl))
  f322 := Tryd.func89.trans (congrArg some (by kernel_rfl))
  f337 := Tryd.func92.trans (congrArg some (by kernel_rfl))
  f338 := Tryd.func93.trans (congrArg some (by kernel_rfl))
  t0 := Tryd.underlying0
  a0 := Tryd.isAgg0
  z0 := Tryd.sizeOf0
  v0 := Tryd.zeroValue0
  t2 := Tryd.underlying2
  a2 := Tryd.isAgg2
  z2 := Tryd.sizeOf2
  v2 := Tryd.zeroValue2
  t3 := Tryd.underlying3
  a3 := Tryd.isAgg3
  z3 := Tryd.sizeOf3
  v3 := Tryd.zeroValue3
  t4 := Tryd.underlying4
  a4 := Tryd.isAgg4
  z4 := Tryd.sizeOf4
  v4 := Tryd.zeroValue4
  t5 := Tryd.underlying5
  a5 := Tryd.isAgg5
  z5 := Tryd.sizeOf5
  v5 := Tryd.zeroValue5
  t9 := Tryd.underlying9
  a9 := Tryd.isAgg9
  z9 := Tryd.sizeOf9
  v9 := Tryd.zeroValue9
  t20 := Tryd.underlying20
  a20 := Tryd.isAgg20
  z20 := Tryd.sizeOf20
  v20 := Tryd.zeroValue20
  t21 := Tryd.underlying21
  a21 := Tryd.isAgg21
  z21 := Tryd.sizeOf21
  v21 := Tryd.zeroValue21
  t37 := Tryd.underlying22
  a37 := Tryd.isAgg22
  z37 := Tryd.sizeOf22
  v37 := Tryd.zeroValue22
  t46 := Tryd.underlying102
  a46 := Tryd.isAgg102
  z46 := Tryd.sizeOf102
  v46 := Tryd.zeroValue102
  t51 := Tryd.underlying109
  a51 := Tryd.isAgg109
  z51 := Tryd.sizeOf109
  v51 := Tryd.zeroValue109
  t53 := Tryd.underlying91
  a53 := Tryd.isAgg91
  z53 := Tryd.sizeOf91
  v53 := Tryd.zeroValue91
  t75 := Tryd.underlying52
  a75 := Tryd.isAgg52
  z75 := Tryd.sizeOf52
  v75 := Tryd.zeroValue52
  t76 := Tryd.underlying53
  a76 := Tryd.isAgg53
  z76 := Tryd.sizeOf53
  v76 := Tryd.zeroValue53
  t85 := Tryd.underlying83
  a85 := Tryd.isAgg83
  z85 := Tryd.sizeOf83
  v85 := Tryd.zeroValue83
  t127 := Tryd.underlying74
  a127 := Tryd.isAgg74
  z127 := Tryd.sizeOf74
  v127 := Tryd.zeroValue74
  t143 := Tryd.underlying114
  a143 := Tryd.isAgg114
  z143 := Tryd.sizeOf114
  v143 := Tryd.zeroValue114
  t145 := Tryd.underlying116
  a145 := Tryd.isAgg116
  z145 := Tryd.sizeOf116
  v145 := Tryd.zeroValue116
  t167 := Tryd.underlying82
  a167 := Tryd.isAgg82
  z167 := Tryd.sizeOf82
  v167 := Tryd.zeroValue82
  t168 := Tryd.underlying85
  a168 := Tryd.isAgg85
  z168 := Tryd.sizeOf85
  v168 := Tryd.zeroValue85
  t171 := Tryd.underlying90
  a171 := Tryd.isAgg90
  z171 := Tryd.sizeOf90
  v171 := Tryd.zeroValue90
  t173 := Tryd.underlying94
  a173 := Tryd.isAgg94
  z173 := Tryd.sizeOf94
  v173 := Tryd.zeroValue94
  t175 := Tryd.underlying100
  a175 := Tryd.isAgg100
  z175 := Tryd.sizeOf100
  v175 := Tryd.zeroValue100
  t210 := Tryd.underlying105
  a210 := Tryd.isAgg105
  z210 := Tryd.sizeOf105
  v210 := Tryd.zeroValue105
  t212 := Tryd.underlying108
  a212 := Tryd.isAgg108
  z212 := Tryd.sizeOf108
  v212 := Tryd.zeroValue108
  t213 := Tryd.underlying110
  a213 := Tryd.isAgg110
  z213 := Tryd.sizeOf110
  t232 := Tryd.underlying124
  a232 := Tryd.isAgg124
  z232 := Tryd.sizeOf124
  v232 := Tryd.zeroValue124
  t233 := Tryd.underlying125
  a233 := Tryd.isAgg125
  z233 := Tryd.sizeOf125
  v233 := Tryd.zeroValue125
  g15 := by kernel_rfl
  g16 := by kernel_rfl
  g17 := by kernel_rfl
  g18 := by kernel_rfl
  g19 := by kernel_rfl
  t80 := Tryd.underlying62
  a80 := Tryd.isAgg62
  z80 := Tryd.sizeOf62
  v80 := Tryd.zeroValue62
  i0 := by kernel_rfl
  i2 := by kernel_rfl
  i3 := by kernel_rfl
  i4 := by kernel_rfl
  i5 := by kernel_rfl
  i9 := by kernel_rfl
  i20 := by kernel_rfl
  i21 := by kernel_rfl
  i37 := by kernel_rfl
  i46 := by kernel_rfl
  i51 := by kernel_rfl
  i53 := by kernel_rfl
  i75 := by kernel_rfl
  i76 := by kernel_rfl
  i80 := by kernel_rfl
  i85 := by kernel_rfl
  i127 := by kernel_rfl
  i143 := by kernel_rfl
  i145 := by kernel_rfl
  i167 := by kernel_rfl
  i168 := by kernel_rfl
  i171 := by kernel_rfl
  i173 := by kernel_rfl
  i175 := by kernel_rfl
  i210 := by kernel_rfl
  i212 := by kernel_rfl
  i232 := by kernel_rfl
  i233 := by kernel_rfl
  m15 := by kernel_rfl
  m16 := by kernel_rfl
  m17 := by kernel_rfl
  m18 := by kernel_rfl
  m19 := by kernel_rfl
  c0 := by kernel_rfl
  c2 := by kernel_rfl
  c3 := by kernel_rfl
  c4 := by kernel_rfl
  c5 := by kernel_rfl
  c9 := by kernel_rfl
  c20 := by kernel_rfl
  c21 := by kernel_rfl
  c37 := by kernel_rfl
  c46 := by kernel_rfl
  c51 := by kernel_rfl
  c53 := by kernel_rfl
  c75 := by kernel_rfl
  c76 := by kernel_rfl
  c80 := by kernel_rfl
  c85 := by kernel_rfl
  c127 := by kernel_rfl
  c143 := by kernel_rfl
  c145 := by kernel_rfl
  c167 := by kernel_rfl
  c168 := by kernel_rfl
  c171 := by kernel_rfl
  c173 := by kernel_rfl
  c175 := by kernel_rfl
  c210 := by kernel_rfl
  c212 := by kernel_rfl
  c213 := by kernel_rfl
  c232 := by kernel_rfl
  c233 := by kernel_rfl }

def F_strconv_Atoi : Fun := F_atoiS
theorem strconv_Atoi_sound : Sound Tryd.prog 29 F_strconv_Atoi := atoiS_sound lay_atoiS rfl rfl


/-! loop.example/headtrees/impl.ReadDeed -/

def impl_ReadDeed_an : Ann := (.seq (.leaf [0, 2]) (.seq (.leaf [0, 2, 4]) (.seq (.leaf [0, 2, 4, 5]) (.seq (.seq (.leaf [0, 2, 4, 5, 15]) (.cond (.leaf [0, 2, 4, 5]) (.leaf [0, 2, 4, 5]))) (.seq (.seq (.leaf [0, 2, 4, 5, 26]) (.cond (.leaf [0, 2, 5]) (.leaf [0, 2, 5]))) (.seq (.seq (.leaf [2, 5, 42]) (.cond (.seq (.leaf [2, 3]) (.leaf [2, 3])) (.leaf [2, 5]))) (.seq (.leaf [2, 3]) (.leaf [2, 3]))))))))

noncomputable def impl_ReadDeed_ctx : Ctx := ⟨tlook tys, olook [(27, F_strings_SplitN), (28, F_impl_kindFor), (29, F_strconv_Atoi), (7, F_impl_DeedText)], ioF, 0, false, []⟩

theorem impl_ReadDeed_n1_l (x2679 : ByteArray) : Link impl_ReadDeed_ctx LL (bodyOf Tryd.f10) impl_ReadDeed_an ⟨mkE 45 0 [(0, dS x2679)], []⟩ (impl_ReadDeed_n1 x2679) (fun (t : Bool × Int × Int × Int) => (Exit.ret, ⟨mkE 45 0 [(2, .ptr 0 0), (3, dB t.1)], [some (.box [dI t.2.1, dI t.2.2.1, dI t.2.2.2])]⟩)) := .of fun K h => by
  simp only [impl_ReadDeed_n1, wpW] at h
  exact .of (by kernel_rfl) h

theorem impl_ReadDeed_e (x2679 : ByteArray) {r : AV} {H' : Heap} (h : (Ans.mk _ (impl_ReadDeed x2679) (fun (t : Bool × Int × Int × Int) => (.tup [.agg [dI t.2.1, dI t.2.2.1, dI t.2.2.2], dB t.1], [some (.box [dI t.2.1, dI t.2.2.1, dI t.2.2.2])])) [] none).run = some (r, H')) : Awp impl_ReadDeed_ctx LL (bodyOf Tryd.f10) impl_ReadDeed_an ⟨mkE 45 0 [(0, dS x2679)], []⟩ (Ret (tlook tys) Tryd.f10.results.toList r H') :=
  ret_of' (impl_ReadDeed_n1_l x2679) (by unfold impl_ReadDeed; kernel_rfl) (by
  intro t
  exact ret_mk [.agg [dI t.2.1, dI t.2.2.1, dI t.2.2.2], dB t.1] (by kernel_rfl) (by kernel_rfl) (by kernel_rfl) (by kernel_rfl)) h

def F_impl_ReadDeed : Fun := fun avs H =>
  match avs, H with
  | [.dat .str x2679], [] => ⟨_, impl_ReadDeed x2679, fun (t : Bool × Int × Int × Int) => (.tup [.agg [dI t.2.1, dI t.2.2.1, dI t.2.2.2], dB t.1], [some (.box [dI t.2.1, dI t.2.2.1, dI t.2.2.2])]), [], none⟩
  | _, _ => Ans.no

theorem impl_ReadDeed_sound : Sound Tryd.prog 10 F_impl_ReadDeed := by
  refine fn_sound' (C := impl_ReadDeed_ctx) (c := bodyOf Tryd.f10) (cok_of tys_ok (allc strings_SplitN_sound (allc impl_kindFor_sound (allc strconv_Atoi_sound (allc impl_DeedText_sound alln)))) (allc Tryd.call27 (allc Tryd.call28 (allc Tryd.call29 (allc Tryd.call7 alln)))) (by kernel_rfl)) Tryd.func10 (by kernel_rfl) LL impl_ReadDeed_an ?_
  intro avs H r H' h
  unfold F_impl_ReadDeed at h
  split at h
  · refine Awp.cast ?_ ?_ ?_ (impl_ReadDeed_e _ h) <;> kernel_rfl
  · simp [Ans.no, Ans.run] at h


/-! loop.example/headtrees/impl.ReadJournal -/

def impl_ReadJournal_an : Ann := (.seq (.leaf [0]) (.seq (.leaf [0, 4]) (.seq (.leaf [0, 4, 5]) (.block (.loop (.block (.seq (.leaf [0, 4, 5, 6, 8]) (.seq (.leaf [0, 4, 5, 6, 8, 9, 10]) (.seq (.seq (.leaf [0, 4, 5, 6, 9, 29]) (.cond (.seq (.leaf [2, 3]) (.leaf [2, 3])) (.leaf [0, 4, 5, 6, 9]))) (.seq (.leaf [0, 4, 5, 6]) (.leaf [0, 4, 5])))))))))))

noncomputable def impl_ReadJournal_ctx : Ctx := ⟨tlook tys, olook [(38, F_strings_Cut), (10, F_impl_ReadDeed)], ioF, 0, false, []⟩

theorem impl_ReadJournal_n1_l (x2623 : ByteArray) : Link impl_ReadJournal_ctx LL (Code.seq (cq [0] (bodyOf Tryd.f16)) (Code.seq (cq [0,1] (bodyOf Tryd.f16)) (cq [0,1,1] (bodyOf Tryd.f16)))) (Ann.seq (aq [0] impl_ReadJournal_an) (Ann.seq (aq [0,1] impl_ReadJournal_an) (aq [0,1,1] impl_ReadJournal_an))) ⟨mkE 41 0 [(0, dS x2623)], []⟩ (impl_ReadJournal_n1) (fun (t : Unit) => (Exit.normal, ⟨mkE 41 0 [(0, dS x2623), (4, .slc 0), (5, dI 0)], [some (.seq (.pair (.int .i64) (.pair (.int .i64) (.pair (.int .i64) .unit))) ([] : List (Int × Int × Int × Unit)))]⟩)) := .of fun K h => by
  simp only [impl_ReadJournal_n1, wpW] at h
  exact .of (by kernel_rfl) h

theorem impl_ReadJournal_n2_l (x2623 : ByteArray) (x3118 : Int) (x3119 : List (Int × Int × Int × Unit)) : Link impl_ReadJournal_ctx LL (cq [0,0,1,1,1] (bodyOf Tryd.f16)) (aq [0,0,1,1,1] impl_ReadJournal_an) ⟨mkE 41 0 [(0, dS x2623), (4, .slc 0), (5, dI x3118)], [some (.seq (.pair (.int .i64) (.pair (.int .i64) (.pair (.int .i64) .unit))) x3119)]⟩ (impl_ReadJournal_n2 x2623 x3118 x3119) (Sum.elim (fun (t : Int × (List (Int × Int × Int × Unit))) => (Exit.normal, ⟨mkE 41 0 [(0, dS x2623), (4, .slc 0), (5, dI t.1)], [some (.seq (.pair (.int .i64) (.pair (.int .i64) (.pair (.int .i64) .unit))) t.2)]⟩)) (fun (t : Int × (List (Int × Int × Int × Unit))) => (Exit.ret, ⟨mkE 41 0 [(2, .slc 0), (3, dI t.1)], [some (.seq (.pair (.int .i64) (.pair (.int .i64) (.pair (.int .i64) .unit))) t.2)]⟩))) := .of fun K h => by
  simp only [impl_ReadJournal_n2, wpW] at h
  exact .of (by kernel_rfl) h

def impl_ReadJournal_n3_l (x2623 : ByteArray) := (link_loop (mk := fun (s : Int × (List (Int × Int × Int × Unit))) => ⟨mkE 41 0 [(0, dS x2623), (4, .slc 0), (5, dI s.1)], [some (.seq (.pair (.int .i64) (.pair (.int .i64) (.pair (.int .i64) .unit))) s.2)]⟩) (fin := (fun (t : Int × (List (Int × Int × Int × Unit))) => (Exit.ret, ⟨mkE 41 0 [(2, .slc 0), (3, dI t.1)], [some (.seq (.pair (.int .i64) (.pair (.int .i64) (.pair (.int .i64) .unit))) t.2)]⟩))) (by
  rintro t f K h
  · exact h) (fun s => link_map (impl_ReadJournal_n2_l x2623 s.1 s.2) (Sum.elim (fun (t : Int × (List (Int × Int × Int × Unit))) => Sum.inl (t.1, t.2)) (fun (t : Int × (List (Int × Int × Int × Unit))) => Sum.inr t)) (by
  rintro (t | t)
  · kernel_rfl
  · kernel_rfl)) (0, ([] : List (Int × Int × Int × Unit))))

def impl_ReadJournal_n4_l (x2623 : ByteArray) := (link_block (fin2 := (fun (t : Int × (List (Int × Int × Int × Unit))) => (Exit.ret, ⟨mkE 41 0 [(2, .slc 0), (3, dI t.1)], [some (.seq (.pair (.int .i64) (.pair (.int .i64) (.pair (.int .i64) .unit))) t.2)]⟩))) (id := 0) (impl_ReadJournal_n3_l x2623) (fun (t : Int × (List (Int × Int × Int × Unit))) => t) (by
  rintro t K h
  · exact Eq.mp (by kernel_rfl) h))

def impl_ReadJournal_n5_l (x2623 : ByteArray) := (link_group (c := (cq [0,1,1] (bodyOf Tryd.f16))) (a := (aq [0,1,1] impl_ReadJournal_an)) [(cq [0] (bodyOf Tryd.f16)), (cq [0,1] (bodyOf Tryd.f16))] [(aq [0] impl_ReadJournal_an), (aq [0,1] impl_ReadJournal_an)] rfl (link_seq (impl_ReadJournal_n1_l x2623) (fun (t : Unit) => (impl_ReadJournal_n4_l x2623))))

theorem impl_ReadJournal_e (x2623 : ByteArray) {r : AV} {H' : Heap} (h : (Ans.mk _ (impl_ReadJournal x2623) (fun (t : Int × (List (Int × Int × Int × Unit))) => (.tup [.slc 0, dI t.1], [some (.seq (.pair (.int .i64) (.pair (.int .i64) (.pair (.int .i64) .unit))) t.2)])) [] none).run = some (r, H')) : Awp impl_ReadJournal_ctx LL (bodyOf Tryd.f16) impl_ReadJournal_an ⟨mkE 41 0 [(0, dS x2623)], []⟩ (Ret (tlook tys) Tryd.f16.results.toList r H') :=
  ret_of' (Link.cast (by kernel_rfl) (by kernel_rfl) (impl_ReadJournal_n5_l x2623)) (by unfold impl_ReadJournal; kernel_rfl) (by
  intro t
  exact ret_mk [.slc 0, dI t.1] (by kernel_rfl) (by kernel_rfl) (by kernel_rfl) (by kernel_rfl)) h

def F_impl_ReadJournal : Fun := fun avs H =>
  match avs, H with
  | [.dat .str x2623], [] => ⟨_, impl_ReadJournal x2623, fun (t : Int × (List (Int × Int × Int × Unit))) => (.tup [.slc 0, dI t.1], [some (.seq (.pair (.int .i64) (.pair (.int .i64) (.pair (.int .i64) .unit))) t.2)]), [], none⟩
  | _, _ => Ans.no

theorem impl_ReadJournal_sound : Sound Tryd.prog 16 F_impl_ReadJournal := by
  refine fn_sound' (C := impl_ReadJournal_ctx) (c := bodyOf Tryd.f16) (cok_of tys_ok (allc strings_Cut_sound (allc impl_ReadDeed_sound alln)) (allc Tryd.call38 (allc Tryd.call10 alln)) (by kernel_rfl)) Tryd.func16 (by kernel_rfl) LL impl_ReadJournal_an ?_
  intro avs H r H' h
  unfold F_impl_ReadJournal at h
  split at h
  · refine Awp.cast ?_ ?_ ?_ (impl_ReadJournal_e _ h) <;> kernel_rfl
  · simp [Ans.no, Ans.run] at h


/-! loop.example/headtrees/laws.sameDeeds -/

def laws_sameDeeds_an : Ann := (.seq (.leaf [0, 1]) (.seq (.seq (.leaf [0, 1, 10]) (.cond (.seq (.leaf [4]) (.leaf [4])) (.leaf [0, 1]))) (.seq (.seq (.leaf [0, 1, 5]) (.block (.loop (.seq (.seq (.leaf [0, 1, 5, 14]) (.cond (.leaf [0, 1, 5]) (.leaf []))) (.seq (.block (.seq (.draw [100008] [0, 1, 2, 3, 4, 5, 6, 7, 8] [] [0, 1, 5, 25]) (.cond (.seq (.leaf [4]) (.leaf [4])) (.leaf [0, 1, 5])))) (.leaf [0, 1, 5])))))) (.seq (.leaf [4]) (.leaf [4])))))

noncomputable def laws_sameDeeds_ctx : Ctx := ⟨tlook tys, olook [], ioF, 0, false, []⟩

theorem laws_sameDeeds_n1_l (x3158 : List (Int × Int × Int × Unit)) (x3159 : List (Int × Int × Int × Unit)) : Link laws_sameDeeds_ctx LL (Code.seq (cq [0] (bodyOf Tryd.f17)) (cq [0,1] (bodyOf Tryd.f17))) (Ann.seq (aq [0] laws_sameDeeds_an) (aq [0,1] laws_sameDeeds_an)) ⟨mkE 26 0 [(0, .dat (.list (.pair (.int .i64) (.pair (.int .i64) (.pair (.int .i64) .unit)))) x3158), (1, .dat (.list (.pair (.int .i64) (.pair (.int .i64) (.pair (.int .i64) .unit)))) x3159)], []⟩ (laws_sameDeeds_n1 x3158 x3159) (Sum.elim (fun (t : Unit) => (Exit.normal, ⟨mkE 26 0 [(0, .dat (.list (.pair (.int .i64) (.pair (.int .i64) (.pair (.int .i64) .unit)))) x3158), (1, .dat (.list (.pair (.int .i64) (.pair (.int .i64) (.pair (.int .i64) .unit)))) x3159)], []⟩)) (fun (t : Bool) => (Exit.ret, ⟨mkE 26 0 [(4, dB t)], []⟩))) := .of fun K h => by
  simp only [laws_sameDeeds_n1, wpW] at h
  exact .of (by kernel_rfl) h

theorem laws_sameDeeds_n2_l (x3158 : List (Int × Int × Int × Unit)) (x3159 : List (Int × Int × Int × Unit)) : Link laws_sameDeeds_ctx LL (cq [0,0,1,1] (bodyOf Tryd.f17)) (aq [0,0,1,1] laws_sameDeeds_an) ⟨mkE 26 0 [(0, .dat (.list (.pair (.int .i64) (.pair (.int .i64) (.pair (.int .i64) .unit)))) x3158), (1, .dat (.list (.pair (.int .i64) (.pair (.int .i64) (.pair (.int .i64) .unit)))) x3159)], []⟩ (laws_sameDeeds_n2) (fun (t : Unit) => (Exit.normal, ⟨mkE 26 0 [(0, .dat (.list (.pair (.int .i64) (.pair (.int .i64) (.pair (.int .i64) .unit)))) x3158), (1, .dat (.list (.pair (.int .i64) (.pair (.int .i64) (.pair (.int .i64) .unit)))) x3159), (5, dI 0)], []⟩)) := .of fun K h => by
  simp only [laws_sameDeeds_n2, wpW] at h
  exact .of (by kernel_rfl) h

theorem laws_sameDeeds_n3_l (x3158 : List (Int × Int × Int × Unit)) (x3159 : List (Int × Int × Int × Unit)) (x3227 : Int) : Link laws_sameDeeds_ctx LL (cq [0,0,1,0,1,1] (bodyOf Tryd.f17)) (aq [0,0,1,0,1,1] laws_sameDeeds_an) ⟨mkE 26 0 [(0, .dat (.list (.pair (.int .i64) (.pair (.int .i64) (.pair (.int .i64) .unit)))) x3158), (1, .dat (.list (.pair (.int .i64) (.pair (.int .i64) (.pair (.int .i64) .unit)))) x3159), (5, dI x3227)], []⟩ (laws_sameDeeds_n3 x3158 x3159 x3227) (Sum.elim (fun (t : Int) => (Exit.normal, ⟨mkE 26 0 [(0, .dat (.list (.pair (.int .i64) (.pair (.int .i64) (.pair (.int .i64) .unit)))) x3158), (1, .dat (.list (.pair (.int .i64) (.pair (.int .i64) (.pair (.int .i64) .unit)))) x3159), (5, dI t)], []⟩)) (Sum.elim (fun (t : Bool) => (Exit.ret, ⟨mkE 26 0 [(4, dB t)], []⟩)) (fun (t : Unit) => ((Exit.exit 0), ⟨mkE 26 0 [], []⟩)))) := .of fun K h => by
  simp only [laws_sameDeeds_n3, wpW] at h
  exact .of (by kernel_rfl) h

def laws_sameDeeds_n4_l (x3158 : List (Int × Int × Int × Unit)) (x3159 : List (Int × Int × Int × Unit)) := (link_loop (mk := fun (s : Int) => ⟨mkE 26 0 [(0, .dat (.list (.pair (.int .i64) (.pair (.int .i64) (.pair (.int .i64) .unit)))) x3158), (1, .dat (.list (.pair (.int .i64) (.pair (.int .i64) (.pair (.int .i64) .unit)))) x3159), (5, dI s)], []⟩) (fin := (Sum.elim (fun (t : Bool) => (Exit.ret, ⟨mkE 26 0 [(4, dB t)], []⟩)) (fun (t : Unit) => ((Exit.exit 0), ⟨mkE 26 0 [], []⟩)))) (by
  rintro (t | t) f K h
  · exact h
  · exact h) (fun s => link_map (laws_sameDeeds_n3_l x3158 x3159 s) (Sum.elim (fun (t : Int) => Sum.inl t) (Sum.elim (fun (t : Bool) => Sum.inr (Sum.inl t)) (fun (t : Unit) => Sum.inr (Sum.inr t)))) (by
  rintro (t | t | t)
  · kernel_rfl
  · kernel_rfl
  · kernel_rfl)) 0)

def laws_sameDeeds_n5_l (x3158 : List (Int × Int × Int × Unit)) (x3159 : List (Int × Int × Int × Unit)) := (link_block (fin2 := (Sum.elim (fun (t : Unit) => (Exit.normal, ⟨mkE 26 0 [], []⟩)) (fun (t : Bool) => (Exit.ret, ⟨mkE 26 0 [(4, dB t)], []⟩)))) (id := 0) (laws_sameDeeds_n4_l x3158 x3159) (Sum.elim (fun (t : Bool) => (Sum.inr t)) (fun (t : Unit) => (Sum.inl ()))) (by
  rintro (t | t) K h
  · exact Eq.mp (by kernel_rfl) h
  · exact Eq.mp (by kernel_rfl) h))

def laws_sameDeeds_n6_l (x3158 : List (Int × Int × Int × Unit)) (x3159 : List (Int × Int × Int × Unit)) := (link_seq (laws_sameDeeds_n2_l x3158 x3159) (fun (t : Unit) => (laws_sameDeeds_n5_l x3158 x3159)))

theorem laws_sameDeeds_n7_l : Link laws_sameDeeds_ctx LL (cq [1,1,1] (bodyOf Tryd.f17)) (aq [1,1,1] laws_sameDeeds_an) ⟨mkE 26 0 [], []⟩ (laws_sameDeeds_n7) (fun (t : Bool) => (Exit.ret, ⟨mkE 26 0 [(4, dB t)], []⟩)) := .of fun K h => by
  simp only [laws_sameDeeds_n7, wpW] at h
  exact .of (by kernel_rfl) h

def laws_sameDeeds_n8_l (x3158 : List (Int × Int × Int × Unit)) (x3159 : List (Int × Int × Int × Unit)) := (link_seq2 (laws_sameDeeds_n6_l x3158 x3159) (fun (t : Unit) => (laws_sameDeeds_n7_l)) (fun (t : Bool) => t) (by
  rintro t
  · kernel_rfl) (by
  rintro t f K h
  · exact h))

def laws_sameDeeds_n9_l (x3158 : List (Int × Int × Int × Unit)) (x3159 : List (Int × Int × Int × Unit)) := (link_group (c := (cq [0,1] (bodyOf Tryd.f17))) (a := (aq [0,1] laws_sameDeeds_an)) [(cq [0] (bodyOf Tryd.f17))] [(aq [0] laws_sameDeeds_an)] rfl (link_seq2 (laws_sameDeeds_n1_l x3158 x3159) (fun (t : Unit) => (laws_sameDeeds_n8_l x3158 x3159)) (fun (t : Bool) => t) (by
  rintro t
  · kernel_rfl) (by
  rintro t f K h
  · exact h)))

theorem laws_sameDeeds_e (x3158 : List (Int × Int × Int × Unit)) (x3159 : List (Int × Int × Int × Unit)) {r : AV} {H' : Heap} (h : (Ans.mk _ (laws_sameDeeds x3158 x3159) (fun (t : Bool) => (dB t, [])) [] none).run = some (r, H')) : Awp laws_sameDeeds_ctx LL (bodyOf Tryd.f17) laws_sameDeeds_an ⟨mkE 26 0 [(0, .dat (.list (.pair (.int .i64) (.pair (.int .i64) (.pair (.int .i64) .unit)))) x3158), (1, .dat (.list (.pair (.int .i64) (.pair (.int .i64) (.pair (.int .i64) .unit)))) x3159)], []⟩ (Ret (tlook tys) Tryd.f17.results.toList r H') :=
  ret_of' (Link.cast (by kernel_rfl) (by kernel_rfl) (laws_sameDeeds_n9_l x3158 x3159)) (by unfold laws_sameDeeds; kernel_rfl) (by
  intro t
  exact ret_mk [dB t] (by kernel_rfl) (by kernel_rfl) (by kernel_rfl) (by kernel_rfl)) h

def F_laws_sameDeeds : Fun := fun avs H =>
  match avs, H with
  | [.dat (.list (.pair (.int .i64) (.pair (.int .i64) (.pair (.int .i64) .unit)))) x3158, .dat (.list (.pair (.int .i64) (.pair (.int .i64) (.pair (.int .i64) .unit)))) x3159], [] => ⟨_, laws_sameDeeds x3158 x3159, fun (t : Bool) => (dB t, []), [], none⟩
  | _, _ => Ans.no

theorem laws_sameDeeds_sound : Sound Tryd.prog 17 F_laws_sameDeeds := by
  refine fn_sound' (C := laws_sameDeeds_ctx) (c := bodyOf Tryd.f17) (cok_of tys_ok (alln) (alln) (by kernel_rfl)) Tryd.func17 (by kernel_rfl) LL laws_sameDeeds_an ?_
  intro avs H r H' h
  unfold F_laws_sameDeeds at h
  split at h
  · refine Awp.cast ?_ ?_ ?_ (laws_sameDeeds_e _ _ h) <;> kernel_rfl
  · simp [Ans.no, Ans.run] at h


/-! loop.example/headtrees/laws.FnJournalText -/

def laws_FnJournalText_an : Ann := (.seq (.leaf [0]) (.seq (.seq (.leaf [0, 9]) (.cond (.seq (.leaf [2]) (.leaf [2])) (.leaf [0]))) (.seq (.leaf [3]) (.seq (.leaf [3, 4]) (.seq (.seq (.leaf [3, 4, 17]) (.cond (.seq (.leaf [2]) (.leaf [2])) (.leaf [3, 4]))) (.seq (.seq (.leaf [3, 4, 19]) (.cond (.seq (.leaf [2]) (.leaf [2])) (.leaf [3, 4]))) (.seq (.leaf [3, 4, 5, 6]) (.seq (.leaf [2]) (.leaf [2])))))))))

noncomputable def laws_FnJournalText_ctx : Ctx := ⟨tlook tys, olook [(13, F_spec_DrawJournalText), (14, F_impl_JournalText), (15, F_spec_JournalText), (9, F_laws_alive), (16, F_impl_ReadJournal), (17, F_laws_sameDeeds)], ioF, 0, false, []⟩

theorem laws_FnJournalText_n1_l (x2 : List Int) : Link laws_FnJournalText_ctx LL (bodyOf Tryd.f5) laws_FnJournalText_an ⟨mkE 35 0 [(0, dV x2)], []⟩ (laws_FnJournalText_n1 x2) (fun (t : Bool) => (Exit.ret, ⟨mkE 35 0 [(2, dB t)], []⟩)) := .of fun K h => by
  simp only [laws_FnJournalText_n1, wpW] at h
  exact .of (by kernel_rfl) h

theorem laws_FnJournalText_e (x2 : List Int) {r : AV} {H' : Heap} (h : (Ans.mk _ (laws_FnJournalText x2) (fun (t : Bool) => (dB t, [])) [] none).run = some (r, H')) : Awp laws_FnJournalText_ctx LL (bodyOf Tryd.f5) laws_FnJournalText_an ⟨mkE 35 0 [(0, dV x2)], []⟩ (Ret (tlook tys) Tryd.f5.results.toList r H') :=
  ret_of' (laws_FnJournalText_n1_l x2) (by unfold laws_FnJournalText; kernel_rfl) (by
  intro t
  exact ret_mk [dB t] (by kernel_rfl) (by kernel_rfl) (by kernel_rfl) (by kernel_rfl)) h

def F_laws_FnJournalText : Fun := fun avs H =>
  match avs, H with
  | [.dat (.list (.int .u8)) x2], [] => ⟨_, laws_FnJournalText x2, fun (t : Bool) => (dB t, []), [], none⟩
  | _, _ => Ans.no

theorem laws_FnJournalText_sound : Sound Tryd.prog 5 F_laws_FnJournalText := by
  refine fn_sound' (C := laws_FnJournalText_ctx) (c := bodyOf Tryd.f5) (cok_of tys_ok (allc spec_DrawJournalText_sound (allc impl_JournalText_sound (allc spec_JournalText_sound (allc laws_alive_sound (allc impl_ReadJournal_sound (allc laws_sameDeeds_sound alln)))))) (allc Tryd.call13 (allc Tryd.call14 (allc Tryd.call15 (allc Tryd.call9 (allc Tryd.call16 (allc Tryd.call17 alln)))))) (by kernel_rfl)) Tryd.func5 (by kernel_rfl) LL laws_FnJournalText_an ?_
  intro avs H r H' h
  unfold F_laws_FnJournalText at h
  split at h
  · refine Awp.cast ?_ ?_ ?_ (laws_FnJournalText_e _ h) <;> kernel_rfl
  · simp [Ans.no, Ans.run] at h

end Go.Rv
