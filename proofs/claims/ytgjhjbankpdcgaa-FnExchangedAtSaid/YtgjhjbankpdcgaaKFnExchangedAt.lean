/-
  The checked code answers as the plain functions do; written by program. Conditions: none.
-/
import Derived.Test.YtgjhjbankpdcgaaGFnExchangedAt
import Derived.Test.YtgjhjbankpdcgaaProg
set_option linter.unusedVariables false
set_option linter.unusedSimpArgs false
set_option linter.defProp false
set_option maxRecDepth 100000
namespace Go.Rv
open Go.Proofs
theorem ty3 : TIOk Try.prog 3 ⟨.int .i64, 1, 8, some (.int .i64), [.int .i64 0], false⟩ := ⟨⟨infoOf (Try.prog.info? 3), by kernel_rfl, by kernel_rfl, by kernel_rfl, .int .i64 0, by kernel_rfl, by kernel_rfl⟩, (by kernel_rfl : Try.prog.underlying 3 = some (.int .i64)), no_eq⟩
theorem ty4 : TIOk Try.prog 4 ⟨.bool, 1, 1, some .bool, [.bool false], false⟩ := ⟨⟨infoOf (Try.prog.info? 4), by kernel_rfl, by kernel_rfl, by kernel_rfl, .bool false, by kernel_rfl, by kernel_rfl⟩, (by kernel_rfl : Try.prog.underlying 4 = some .bool), no_eq⟩
theorem ty5 : TIOk Try.prog 5 ⟨.int .u8, 1, 1, some (.int .u8), [.int .u8 0], false⟩ := ⟨⟨infoOf (Try.prog.info? 5), by kernel_rfl, by kernel_rfl, by kernel_rfl, .int .u8 0, by kernel_rfl, by kernel_rfl⟩, (by kernel_rfl : Try.prog.underlying 5 = some (.int .u8)), no_eq⟩
theorem ty22 : TIOk Try.prog 22 ⟨.slice 5, 1, 24, some (.list (.int .u8)), [.slice none 0 0], false⟩ := ⟨⟨infoOf (Try.prog.info? 22), by kernel_rfl, by kernel_rfl, by kernel_rfl, .slice none 0 0, by kernel_rfl, by kernel_rfl⟩, (by kernel_rfl : Try.prog.underlying 22 = some (.slice 5)), no_eq⟩
theorem ty23 : TIOk Try.prog 23 ⟨.slice 3, 1, 24, some (.list (.int .i64)), [.slice none 0 0], false⟩ := ⟨⟨infoOf (Try.prog.info? 23), by kernel_rfl, by kernel_rfl, by kernel_rfl, .slice none 0 0, by kernel_rfl, by kernel_rfl⟩, (by kernel_rfl : Try.prog.underlying 23 = some (.slice 3)), no_eq⟩
theorem ty46 : TIOk Try.prog 46 ⟨.arr 9 4, 9, 9, none, [.bool false, .bool false, .bool false, .bool false, .bool false, .bool false, .bool false, .bool false, .bool false], false⟩ := ⟨⟨infoOf (Try.prog.info? 46), by kernel_rfl, by kernel_rfl, by kernel_rfl, .agg #[.bool false, .bool false, .bool false, .bool false, .bool false, .bool false, .bool false, .bool false, .bool false], by kernel_rfl, by kernel_rfl⟩, (by kernel_rfl : Try.prog.underlying 46 = some (.array 9 4)), no_eq⟩
theorem ty53 : TIOk Try.prog 53 ⟨.strct [(0, 22), (1, 3)], 2, 32, some (.pair (.list (.int .u8)) (.pair (.int .i64) .unit)), [.slice none 0 0, .int .i64 0], false⟩ := ⟨⟨infoOf (Try.prog.info? 53), by kernel_rfl, by kernel_rfl, by kernel_rfl, .agg #[.slice none 0 0, .int .i64 0], by kernel_rfl, by kernel_rfl⟩, ⟨fieldsOf (Try.prog.underlying 53), by kernel_rfl, by kernel_rfl⟩, no_eq⟩
theorem ty62 : TIOk Try.prog 62 ⟨.strct [(0, 23), (1, 3), (2, 3)], 3, 40, some (.pair (.list (.int .i64)) (.pair (.int .i64) (.pair (.int .i64) .unit))), [.slice none 0 0, .int .i64 0, .int .i64 0], false⟩ := ⟨⟨infoOf (Try.prog.info? 62), by kernel_rfl, by kernel_rfl, by kernel_rfl, .agg #[.slice none 0 0, .int .i64 0, .int .i64 0], by kernel_rfl, by kernel_rfl⟩, ⟨fieldsOf (Try.prog.underlying 62), by kernel_rfl, by kernel_rfl⟩, no_eq⟩
theorem ty66 : TIOk Try.prog 66 ⟨.int .u64, 1, 8, some (.int .u64), [.int .u64 0], false⟩ := ⟨⟨infoOf (Try.prog.info? 66), by kernel_rfl, by kernel_rfl, by kernel_rfl, .int .u64 0, by kernel_rfl, by kernel_rfl⟩, (by kernel_rfl : Try.prog.underlying 66 = some (.int .u64)), no_eq⟩
theorem ty67 : TIOk Try.prog 67 ⟨.slice 23, 1, 24, some (.list (.list (.int .i64))), [.slice none 0 0], false⟩ := ⟨⟨infoOf (Try.prog.info? 67), by kernel_rfl, by kernel_rfl, by kernel_rfl, .slice none 0 0, by kernel_rfl, by kernel_rfl⟩, (by kernel_rfl : Try.prog.underlying 67 = some (.slice 23)), no_eq⟩
def tys : List (TypeId × TI) := [(3, ⟨.int .i64, 1, 8, some (.int .i64), [.int .i64 0], false⟩), (4, ⟨.bool, 1, 1, some .bool, [.bool false], false⟩), (5, ⟨.int .u8, 1, 1, some (.int .u8), [.int .u8 0], false⟩), (22, ⟨.slice 5, 1, 24, some (.list (.int .u8)), [.slice none 0 0], false⟩), (23, ⟨.slice 3, 1, 24, some (.list (.int .i64)), [.slice none 0 0], false⟩), (46, ⟨.arr 9 4, 9, 9, none, [.bool false, .bool false, .bool false, .bool false, .bool false, .bool false, .bool false, .bool false, .bool false], false⟩), (53, ⟨.strct [(0, 22), (1, 3)], 2, 32, some (.pair (.list (.int .u8)) (.pair (.int .i64) .unit)), [.slice none 0 0, .int .i64 0], false⟩), (62, ⟨.strct [(0, 23), (1, 3), (2, 3)], 3, 40, some (.pair (.list (.int .i64)) (.pair (.int .i64) (.pair (.int .i64) .unit))), [.slice none 0 0, .int .i64 0, .int .i64 0], false⟩), (66, ⟨.int .u64, 1, 8, some (.int .u64), [.int .u64 0], false⟩), (67, ⟨.slice 23, 1, 24, some (.list (.list (.int .i64))), [.slice none 0 0], false⟩)]
theorem tys_ok : TOk Try.prog (tlook tys) := tok_of (allc ty3 (allc ty4 (allc ty5 (allc ty22 (allc ty23 (allc ty46 (allc ty53 (allc ty62 (allc ty66 (allc ty67 alln))))))))))
def ioF (f : FuncId) (i : Nat) : Bool := [(22, 0), (48, 0)].any fun (p : Nat × Nat) => Nat.beq p.1 f && Nat.beq p.2 i


/-! loop.example/headtrees/spec.l20Open -/

def spec_l20Open_an : Ann := (.seq (.leaf [0]) (.seq (.seq (.leaf [0, 5]) (.cond (.leaf [0]) (.leaf [0]))) (.seq (.leaf [2]) (.leaf [2]))))

noncomputable def spec_l20Open_ctx : Ctx := ⟨tlook tys, olook [], ioF, 0, false, []⟩

theorem spec_l20Open_n1_l (x12 : List Int) : Link spec_l20Open_ctx LL (bodyOf Try.f24) spec_l20Open_an ⟨mkE 11 0 [(0, dV x12)], []⟩ (spec_l20Open_n1 x12) (fun (t : (List Int)) => (Exit.ret, ⟨mkE 11 0 [(2, .ptr 0 0)], [some (.box [dV t, dI 0])]⟩)) := by
  refine Link.of fun K h => ?_
  simp only [spec_l20Open_n1, wpO_bind, wpO_cond, wpO_map, wpO_some] at h
  exact Awp.of (by kernel_rfl) h

theorem spec_l20Open_e (x12 : List Int) {r : AV} {H' : Heap} (h : (Ans.mk _ (spec_l20Open x12) (fun (t : (List Int)) => (.ptr 0 0, [some (.box [dV t, dI 0])])) [] none).run = some (r, H')) : Awp spec_l20Open_ctx LL (bodyOf Try.f24) spec_l20Open_an ⟨mkE 11 0 [(0, dV x12)], []⟩ (Ret (tlook tys) Try.f24.results.toList r H') :=
  ret_of' (spec_l20Open_n1_l x12) (by unfold spec_l20Open; kernel_rfl) (by
  intro t
  exact ret_mk [.ptr 0 0] (by kernel_rfl) (by kernel_rfl) (by kernel_rfl) (by kernel_rfl)) h

def F_spec_l20Open : Fun := fun avs H =>
  match avs, H with
  | [.dat (.list (.int .u8)) x12], [] => ⟨_, spec_l20Open x12, fun (t : (List Int)) => (.ptr 0 0, [some (.box [dV t, dI 0])]), [], none⟩
  | _, _ => Ans.no

theorem spec_l20Open_sound : Sound Try.prog 24 F_spec_l20Open := by
  refine fn_sound' (C := spec_l20Open_ctx) (c := bodyOf Try.f24) (cok_of tys_ok (alln) (alln) (by kernel_rfl)) Try.func24 (by kernel_rfl) LL spec_l20Open_an ?_
  intro avs H r H' h
  unfold F_spec_l20Open at h
  split at h
  · refine Awp.cast ?_ ?_ ?_ (spec_l20Open_e _ h) <;> kernel_rfl
  · simp [Ans.no, Ans.run] at h


/-! (*loop.example/headtrees/spec.l20Rd).pick -/

def spec_l20Rd_pick_an : Ann := (.seq (.leaf [0, 1]) (.seq (.leaf [0, 1]) (.seq (.seq (.leaf [0, 1, 24]) (.cond (.seq (.leaf [4]) (.leaf [4])) (.leaf [0, 1]))) (.seq (.leaf [0, 1, 5]) (.seq (.seq (.leaf [0, 1, 5, 36]) (.cond (.seq (.leaf [4]) (.leaf [4])) (.leaf [0, 1, 5]))) (.seq (.draw [] [0, 1, 2, 3, 4, 5, 6, 7, 8, 9, 10, 11, 12, 13, 14, 15, 16, 17, 18, 19, 20, 21, 22, 23, 24, 25, 26, 27, 28, 29, 30, 31, 32, 33, 34, 35, 36, 37, 38, 39, 40, 41, 42, 43, 44, 45] [] [1, 6]) (.seq (.leaf [1, 6]) (.seq (.leaf [4]) (.leaf [4])))))))))

noncomputable def spec_l20Rd_pick_ctx : Ctx := ⟨tlook tys, olook [], ioF, 1, false, []⟩

theorem spec_l20Rd_pick_n1_l (x35 : Int) (x36 : List Int) (x37 : Int) : Link spec_l20Rd_pick_ctx LL (bodyOf Try.f26) spec_l20Rd_pick_an ⟨mkE 99 0 [(0, .ptr 0 0), (1, dI x35)], [some (.box [dV x36, dI x37])]⟩ (spec_l20Rd_pick_n1 x35 x36 x37) (fun (t : Int × Int) => (Exit.ret, ⟨mkE 99 0 [(4, dI t.1)], [some (.box [dV x36, dI t.2])]⟩)) := by
  refine Link.of fun K h => ?_
  simp only [spec_l20Rd_pick_n1, wpO_bind, wpO_cond, wpO_map, wpO_some] at h
  exact Awp.of (by kernel_rfl) h

theorem spec_l20Rd_pick_e (x35 : Int) (x36 : List Int) (x37 : Int) {r : AV} {H' : Heap} (h : (Ans.mk _ (spec_l20Rd_pick x35 x36 x37) (fun (t : Int × Int) => (dI t.1, [some (.box [dV x36, dI t.2])])) [] none).run = some (r, H')) : Awp spec_l20Rd_pick_ctx LL (bodyOf Try.f26) spec_l20Rd_pick_an ⟨mkE 99 0 [(0, .ptr 0 0), (1, dI x35)], [some (.box [dV x36, dI x37])]⟩ (Ret (tlook tys) Try.f26.results.toList r H') :=
  ret_of' (spec_l20Rd_pick_n1_l x35 x36 x37) (by unfold spec_l20Rd_pick; kernel_rfl) (by
  intro t
  exact ret_mk [dI t.1] (by kernel_rfl) (by kernel_rfl) (by kernel_rfl) (by kernel_rfl)) h

def F_spec_l20Rd_pick : Fun := fun avs H =>
  match avs, H with
  | [.ptr 0 0, .dat (.int .i64) x35], [some (.box [.dat (.list (.int .u8)) x36, .dat (.int .i64) x37])] => ⟨_, spec_l20Rd_pick x35 x36 x37, fun (t : Int × Int) => (dI t.1, [some (.box [dV x36, dI t.2])]), [], none⟩
  | _, _ => Ans.no

theorem spec_l20Rd_pick_sound : Sound Try.prog 26 F_spec_l20Rd_pick := by
  refine fn_sound' (C := spec_l20Rd_pick_ctx) (c := bodyOf Try.f26) (cok_of tys_ok (alln) (alln) (by kernel_rfl)) Try.func26 (by kernel_rfl) LL spec_l20Rd_pick_an ?_
  intro avs H r H' h
  unfold F_spec_l20Rd_pick at h
  split at h
  · refine Awp.cast ?_ ?_ ?_ (spec_l20Rd_pick_e _ _ _ h) <;> kernel_rfl
  · simp [Ans.no, Ans.run] at h


/-! loop.example/headtrees/spec.l20Order -/

def spec_l20Order_an : Ann := (.seq (.leaf [0, 1]) (.seq (.leaf [0, 1, 5]) (.seq (.leaf [0, 1, 5, 6]) (.seq (.seq (.leaf [0, 1, 5, 6, 7]) (.block (.loop (.seq (.seq (.leaf [0, 1, 5, 6, 7, 15]) (.cond (.leaf [0, 1, 5, 6, 7]) (.leaf [5]))) (.seq (.block (.seq (.leaf [0, 1, 5, 6, 7, 8]) (.seq (.seq (.leaf [0, 1, 5, 6, 7, 8, 26]) (.cond (.leaf [0, 1, 5, 6, 7, 8]) (.leaf [0, 1, 5, 6, 7, 8]))) (.seq (.leaf [0, 1, 5, 6, 7, 8, 9]) (.seq (.leaf [0, 1, 5, 6, 7, 8, 9]) (.leaf [0, 1, 5, 6, 7])))))) (.leaf [0, 1, 5, 6, 7])))))) (.seq (.leaf [4]) (.leaf [4]))))))

noncomputable def spec_l20Order_ctx : Ctx := ⟨tlook tys, olook [(26, F_spec_l20Rd_pick)], ioF, 1, false, []⟩

theorem spec_l20Order_n1_l (x195 : Int) (x196 : List Int) (x197 : Int) : Link spec_l20Order_ctx LL (Code.seq (cq [0] (bodyOf Try.f25)) (Code.seq (cq [0,1] (bodyOf Try.f25)) (cq [0,1,1] (bodyOf Try.f25)))) (Ann.seq (aq [0] spec_l20Order_an) (Ann.seq (aq [0,1] spec_l20Order_an) (aq [0,1,1] spec_l20Order_an))) ⟨mkE 45 0 [(0, .ptr 0 0), (1, dI x195)], [some (.box [dV x196, dI x197])]⟩ (spec_l20Order_n1 x196 x197) (fun (t : Int × Int) => (Exit.normal, ⟨mkE 45 0 [(0, .ptr 0 0), (1, dI x195), (5, .slc 1), (6, dI t.1)], [some (.box [dV x196, dI t.2]), some (sI ([] : List Int))]⟩)) := by
  refine Link.of fun K h => ?_
  simp only [spec_l20Order_n1, wpO_bind, wpO_cond, wpO_map, wpO_some] at h
  exact Awp.of (by kernel_rfl) h

theorem spec_l20Order_n2_l (x195 : Int) (x200 : Int) (x196 : List Int) (x201 : Int) : Link spec_l20Order_ctx LL (cq [0,0,1,1,1] (bodyOf Try.f25)) (aq [0,0,1,1,1] spec_l20Order_an) ⟨mkE 45 0 [(0, .ptr 0 0), (1, dI x195), (5, .slc 1), (6, dI x200)], [some (.box [dV x196, dI x201]), some (sI ([] : List Int))]⟩ (spec_l20Order_n2) (fun (t : Unit) => (Exit.normal, ⟨mkE 45 0 [(0, .ptr 0 0), (1, dI x195), (5, .slc 1), (6, dI x200), (7, dI 1)], [some (.box [dV x196, dI x201]), some (sI ([] : List Int))]⟩)) := by
  refine Link.of fun K h => ?_
  simp only [spec_l20Order_n2, wpO_bind, wpO_cond, wpO_map, wpO_some] at h
  exact Awp.of (by kernel_rfl) h

theorem spec_l20Order_n3_l (x195 : Int) (x200 : Int) (x343 : Int) (x196 : List Int) (x344 : Int) (x345 : List Int) : Link spec_l20Order_ctx LL (cq [0,0,1,0,1,1,1] (bodyOf Try.f25)) (aq [0,0,1,0,1,1,1] spec_l20Order_an) ⟨mkE 45 0 [(0, .ptr 0 0), (1, dI x195), (5, .slc 1), (6, dI x200), (7, dI x343)], [some (.box [dV x196, dI x344]), some (sI x345)]⟩ (spec_l20Order_n3 x195 x200 x343 x196 x344 x345) (Sum.elim (fun (t : Int × Int × (List Int)) => (Exit.normal, ⟨mkE 45 0 [(0, .ptr 0 0), (1, dI x195), (5, .slc 1), (6, dI x200), (7, dI t.1)], [some (.box [dV x196, dI t.2.1]), some (sI t.2.2)]⟩)) (fun (t : Int × (List Int)) => ((Exit.exit 0), ⟨mkE 45 0 [(5, .slc 1)], [some (.box [dV x196, dI t.1]), some (sI t.2)]⟩))) := by
  refine Link.of fun K h => ?_
  simp only [spec_l20Order_n3, wpO_bind, wpO_cond, wpO_map, wpO_some] at h
  exact Awp.of (by kernel_rfl) h

def spec_l20Order_n4_l (x195 : Int) (x200 : Int) (x196 : List Int) (x201 : Int) := (link_loop (mk := fun (s : Int × Int × (List Int)) => ⟨mkE 45 0 [(0, .ptr 0 0), (1, dI x195), (5, .slc 1), (6, dI x200), (7, dI s.1)], [some (.box [dV x196, dI s.2.1]), some (sI s.2.2)]⟩) (fin := (fun (t : Int × (List Int)) => ((Exit.exit 0), ⟨mkE 45 0 [(5, .slc 1)], [some (.box [dV x196, dI t.1]), some (sI t.2)]⟩))) (by
  rintro t f K h
  · exact h) (fun s => link_map (spec_l20Order_n3_l x195 x200 s.1 x196 s.2.1 s.2.2) (Sum.elim (fun (t : Int × Int × (List Int)) => Sum.inl (t.1, t.2.1, t.2.2)) (fun (t : Int × (List Int)) => Sum.inr t)) (by
  rintro (t | t)
  · kernel_rfl
  · kernel_rfl)) (1, x201, ([] : List Int)))

def spec_l20Order_n5_l (x195 : Int) (x200 : Int) (x196 : List Int) (x201 : Int) := (link_block (fin2 := (fun (t : Int × (List Int)) => (Exit.normal, ⟨mkE 45 0 [(5, .slc 1)], [some (.box [dV x196, dI t.1]), some (sI t.2)]⟩))) (id := 0) (spec_l20Order_n4_l x195 x200 x196 x201) (fun (t : Int × (List Int)) => (t.1, t.2)) (by
  rintro t K h
  · exact Eq.mp (by kernel_rfl) h))

def spec_l20Order_n6_l (x195 : Int) (x200 : Int) (x196 : List Int) (x201 : Int) := (link_seq (spec_l20Order_n2_l x195 x200 x196 x201) (fun (t : Unit) => (spec_l20Order_n5_l x195 x200 x196 x201)))

theorem spec_l20Order_n7_l (x196 : List Int) (x344 : Int) (x345 : List Int) : Link spec_l20Order_ctx LL (cq [1,1,1,1] (bodyOf Try.f25)) (aq [1,1,1,1] spec_l20Order_an) ⟨mkE 45 0 [(5, .slc 1)], [some (.box [dV x196, dI x344]), some (sI x345)]⟩ (spec_l20Order_n7 x344 x345) (fun (t : Int × (List Int)) => (Exit.ret, ⟨mkE 45 0 [(4, .slc 1)], [some (.box [dV x196, dI t.1]), some (sI t.2)]⟩)) := by
  refine Link.of fun K h => ?_
  simp only [spec_l20Order_n7, wpO_bind, wpO_cond, wpO_map, wpO_some] at h
  exact Awp.of (by kernel_rfl) h

def spec_l20Order_n8_l (x195 : Int) (x200 : Int) (x196 : List Int) (x201 : Int) := (link_seq (spec_l20Order_n6_l x195 x200 x196 x201) (fun (t : Int × (List Int)) => (spec_l20Order_n7_l x196 t.1 t.2)))

def spec_l20Order_n9_l (x195 : Int) (x196 : List Int) (x197 : Int) := (link_group (c := (cq [0,1,1] (bodyOf Try.f25))) (a := (aq [0,1,1] spec_l20Order_an)) [(cq [0] (bodyOf Try.f25)), (cq [0,1] (bodyOf Try.f25))] [(aq [0] spec_l20Order_an), (aq [0,1] spec_l20Order_an)] rfl (link_seq (spec_l20Order_n1_l x195 x196 x197) (fun (t : Int × Int) => (spec_l20Order_n8_l x195 t.1 x196 t.2))))

theorem spec_l20Order_e (x195 : Int) (x196 : List Int) (x197 : Int) {r : AV} {H' : Heap} (h : (Ans.mk _ (spec_l20Order x195 x196 x197) (fun (t : Int × (List Int)) => (.slc 1, [some (.box [dV x196, dI t.1]), some (sI t.2)])) [] none).run = some (r, H')) : Awp spec_l20Order_ctx LL (bodyOf Try.f25) spec_l20Order_an ⟨mkE 45 0 [(0, .ptr 0 0), (1, dI x195)], [some (.box [dV x196, dI x197])]⟩ (Ret (tlook tys) Try.f25.results.toList r H') :=
  ret_of' (Link.cast (by kernel_rfl) (by kernel_rfl) (spec_l20Order_n9_l x195 x196 x197)) (by unfold spec_l20Order; kernel_rfl) (by
  intro t
  exact ret_mk [.slc 1] (by kernel_rfl) (by kernel_rfl) (by kernel_rfl) (by kernel_rfl)) h

def F_spec_l20Order : Fun := fun avs H =>
  match avs, H with
  | [.ptr 0 0, .dat (.int .i64) x195], [some (.box [.dat (.list (.int .u8)) x196, .dat (.int .i64) x197])] => ⟨_, spec_l20Order x195 x196 x197, fun (t : Int × (List Int)) => (.slc 1, [some (.box [dV x196, dI t.1]), some (sI t.2)]), [], none⟩
  | _, _ => Ans.no

theorem spec_l20Order_sound : Sound Try.prog 25 F_spec_l20Order := by
  refine fn_sound' (C := spec_l20Order_ctx) (c := bodyOf Try.f25) (cok_of tys_ok (allc spec_l20Rd_pick_sound alln) (allc Try.call26 alln) (by kernel_rfl)) Try.func25 (by kernel_rfl) LL spec_l20Order_an ?_
  intro avs H r H' h
  unfold F_spec_l20Order at h
  split at h
  · refine Awp.cast ?_ ?_ ?_ (spec_l20Order_e _ _ _ h) <;> kernel_rfl
  · simp [Ans.no, Ans.run] at h


/-! (*loop.example/headtrees/spec.l20Rd).odd -/

def spec_l20Rd_odd_an : Ann := (.seq (.leaf [0, 1]) (.seq (.leaf [4]) (.leaf [4])))

noncomputable def spec_l20Rd_odd_ctx : Ctx := ⟨tlook tys, olook [(26, F_spec_l20Rd_pick)], ioF, 1, false, []⟩

theorem spec_l20Rd_odd_n1_l (x499 : Int) (x500 : List Int) (x501 : Int) : Link spec_l20Rd_odd_ctx LL (bodyOf Try.f27) spec_l20Rd_odd_an ⟨mkE 15 0 [(0, .ptr 0 0), (1, dI x499)], [some (.box [dV x500, dI x501])]⟩ (spec_l20Rd_odd_n1 x499 x500 x501) (fun (t : Bool × Int) => (Exit.ret, ⟨mkE 15 0 [(4, dB t.1)], [some (.box [dV x500, dI t.2])]⟩)) := by
  refine Link.of fun K h => ?_
  simp only [spec_l20Rd_odd_n1, wpO_bind, wpO_cond, wpO_map, wpO_some] at h
  exact Awp.of (by kernel_rfl) h

theorem spec_l20Rd_odd_e (x499 : Int) (x500 : List Int) (x501 : Int) {r : AV} {H' : Heap} (h : (Ans.mk _ (spec_l20Rd_odd x499 x500 x501) (fun (t : Bool × Int) => (dB t.1, [some (.box [dV x500, dI t.2])])) [] none).run = some (r, H')) : Awp spec_l20Rd_odd_ctx LL (bodyOf Try.f27) spec_l20Rd_odd_an ⟨mkE 15 0 [(0, .ptr 0 0), (1, dI x499)], [some (.box [dV x500, dI x501])]⟩ (Ret (tlook tys) Try.f27.results.toList r H') :=
  ret_of' (spec_l20Rd_odd_n1_l x499 x500 x501) (by unfold spec_l20Rd_odd; kernel_rfl) (by
  intro t
  exact ret_mk [dB t.1] (by kernel_rfl) (by kernel_rfl) (by kernel_rfl) (by kernel_rfl)) h

def F_spec_l20Rd_odd : Fun := fun avs H =>
  match avs, H with
  | [.ptr 0 0, .dat (.int .i64) x499], [some (.box [.dat (.list (.int .u8)) x500, .dat (.int .i64) x501])] => ⟨_, spec_l20Rd_odd x499 x500 x501, fun (t : Bool × Int) => (dB t.1, [some (.box [dV x500, dI t.2])]), [], none⟩
  | _, _ => Ans.no

theorem spec_l20Rd_odd_sound : Sound Try.prog 27 F_spec_l20Rd_odd := by
  refine fn_sound' (C := spec_l20Rd_odd_ctx) (c := bodyOf Try.f27) (cok_of tys_ok (allc spec_l20Rd_pick_sound alln) (allc Try.call26 alln) (by kernel_rfl)) Try.func27 (by kernel_rfl) LL spec_l20Rd_odd_an ?_
  intro avs H r H' h
  unfold F_spec_l20Rd_odd at h
  split at h
  · refine Awp.cast ?_ ?_ ?_ (spec_l20Rd_odd_e _ _ _ h) <;> kernel_rfl
  · simp [Ans.no, Ans.run] at h


/-! loop.example/headtrees/impl.OrderOk -/

def impl_OrderOk_an : Ann := (.seq (.leaf [0, 1]) (.seq (.seq (.leaf [0, 1, 19]) (.cond (.seq (.leaf [4]) (.leaf [4])) (.leaf [0, 1]))) (.seq (.leaf [0, 1, 5]) (.seq (.seq (.leaf [1, 5, 20, 21, 22]) (.block (.loop (.seq (.leaf [1, 5, 20, 21, 22, 23]) (.seq (.cond (.leaf [1, 5, 20, 21, 22]) (.leaf [])) (.seq (.block (.seq (.leaf [1, 5, 7, 20, 21, 22]) (.seq (.seq (.leaf [1, 5, 7, 20, 21, 22, 37]) (.cond (.seq (.leaf [4]) (.leaf [4])) (.leaf [1, 5, 7, 20, 21, 22]))) (.leaf [1, 5, 20, 21, 22])))) (.leaf [1, 5, 20, 21, 22]))))))) (.seq (.leaf [4]) (.leaf [4]))))))

noncomputable def impl_OrderOk_ctx : Ctx := ⟨tlook tys, olook [], ioF, 0, false, []⟩

theorem impl_OrderOk_n1_l (x554 : List Int) (x555 : Int) : Link impl_OrderOk_ctx LL (Code.seq (cq [0] (bodyOf Try.f17)) (Code.seq (cq [0,1] (bodyOf Try.f17)) (cq [0,1,1] (bodyOf Try.f17)))) (Ann.seq (aq [0] impl_OrderOk_an) (Ann.seq (aq [0,1] impl_OrderOk_an) (aq [0,1,1] impl_OrderOk_an))) ⟨mkE 41 0 [(0, dL x554), (1, dI x555)], []⟩ (impl_OrderOk_n1 x554 x555) (Sum.elim (fun (t : Unit) => (Exit.normal, ⟨mkE 41 0 [(0, dL x554), (1, dI x555), (5, .ptr 0 0)], [some (.seq .bool (List.replicate 9 false))]⟩)) (fun (t : Bool) => (Exit.ret, ⟨mkE 41 0 [(4, dB t)], []⟩))) := by
  refine Link.of fun K h => ?_
  simp only [impl_OrderOk_n1, wpO_bind, wpO_cond, wpO_map, wpO_some] at h
  exact Awp.of (by kernel_rfl) h

theorem impl_OrderOk_n2_l (x554 : List Int) (x555 : Int) : Link impl_OrderOk_ctx LL (cq [0,0,1,1,1] (bodyOf Try.f17)) (aq [0,0,1,1,1] impl_OrderOk_an) ⟨mkE 41 0 [(0, dL x554), (1, dI x555), (5, .ptr 0 0)], [some (.seq .bool (List.replicate 9 false))]⟩ (impl_OrderOk_n2 x554) (fun (t : Int) => (Exit.normal, ⟨mkE 41 0 [(1, dI x555), (5, .ptr 0 0), (20, dL x554), (21, dI t), (22, dI 0)], [some (.seq .bool (List.replicate 9 false))]⟩)) := by
  refine Link.of fun K h => ?_
  simp only [impl_OrderOk_n2, wpO_bind, wpO_cond, wpO_map, wpO_some] at h
  exact Awp.of (by kernel_rfl) h

theorem impl_OrderOk_n3_l (x555 : Int) (x554 : List Int) (x565 : Int) (x589 : Int) (x590 : List Bool) : Link impl_OrderOk_ctx LL (cq [0,0,1,0,1,1,1] (bodyOf Try.f17)) (aq [0,0,1,0,1,1,1] impl_OrderOk_an) ⟨mkE 41 0 [(1, dI x555), (5, .ptr 0 0), (20, dL x554), (21, dI x565), (22, dI x589)], [some (.seq .bool x590)]⟩ (impl_OrderOk_n3 x555 x554 x565 x589 x590) (Sum.elim (fun (t : Int × (List Bool)) => (Exit.normal, ⟨mkE 41 0 [(1, dI x555), (5, .ptr 0 0), (20, dL x554), (21, dI x565), (22, dI t.1)], [some (.seq .bool t.2)]⟩)) (Sum.elim (fun (t : Bool) => (Exit.ret, ⟨mkE 41 0 [(4, dB t)], []⟩)) (fun (t : Unit) => ((Exit.exit 0), ⟨mkE 41 0 [], []⟩)))) := by
  refine Link.of fun K h => ?_
  simp only [impl_OrderOk_n3, wpO_bind, wpO_cond, wpO_map, wpO_some] at h
  exact Awp.of (by kernel_rfl) h

def impl_OrderOk_n4_l (x555 : Int) (x554 : List Int) (x565 : Int) := (link_loop (mk := fun (s : Int × (List Bool)) => ⟨mkE 41 0 [(1, dI x555), (5, .ptr 0 0), (20, dL x554), (21, dI x565), (22, dI s.1)], [some (.seq .bool s.2)]⟩) (fin := (Sum.elim (fun (t : Bool) => (Exit.ret, ⟨mkE 41 0 [(4, dB t)], []⟩)) (fun (t : Unit) => ((Exit.exit 0), ⟨mkE 41 0 [], []⟩)))) (by
  rintro (t | t) f K h
  · exact h
  · exact h) (fun s => link_map (impl_OrderOk_n3_l x555 x554 x565 s.1 s.2) (Sum.elim (fun (t : Int × (List Bool)) => Sum.inl (t.1, t.2)) (Sum.elim (fun (t : Bool) => Sum.inr (Sum.inl t)) (fun (t : Unit) => Sum.inr (Sum.inr t)))) (by
  rintro (t | t | t)
  · kernel_rfl
  · kernel_rfl
  · kernel_rfl)) (0, (List.replicate 9 false)))

def impl_OrderOk_n5_l (x555 : Int) (x554 : List Int) (x565 : Int) := (link_block (fin2 := (Sum.elim (fun (t : Unit) => (Exit.normal, ⟨mkE 41 0 [], []⟩)) (fun (t : Bool) => (Exit.ret, ⟨mkE 41 0 [(4, dB t)], []⟩)))) (id := 0) (impl_OrderOk_n4_l x555 x554 x565) (Sum.elim (fun (t : Bool) => (Sum.inr t)) (fun (t : Unit) => (Sum.inl ()))) (by
  rintro (t | t) K h
  · exact Eq.mp (by kernel_rfl) h
  · exact Eq.mp (by kernel_rfl) h))

def impl_OrderOk_n6_l (x554 : List Int) (x555 : Int) := (link_seq (impl_OrderOk_n2_l x554 x555) (fun (t : Int) => (impl_OrderOk_n5_l x555 x554 t)))

theorem impl_OrderOk_n7_l : Link impl_OrderOk_ctx LL (cq [1,1,1,1] (bodyOf Try.f17)) (aq [1,1,1,1] impl_OrderOk_an) ⟨mkE 41 0 [], []⟩ (impl_OrderOk_n7) (fun (t : Bool) => (Exit.ret, ⟨mkE 41 0 [(4, dB t)], []⟩)) := by
  refine Link.of fun K h => ?_
  simp only [impl_OrderOk_n7, wpO_bind, wpO_cond, wpO_map, wpO_some] at h
  exact Awp.of (by kernel_rfl) h

def impl_OrderOk_n8_l (x554 : List Int) (x555 : Int) := (link_seq2 (impl_OrderOk_n6_l x554 x555) (fun (t : Unit) => (impl_OrderOk_n7_l)) (fun (t : Bool) => t) (by
  rintro t
  · kernel_rfl) (by
  rintro t f K h
  · exact h))

def impl_OrderOk_n9_l (x554 : List Int) (x555 : Int) := (link_group (c := (cq [0,1,1] (bodyOf Try.f17))) (a := (aq [0,1,1] impl_OrderOk_an)) [(cq [0] (bodyOf Try.f17)), (cq [0,1] (bodyOf Try.f17))] [(aq [0] impl_OrderOk_an), (aq [0,1] impl_OrderOk_an)] rfl (link_seq2 (impl_OrderOk_n1_l x554 x555) (fun (t : Unit) => (impl_OrderOk_n8_l x554 x555)) (fun (t : Bool) => t) (by
  rintro t
  · kernel_rfl) (by
  rintro t f K h
  · exact h)))

theorem impl_OrderOk_e (x554 : List Int) (x555 : Int) {r : AV} {H' : Heap} (h : (Ans.mk _ (impl_OrderOk x554 x555) (fun (t : Bool) => (dB t, [])) [] none).run = some (r, H')) : Awp impl_OrderOk_ctx LL (bodyOf Try.f17) impl_OrderOk_an ⟨mkE 41 0 [(0, dL x554), (1, dI x555)], []⟩ (Ret (tlook tys) Try.f17.results.toList r H') :=
  ret_of' (Link.cast (by kernel_rfl) (by kernel_rfl) (impl_OrderOk_n9_l x554 x555)) (by unfold impl_OrderOk; kernel_rfl) (by
  intro t
  exact ret_mk [dB t] (by kernel_rfl) (by kernel_rfl) (by kernel_rfl) (by kernel_rfl)) h

def F_impl_OrderOk : Fun := fun avs H =>
  match avs, H with
  | [.dat (.list (.int .i64)) x554, .dat (.int .i64) x555], [] => ⟨_, impl_OrderOk x554 x555, fun (t : Bool) => (dB t, []), [], none⟩
  | _, _ => Ans.no

theorem impl_OrderOk_sound : Sound Try.prog 17 F_impl_OrderOk := by
  refine fn_sound' (C := impl_OrderOk_ctx) (c := bodyOf Try.f17) (cok_of tys_ok (alln) (alln) (by kernel_rfl)) Try.func17 (by kernel_rfl) LL impl_OrderOk_an ?_
  intro avs H r H' h
  unfold F_impl_OrderOk at h
  split at h
  · refine Awp.cast ?_ ?_ ?_ (impl_OrderOk_e _ _ h) <;> kernel_rfl
  · simp [Ans.no, Ans.run] at h


/-! slices.Grow[[]int,int] -/

def slices_Grow_int_int_an : Ann := (.seq (.leaf [0, 1]) (.seq (.seq (.leaf [0, 1, 6]) (.cond (.leaf [0, 1]) (.leaf [0, 1]))) (.seq (.seq (.leaf [0, 1]) (.seq (.leaf [0, 1, 16]) (.cond (.leaf [0]) (.leaf [0])))) (.seq (.leaf [4]) (.leafF [⟨0, 4, true, none, none⟩] [4])))))

noncomputable def slices_Grow_int_int_ctx : Ctx := ⟨tlook tys, olook [], ioF, 0, false, []⟩

theorem slices_Grow_int_int_n1_l (x866 : Int) : Link slices_Grow_int_int_ctx LL (bodyOf Try.f48) slices_Grow_int_int_an ⟨mkE 27 0 [(0, .nils), (1, dI x866)], []⟩ (slices_Grow_int_int_n1 x866) (fun (t : Nat × (List Int)) => (Exit.ret, ⟨mkE 27 0 [(4, .win 0 0 t.1)], [some (sI t.2)]⟩)) := by
  refine Link.of fun K h => ?_
  simp only [slices_Grow_int_int_n1, wpO_bind, wpO_cond, wpO_map, wpO_some, wpO_none] at h
  exact Awp.of (by kernel_rfl) h

theorem slices_Grow_int_int_e (x866 : Int) {r : AV} {H' : Heap} (h : (Ans.mk _ (slices_Grow_int_int x866) (fun (t : Nat × (List Int)) => (.win 0 0 t.1, [some (sI t.2)])) [] none).run = some (r, H')) : Awp slices_Grow_int_int_ctx LL (bodyOf Try.f48) slices_Grow_int_int_an ⟨mkE 27 0 [(0, .nils), (1, dI x866)], []⟩ (Ret (tlook tys) Try.f48.results.toList r H') :=
  ret_of' (slices_Grow_int_int_n1_l x866) (by unfold slices_Grow_int_int; kernel_rfl) (by
  intro t
  exact ret_mk [.win 0 0 t.1] (by kernel_rfl) (by kernel_rfl) (by kernel_rfl) (by kernel_rfl)) h

def F_slices_Grow_int_int : Fun := fun avs H =>
  match avs, H with
  | [.nils, .dat (.int .i64) x866], [] => ⟨_, slices_Grow_int_int x866, fun (t : Nat × (List Int)) => (.win 0 0 t.1, [some (sI t.2)]), [], none⟩
  | _, _ => Ans.no

theorem slices_Grow_int_int_sound : Sound Try.prog 48 F_slices_Grow_int_int := by
  refine fn_sound' (C := slices_Grow_int_int_ctx) (c := bodyOf Try.f48) (cok_of tys_ok (alln) (alln) (by kernel_rfl)) Try.func48 (by kernel_rfl) LL slices_Grow_int_int_an ?_
  intro avs H r H' h
  unfold F_slices_Grow_int_int at h
  split at h
  · refine Awp.cast ?_ ?_ ?_ (slices_Grow_int_int_e _ h) <;> kernel_rfl
  · simp [Ans.no, Ans.run] at h


/-! slices.Concat[[]int,int] -/

def slices_Concat_int_int_an : Ann := (.seq (.leaf [0]) (.seq (.leaf [0, 3]) (.seq (.seq (.leaf [0, 3, 9, 10, 11]) (.block (.loop (.seq (.leaf [0, 3, 9, 10, 11, 12]) (.seq (.cond (.leaf [0, 3, 9, 10, 11]) (.leaf [0, 3])) (.seq (.block (.seq (.leaf [0, 3, 5, 9, 10, 11]) (.seq (.leaf [0, 3, 9, 10, 11]) (.seq (.leaf [0, 3, 9, 10, 11, 20]) (.cond (.leaf [0, 3, 9, 10, 11]) (.leaf [0, 3, 9, 10, 11])))))) (.leaf [0, 3, 9, 10, 11]))))))) (.seq (.leaf [0, 6]) (.seq (.seq (.leaf [6, 25, 26, 27]) (.block (.loop (.seq (.leaf [6, 25, 26, 27, 28]) (.seq (.cond (.leaf [6, 25, 26, 27]) (.leaf [6])) (.seq (.block (.seq (.leaf [6, 8, 25, 26, 27]) (.leaf [6, 25, 26, 27]))) (.leafF [⟨2, 6, true, none, none⟩] [6, 25, 26, 27]))))))) (.seq (.leaf [2]) (.leaf [2])))))))

noncomputable def slices_Concat_int_int_ctx : Ctx := ⟨tlook tys, olook [(48, F_slices_Grow_int_int)], ioF, 0, false, []⟩

theorem slices_Concat_int_int_n1_l (x836 : List (List Int)) : Link slices_Concat_int_int_ctx LL (Code.seq (cq [0] (bodyOf Try.f43)) (cq [0,1] (bodyOf Try.f43))) (Ann.seq (aq [0] slices_Concat_int_int_an) (aq [0,1] slices_Concat_int_int_an)) ⟨mkE 36 0 [(0, .dat (.list (.list (.int .i64))) x836)], []⟩ (slices_Concat_int_int_n1) (fun (t : Unit) => (Exit.normal, ⟨mkE 36 0 [(0, .dat (.list (.list (.int .i64))) x836), (3, dI 0)], []⟩)) := by
  refine Link.of fun K h => ?_
  simp only [slices_Concat_int_int_n1, wpO_bind, wpO_cond, wpO_map, wpO_some] at h
  exact Awp.of (by kernel_rfl) h

theorem slices_Concat_int_int_n2_l (x836 : List (List Int)) : Link slices_Concat_int_int_ctx LL (cq [0,0,1,1] (bodyOf Try.f43)) (aq [0,0,1,1] slices_Concat_int_int_an) ⟨mkE 36 0 [(0, .dat (.list (.list (.int .i64))) x836), (3, dI 0)], []⟩ (slices_Concat_int_int_n2 x836) (fun (t : Int) => (Exit.normal, ⟨mkE 36 0 [(0, .dat (.list (.list (.int .i64))) x836), (3, dI 0), (9, .dat (.list (.list (.int .i64))) x836), (10, dI t), (11, dI 0)], []⟩)) := by
  refine Link.of fun K h => ?_
  simp only [slices_Concat_int_int_n2, wpO_bind, wpO_cond, wpO_map, wpO_some] at h
  exact Awp.of (by kernel_rfl) h

theorem slices_Concat_int_int_n3_l (x836 : List (List Int)) (x976 : Int) (x962 : Int) (x977 : Int) : Link slices_Concat_int_int_ctx LL (cq [0,0,1,0,1,1] (bodyOf Try.f43)) (aq [0,0,1,0,1,1] slices_Concat_int_int_an) ⟨mkE 36 0 [(0, .dat (.list (.list (.int .i64))) x836), (3, dI x976), (9, .dat (.list (.list (.int .i64))) x836), (10, dI x962), (11, dI x977)], []⟩ (slices_Concat_int_int_n3 x836 x976 x962 x977) (Sum.elim (fun (t : Int × Int) => (Exit.normal, ⟨mkE 36 0 [(0, .dat (.list (.list (.int .i64))) x836), (3, dI t.1), (9, .dat (.list (.list (.int .i64))) x836), (10, dI x962), (11, dI t.2)], []⟩)) (fun (t : Int) => ((Exit.exit 0), ⟨mkE 36 0 [(0, .dat (.list (.list (.int .i64))) x836), (3, dI t)], []⟩))) := by
  refine Link.of fun K h => ?_
  simp only [slices_Concat_int_int_n3, wpO_bind, wpO_cond, wpO_map, wpO_some, wpO_none] at h
  exact Awp.of (by kernel_rfl) h

def slices_Concat_int_int_n4_l (x836 : List (List Int)) (x962 : Int) := (link_loop (mk := fun (s : Int × Int) => ⟨mkE 36 0 [(0, .dat (.list (.list (.int .i64))) x836), (3, dI s.1), (9, .dat (.list (.list (.int .i64))) x836), (10, dI x962), (11, dI s.2)], []⟩) (fin := (fun (t : Int) => ((Exit.exit 0), ⟨mkE 36 0 [(0, .dat (.list (.list (.int .i64))) x836), (3, dI t)], []⟩))) (by
  rintro t f K h
  · exact h) (fun s => link_map (slices_Concat_int_int_n3_l x836 s.1 x962 s.2) (Sum.elim (fun (t : Int × Int) => Sum.inl (t.1, t.2)) (fun (t : Int) => Sum.inr t)) (by
  rintro (t | t)
  · kernel_rfl
  · kernel_rfl)) (0, 0))

def slices_Concat_int_int_n5_l (x836 : List (List Int)) (x962 : Int) := (link_block (fin2 := (fun (t : Int) => (Exit.normal, ⟨mkE 36 0 [(0, .dat (.list (.list (.int .i64))) x836), (3, dI t)], []⟩))) (id := 0) (slices_Concat_int_int_n4_l x836 x962) (fun (t : Int) => t) (by
  rintro t K h
  · exact Eq.mp (by kernel_rfl) h))

def slices_Concat_int_int_n6_l (x836 : List (List Int)) := (link_seq (slices_Concat_int_int_n2_l x836) (fun (t : Int) => (slices_Concat_int_int_n5_l x836 t)))

theorem slices_Concat_int_int_n7_l (x836 : List (List Int)) (x976 : Int) : Link slices_Concat_int_int_ctx LL (cq [0,1,1,1] (bodyOf Try.f43)) (aq [0,1,1,1] slices_Concat_int_int_an) ⟨mkE 36 0 [(0, .dat (.list (.list (.int .i64))) x836), (3, dI x976)], []⟩ (slices_Concat_int_int_n7 x976) (fun (t : Nat × (List Int)) => (Exit.normal, ⟨mkE 36 0 [(0, .dat (.list (.list (.int .i64))) x836), (6, .win 0 0 t.1)], [some (sI t.2)]⟩)) := by
  refine Link.of fun K h => ?_
  simp only [slices_Concat_int_int_n7, wpO_bind, wpO_cond, wpO_map, wpO_some] at h
  exact Awp.of (by kernel_rfl) h

theorem slices_Concat_int_int_n8_l (x836 : List (List Int)) (x992 : Nat) (x993 : List Int) : Link slices_Concat_int_int_ctx LL (cq [0,0,1,1,1,1] (bodyOf Try.f43)) (aq [0,0,1,1,1,1] slices_Concat_int_int_an) ⟨mkE 36 0 [(0, .dat (.list (.list (.int .i64))) x836), (6, .win 0 0 x992)], [some (sI x993)]⟩ (slices_Concat_int_int_n8 x836) (fun (t : Int) => (Exit.normal, ⟨mkE 36 0 [(6, .win 0 0 x992), (25, .dat (.list (.list (.int .i64))) x836), (26, dI t), (27, dI 0)], [some (sI x993)]⟩)) := by
  refine Link.of fun K h => ?_
  simp only [slices_Concat_int_int_n8, wpO_bind, wpO_cond, wpO_map, wpO_some] at h
  exact Awp.of (by kernel_rfl) h

theorem slices_Concat_int_int_n9_l (x1009 : Nat) (x836 : List (List Int)) (x994 : Int) (x1010 : Int) (x1011 : List Int) : Link slices_Concat_int_int_ctx LL (cq [0,0,1,0,1,1,1,1] (bodyOf Try.f43)) (aq [0,0,1,0,1,1,1,1] slices_Concat_int_int_an) ⟨mkE 36 0 [(6, .win 0 0 x1009), (25, .dat (.list (.list (.int .i64))) x836), (26, dI x994), (27, dI x1010)], [some (sI x1011)]⟩ (slices_Concat_int_int_n9 x1009 x836 x994 x1010 x1011) (Sum.elim (fun (t : Nat × Int × (List Int)) => (Exit.normal, ⟨mkE 36 0 [(6, .win 0 0 t.1), (25, .dat (.list (.list (.int .i64))) x836), (26, dI x994), (27, dI t.2.1)], [some (sI t.2.2)]⟩)) (fun (t : Nat × (List Int)) => ((Exit.exit 2), ⟨mkE 36 0 [(6, .win 0 0 t.1)], [some (sI t.2)]⟩))) := by
  refine Link.of fun K h => ?_
  simp only [slices_Concat_int_int_n9, wpO_bind, wpO_cond, wpO_map, wpO_some] at h
  exact Awp.of (by kernel_rfl) h

def slices_Concat_int_int_n10_l (x992 : Nat) (x836 : List (List Int)) (x994 : Int) (x993 : List Int) := (link_loop (mk := fun (s : Nat × Int × (List Int)) => ⟨mkE 36 0 [(6, .win 0 0 s.1), (25, .dat (.list (.list (.int .i64))) x836), (26, dI x994), (27, dI s.2.1)], [some (sI s.2.2)]⟩) (fin := (fun (t : Nat × (List Int)) => ((Exit.exit 2), ⟨mkE 36 0 [(6, .win 0 0 t.1)], [some (sI t.2)]⟩))) (by
  rintro t f K h
  · exact h) (fun s => link_map (slices_Concat_int_int_n9_l s.1 x836 x994 s.2.1 s.2.2) (Sum.elim (fun (t : Nat × Int × (List Int)) => Sum.inl (t.1, t.2.1, t.2.2)) (fun (t : Nat × (List Int)) => Sum.inr t)) (by
  rintro (t | t)
  · kernel_rfl
  · kernel_rfl)) (x992, 0, x993))

def slices_Concat_int_int_n11_l (x992 : Nat) (x836 : List (List Int)) (x994 : Int) (x993 : List Int) := (link_block (fin2 := (fun (t : Nat × (List Int)) => (Exit.normal, ⟨mkE 36 0 [(6, .win 0 0 t.1)], [some (sI t.2)]⟩))) (id := 2) (slices_Concat_int_int_n10_l x992 x836 x994 x993) (fun (t : Nat × (List Int)) => (t.1, t.2)) (by
  rintro t K h
  · exact Eq.mp (by kernel_rfl) h))

def slices_Concat_int_int_n12_l (x836 : List (List Int)) (x992 : Nat) (x993 : List Int) := (link_seq (slices_Concat_int_int_n8_l x836 x992 x993) (fun (t : Int) => (slices_Concat_int_int_n11_l x992 x836 t x993)))

theorem slices_Concat_int_int_n13_l (x1009 : Nat) (x1011 : List Int) : Link slices_Concat_int_int_ctx LL (cq [1,1,1,1,1] (bodyOf Try.f43)) (aq [1,1,1,1,1] slices_Concat_int_int_an) ⟨mkE 36 0 [(6, .win 0 0 x1009)], [some (sI x1011)]⟩ (slices_Concat_int_int_n13 x1009 x1011) (fun (t : Nat × (List Int)) => (Exit.ret, ⟨mkE 36 0 [(2, .win 0 0 t.1)], [some (sI t.2)]⟩)) := by
  refine Link.of fun K h => ?_
  simp only [slices_Concat_int_int_n13, wpO_bind, wpO_cond, wpO_map, wpO_some] at h
  exact Awp.of (by kernel_rfl) h

def slices_Concat_int_int_n14_l (x836 : List (List Int)) (x992 : Nat) (x993 : List Int) := (link_seq (slices_Concat_int_int_n12_l x836 x992 x993) (fun (t : Nat × (List Int)) => (slices_Concat_int_int_n13_l t.1 t.2)))

def slices_Concat_int_int_n15_l (x836 : List (List Int)) (x976 : Int) := (link_seq (slices_Concat_int_int_n7_l x836 x976) (fun (t : Nat × (List Int)) => (slices_Concat_int_int_n14_l x836 t.1 t.2)))

def slices_Concat_int_int_n16_l (x836 : List (List Int)) := (link_seq (slices_Concat_int_int_n6_l x836) (fun (t : Int) => (slices_Concat_int_int_n15_l x836 t)))

def slices_Concat_int_int_n17_l (x836 : List (List Int)) := (link_group (c := (cq [0,1] (bodyOf Try.f43))) (a := (aq [0,1] slices_Concat_int_int_an)) [(cq [0] (bodyOf Try.f43))] [(aq [0] slices_Concat_int_int_an)] rfl (link_seq (slices_Concat_int_int_n1_l x836) (fun (t : Unit) => (slices_Concat_int_int_n16_l x836))))

theorem slices_Concat_int_int_e (x836 : List (List Int)) {r : AV} {H' : Heap} (h : (Ans.mk _ (slices_Concat_int_int x836) (fun (t : Nat × (List Int)) => (.win 0 0 t.1, [some (sI t.2)])) [] none).run = some (r, H')) : Awp slices_Concat_int_int_ctx LL (bodyOf Try.f43) slices_Concat_int_int_an ⟨mkE 36 0 [(0, .dat (.list (.list (.int .i64))) x836)], []⟩ (Ret (tlook tys) Try.f43.results.toList r H') :=
  ret_of' (Link.cast (by kernel_rfl) (by kernel_rfl) (slices_Concat_int_int_n17_l x836)) (by unfold slices_Concat_int_int; kernel_rfl) (by
  intro t
  exact ret_mk [.win 0 0 t.1] (by kernel_rfl) (by kernel_rfl) (by kernel_rfl) (by kernel_rfl)) h

def F_slices_Concat_int_int : Fun := fun avs H =>
  match avs, H with
  | [.dat (.list (.list (.int .i64))) x836], [] => ⟨_, slices_Concat_int_int x836, fun (t : Nat × (List Int)) => (.win 0 0 t.1, [some (sI t.2)]), [], none⟩
  | _, _ => Ans.no

theorem slices_Concat_int_int_sound : Sound Try.prog 43 F_slices_Concat_int_int := by
  refine fn_sound' (C := slices_Concat_int_int_ctx) (c := bodyOf Try.f43) (cok_of tys_ok (allc slices_Grow_int_int_sound alln) (allc Try.call48 alln) (by kernel_rfl)) Try.func43 (by kernel_rfl) LL slices_Concat_int_int_an ?_
  intro avs H r H' h
  unfold F_slices_Concat_int_int at h
  split at h
  · refine Awp.cast ?_ ?_ ?_ (slices_Concat_int_int_e _ h) <;> kernel_rfl
  · simp [Ans.no, Ans.run] at h


/-! loop.example/headtrees/impl.merged -/

def impl_merged_an : Ann := (.seq (.leaf [0, 1]) (.seq (.leaf [0, 1, 6]) (.seq (.leaf [0, 1, 6, 7]) (.seq (.block (.loop (.seq (.seq (.leaf [0, 1, 6, 7, 21]) (.cond (.leaf [0, 1, 6, 7]) (.leaf [0, 1, 6, 7]))) (.block (.seq (.seq (.draw [] [0, 1, 2, 3, 4, 5, 6] [] [0, 1, 6, 7, 28]) (.cond (.seq (.leaf [0, 1, 6, 7]) (.seq (.leaf [0, 1, 6, 7]) (.leaf [0, 1, 6, 7]))) (.leaf [0, 1, 6, 7]))) (.seq (.leaf [0, 1, 6, 7]) (.seq (.leaf [0, 1, 6, 7]) (.leaf [0, 1, 6, 7])))))))) (.seq (.leafF [⟨3, 49, false, none, none⟩] [4, 5]) (.leaf [4, 5]))))))

noncomputable def impl_merged_ctx : Ctx := ⟨tlook tys, olook [(43, F_slices_Concat_int_int)], ioF, 0, false, []⟩

theorem impl_merged_n1_l (x673 : List Int) (x674 : List Int) : Link impl_merged_ctx LL (Code.seq (cq [0] (bodyOf Try.f37)) (Code.seq (cq [0,1] (bodyOf Try.f37)) (cq [0,1,1] (bodyOf Try.f37)))) (Ann.seq (aq [0] impl_merged_an) (Ann.seq (aq [0,1] impl_merged_an) (aq [0,1,1] impl_merged_an))) ⟨mkE 55 0 [(0, dL x673), (1, dL x674)], []⟩ (impl_merged_n1 x673 x674) (fun (t : (List Int)) => (Exit.normal, ⟨mkE 55 0 [(0, dL x673), (1, dL x674), (6, .slc 0), (7, dI 0)], [some (sI t)]⟩)) := by
  refine Link.of fun K h => ?_
  simp only [impl_merged_n1, wpO_bind, wpO_cond, wpO_map, wpO_some] at h
  exact Awp.of (by kernel_rfl) h

theorem impl_merged_n2_l (x798 : List Int) (x799 : List Int) (x800 : Int) (x801 : List Int) : Link impl_merged_ctx LL (cq [0,0,0,1,1,1] (bodyOf Try.f37)) (aq [0,0,0,1,1,1] impl_merged_an) ⟨mkE 55 0 [(0, dL x798), (1, dL x799), (6, .slc 0), (7, dI x800)], [some (sI x801)]⟩ (impl_merged_n2 x798 x799 x800 x801) (Sum.elim (fun (t : (List Int) × (List Int) × Int × (List Int)) => (Exit.normal, ⟨mkE 55 0 [(0, dL t.1), (1, dL t.2.1), (6, .slc 0), (7, dI t.2.2.1)], [some (sI t.2.2.2)]⟩)) (fun (t : (List Int) × (List Int) × Int × (List Int)) => ((Exit.exit 0), ⟨mkE 55 0 [(0, dL t.1), (1, dL t.2.1), (6, .slc 0), (7, dI t.2.2.1)], [some (sI t.2.2.2)]⟩))) := by
  refine Link.of fun K h => ?_
  simp only [impl_merged_n2, wpO_bind, wpO_cond, wpO_map, wpO_some] at h
  exact Awp.of (by kernel_rfl) h

def impl_merged_n3_l (x673 : List Int) (x674 : List Int) (x764 : List Int) := (link_loop (mk := fun (s : (List Int) × (List Int) × Int × (List Int)) => ⟨mkE 55 0 [(0, dL s.1), (1, dL s.2.1), (6, .slc 0), (7, dI s.2.2.1)], [some (sI s.2.2.2)]⟩) (fin := (fun (t : (List Int) × (List Int) × Int × (List Int)) => ((Exit.exit 0), ⟨mkE 55 0 [(0, dL t.1), (1, dL t.2.1), (6, .slc 0), (7, dI t.2.2.1)], [some (sI t.2.2.2)]⟩))) (by
  rintro t f K h
  · exact h) (fun s => link_map (impl_merged_n2_l s.1 s.2.1 s.2.2.1 s.2.2.2) (Sum.elim (fun (t : (List Int) × (List Int) × Int × (List Int)) => Sum.inl (t.1, t.2.1, t.2.2.1, t.2.2.2)) (fun (t : (List Int) × (List Int) × Int × (List Int)) => Sum.inr t)) (by
  rintro (t | t)
  · kernel_rfl
  · kernel_rfl)) (x673, x674, 0, x764))

def impl_merged_n4_l (x673 : List Int) (x674 : List Int) (x764 : List Int) := (link_block (fin2 := (fun (t : (List Int) × (List Int) × Int × (List Int)) => (Exit.normal, ⟨mkE 55 0 [(0, dL t.1), (1, dL t.2.1), (6, .slc 0), (7, dI t.2.2.1)], [some (sI t.2.2.2)]⟩))) (id := 0) (impl_merged_n3_l x673 x674 x764) (fun (t : (List Int) × (List Int) × Int × (List Int)) => (t.1, t.2.1, t.2.2.1, t.2.2.2)) (by
  rintro t K h
  · exact Eq.mp (by kernel_rfl) h))

theorem impl_merged_n5_l (x798 : List Int) (x799 : List Int) (x800 : Int) (x801 : List Int) : Link impl_merged_ctx LL (cq [1,1,1,1] (bodyOf Try.f37)) (aq [1,1,1,1] impl_merged_an) ⟨mkE 55 0 [(0, dL x798), (1, dL x799), (6, .slc 0), (7, dI x800)], [some (sI x801)]⟩ (impl_merged_n5 x798 x799 x800 x801) (fun (t : Nat × Int × (List Int)) => (Exit.ret, ⟨mkE 55 0 [(4, .win 0 0 t.1), (5, dI t.2.1)], [some (sI t.2.2)]⟩)) := by
  refine Link.of fun K h => ?_
  simp only [impl_merged_n5, wpO_bind, wpO_cond, wpO_map, wpO_some] at h
  exact Awp.of (by kernel_rfl) h

def impl_merged_n6_l (x673 : List Int) (x674 : List Int) (x764 : List Int) := (link_seq (impl_merged_n4_l x673 x674 x764) (fun (t : (List Int) × (List Int) × Int × (List Int)) => (impl_merged_n5_l t.1 t.2.1 t.2.2.1 t.2.2.2)))

def impl_merged_n7_l (x673 : List Int) (x674 : List Int) := (link_group (c := (cq [0,1,1] (bodyOf Try.f37))) (a := (aq [0,1,1] impl_merged_an)) [(cq [0] (bodyOf Try.f37)), (cq [0,1] (bodyOf Try.f37))] [(aq [0] impl_merged_an), (aq [0,1] impl_merged_an)] rfl (link_seq (impl_merged_n1_l x673 x674) (fun (t : (List Int)) => (impl_merged_n6_l x673 x674 t))))

theorem impl_merged_e (x673 : List Int) (x674 : List Int) {r : AV} {H' : Heap} (h : (Ans.mk _ (impl_merged x673 x674) (fun (t : Nat × Int × (List Int)) => (.tup [.win 0 0 t.1, dI t.2.1], [some (sI t.2.2)])) [] none).run = some (r, H')) : Awp impl_merged_ctx LL (bodyOf Try.f37) impl_merged_an ⟨mkE 55 0 [(0, dL x673), (1, dL x674)], []⟩ (Ret (tlook tys) Try.f37.results.toList r H') :=
  ret_of' (Link.cast (by kernel_rfl) (by kernel_rfl) (impl_merged_n7_l x673 x674)) (by unfold impl_merged; kernel_rfl) (by
  intro t
  exact ret_mk [.win 0 0 t.1, dI t.2.1] (by kernel_rfl) (by kernel_rfl) (by kernel_rfl) (by kernel_rfl)) h

def F_impl_merged : Fun := fun avs H =>
  match avs, H with
  | [.dat (.list (.int .i64)) x673, .dat (.list (.int .i64)) x674], [] => ⟨_, impl_merged x673 x674, fun (t : Nat × Int × (List Int)) => (.tup [.win 0 0 t.1, dI t.2.1], [some (sI t.2.2)]), [], none⟩
  | _, _ => Ans.no

theorem impl_merged_sound : Sound Try.prog 37 F_impl_merged := by
  refine fn_sound' (C := impl_merged_ctx) (c := bodyOf Try.f37) (cok_of tys_ok (allc slices_Concat_int_int_sound alln) (allc Try.call43 alln) (by kernel_rfl)) Try.func37 (by kernel_rfl) LL impl_merged_an ?_
  intro avs H r H' h
  unfold F_impl_merged at h
  split at h
  · refine Awp.cast ?_ ?_ ?_ (impl_merged_e _ _ h) <;> kernel_rfl
  · simp [Ans.no, Ans.run] at h


/-! loop.example/headtrees/impl.sorted -/

def impl_sorted_an : Ann := (.seq (.leaf [0]) (.seq (.seq (.leaf [0, 13]) (.cond (.seq (.leaf [2, 3]) (.leaf [2, 3])) (.leaf [0]))) (.seq (.leaf [0, 4]) (.seq (.leaf [0, 4, 5, 6]) (.seq (.leaf [5, 6, 7, 8]) (.seq (.leaf [6, 8, 9, 10]) (.seq (.leaf [2, 3]) (.leafF [⟨0, 2, false, none, none⟩] [2, 3]))))))))

def F_impl_sorted_fuel (n : Nat) : Fun := fun avs H =>
  match avs, H with
  | [.dat (.list (.int .i64)) x621], [] => ⟨_, impl_sorted_fuel n x621, fun (t : (List Int) × Int) => (.tup [dL t.1, dI t.2], []), [], none⟩
  | _, _ => Ans.no

noncomputable def impl_sorted_ctx (n : Nat) : Ctx := ⟨tlook tys, olook [(28, F_impl_sorted_fuel n), (37, F_impl_merged)], ioF, 0, false, []⟩

theorem impl_sorted_n1_l (n : Nat) (x621 : List Int) : Link (impl_sorted_ctx n) LL (bodyOf Try.f28) impl_sorted_an ⟨mkE 44 0 [(0, dL x621)], []⟩ (impl_sorted_n1 (impl_sorted_fuel n) x621) (fun (t : (List Int) × Int) => (Exit.ret, ⟨mkE 44 0 [(2, dL t.1), (3, dI t.2)], []⟩)) := by
  refine Link.of fun K h => ?_
  simp only [impl_sorted_n1, wpO_bind, wpO_cond, wpO_map, wpO_some] at h
  exact Awp.of (by kernel_rfl) h

theorem impl_sorted_e (n : Nat) (x621 : List Int) {r : AV} {H' : Heap} (h : (Ans.mk _ (impl_sorted_fuel (n + 1) x621) (fun (t : (List Int) × Int) => (.tup [dL t.1, dI t.2], [])) [] none).run = some (r, H')) : Awp (impl_sorted_ctx n) LL (bodyOf Try.f28) impl_sorted_an ⟨mkE 44 0 [(0, dL x621)], []⟩ (Ret (tlook tys) Try.f28.results.toList r H') :=
  ret_of' (impl_sorted_n1_l n x621) (by (show _ = _); kernel_rfl) (by
  intro t
  exact ret_mk [dL t.1, dI t.2] (by kernel_rfl) (by kernel_rfl) (by kernel_rfl) (by kernel_rfl)) h

theorem impl_sorted_step (n : Nat) (h28 : Sound Try.prog 28 (F_impl_sorted_fuel n)) : Sound Try.prog 28 (F_impl_sorted_fuel (n + 1)) := by
  refine fn_sound' (C := impl_sorted_ctx n) (c := bodyOf Try.f28) (cok_of tys_ok (allc h28 (allc impl_merged_sound alln)) (allc Try.call28 (allc Try.call37 alln)) (by kernel_rfl)) Try.func28 (by kernel_rfl) LL impl_sorted_an ?_
  intro avs H r H' h
  unfold F_impl_sorted_fuel at h
  split at h
  · refine Awp.cast ?_ ?_ ?_ (impl_sorted_e n _ h) <;> kernel_rfl
  · simp [Ans.no, Ans.run] at h

theorem impl_sorted_null : Sound Try.prog 28 (F_impl_sorted_fuel 0) := by
  intro avs H r H' h
  unfold F_impl_sorted_fuel at h
  split at h
  · simp [impl_sorted_fuel, impl_sorted_knot, Ans.run] at h
  · simp [Ans.no, Ans.run] at h

theorem impl_sorted_knot_all : ∀ n, Sound Try.prog 28 (F_impl_sorted_fuel n)
  | 0 => impl_sorted_null
  | n + 1 => by
    have h28 := impl_sorted_knot_all n
    exact impl_sorted_step n h28

def F_impl_sorted : Fun := fun avs H =>
  match avs, H with
  | [.dat (.list (.int .i64)) x621], [] => ⟨_, impl_sorted x621, fun (t : (List Int) × Int) => (.tup [dL t.1, dI t.2], []), [], none⟩
  | _, _ => Ans.no

theorem impl_sorted_sound : Sound Try.prog 28 F_impl_sorted := by
  have e : F_impl_sorted = F_impl_sorted_fuel RR := by
    funext avs H
    unfold F_impl_sorted F_impl_sorted_fuel
    split <;> first | rfl | (simp only [impl_sorted])
  rw [e]
  exact (impl_sorted_knot_all RR)


/-! loop.example/headtrees/impl.CountTurned -/

def impl_CountTurned_an : Ann := (.seq (.leaf [0]) (.seq (.seq (.leaf [0, 9]) (.cond (.seq (.leaf [2]) (.leaf [2])) (.leaf [0]))) (.seq (.leaf [4]) (.seq (.leaf [2]) (.leaf [2])))))

noncomputable def impl_CountTurned_ctx : Ctx := ⟨tlook tys, olook [(17, F_impl_OrderOk), (28, F_impl_sorted)], ioF, 0, false, []⟩

theorem impl_CountTurned_n1_l (x552 : List Int) : Link impl_CountTurned_ctx LL (bodyOf Try.f9) impl_CountTurned_an ⟨mkE 16 0 [(0, dL x552)], []⟩ (impl_CountTurned_n1 x552) (fun (t : Int) => (Exit.ret, ⟨mkE 16 0 [(2, dI t)], []⟩)) := by
  refine Link.of fun K h => ?_
  simp only [impl_CountTurned_n1, wpO_bind, wpO_cond, wpO_map, wpO_some] at h
  exact Awp.of (by kernel_rfl) h

theorem impl_CountTurned_e (x552 : List Int) {r : AV} {H' : Heap} (h : (Ans.mk _ (impl_CountTurned x552) (fun (t : Int) => (dI t, [])) [] none).run = some (r, H')) : Awp impl_CountTurned_ctx LL (bodyOf Try.f9) impl_CountTurned_an ⟨mkE 16 0 [(0, dL x552)], []⟩ (Ret (tlook tys) Try.f9.results.toList r H') :=
  ret_of' (impl_CountTurned_n1_l x552) (by unfold impl_CountTurned; kernel_rfl) (by
  intro t
  exact ret_mk [dI t] (by kernel_rfl) (by kernel_rfl) (by kernel_rfl) (by kernel_rfl)) h

def F_impl_CountTurned : Fun := fun avs H =>
  match avs, H with
  | [.dat (.list (.int .i64)) x552], [] => ⟨_, impl_CountTurned x552, fun (t : Int) => (dI t, []), [], none⟩
  | _, _ => Ans.no

theorem impl_CountTurned_sound : Sound Try.prog 9 F_impl_CountTurned := by
  refine fn_sound' (C := impl_CountTurned_ctx) (c := bodyOf Try.f9) (cok_of tys_ok (allc impl_OrderOk_sound (allc impl_sorted_sound alln)) (allc Try.call17 (allc Try.call28 alln)) (by kernel_rfl)) Try.func9 (by kernel_rfl) LL impl_CountTurned_an ?_
  intro avs H r H' h
  unfold F_impl_CountTurned at h
  split at h
  · refine Awp.cast ?_ ?_ ?_ (impl_CountTurned_e _ h) <;> kernel_rfl
  · simp [Ans.no, Ans.run] at h


/-! loop.example/headtrees/spec.l1In -/

def spec_l1In_an : Ann := (.seq (.leaf [0, 1, 2]) (.seq (.leaf [6]) (.leaf [6])))

noncomputable def spec_l1In_ctx : Ctx := ⟨tlook tys, olook [], ioF, 0, false, []⟩

theorem spec_l1In_n1_l (x1281 : Int) (x1282 : Int) (x1283 : Int) : Link spec_l1In_ctx LL (bodyOf Try.f32) spec_l1In_an ⟨mkE 15 0 [(0, dI x1281), (1, dI x1282), (2, dI x1283)], []⟩ (spec_l1In_n1 x1281 x1282 x1283) (fun (t : Bool) => (Exit.ret, ⟨mkE 15 0 [(6, dB t)], []⟩)) := by
  refine Link.of fun K h => ?_
  simp only [spec_l1In_n1, wpO_bind, wpO_cond, wpO_map, wpO_some] at h
  exact Awp.of (by kernel_rfl) h

theorem spec_l1In_e (x1281 : Int) (x1282 : Int) (x1283 : Int) {r : AV} {H' : Heap} (h : (Ans.mk _ (spec_l1In x1281 x1282 x1283) (fun (t : Bool) => (dB t, [])) [] none).run = some (r, H')) : Awp spec_l1In_ctx LL (bodyOf Try.f32) spec_l1In_an ⟨mkE 15 0 [(0, dI x1281), (1, dI x1282), (2, dI x1283)], []⟩ (Ret (tlook tys) Try.f32.results.toList r H') :=
  ret_of' (spec_l1In_n1_l x1281 x1282 x1283) (by unfold spec_l1In; kernel_rfl) (by
  intro t
  exact ret_mk [dB t] (by kernel_rfl) (by kernel_rfl) (by kernel_rfl) (by kernel_rfl)) h

def F_spec_l1In : Fun := fun avs H =>
  match avs, H with
  | [.dat (.int .i64) x1281, .dat (.int .i64) x1282, .dat (.int .i64) x1283], [] => ⟨_, spec_l1In x1281 x1282 x1283, fun (t : Bool) => (dB t, []), [], none⟩
  | _, _ => Ans.no

theorem spec_l1In_sound : Sound Try.prog 32 F_spec_l1In := by
  refine fn_sound' (C := spec_l1In_ctx) (c := bodyOf Try.f32) (cok_of tys_ok (alln) (alln) (by kernel_rfl)) Try.func32 (by kernel_rfl) LL spec_l1In_an ?_
  intro avs H r H' h
  unfold F_spec_l1In at h
  split at h
  · refine Awp.cast ?_ ?_ ?_ (spec_l1In_e _ _ _ h) <;> kernel_rfl
  · simp [Ans.no, Ans.run] at h


/-! loop.example/headtrees/spec.OrderOk -/

def spec_OrderOk_an : Ann := (.seq (.leaf [0, 1]) (.seq (.seq (.leaf [0, 1, 5]) (.block (.loop (.seq (.seq (.leaf [0, 1, 5, 10]) (.cond (.leaf [0, 1, 5]) (.leaf [0, 1]))) (.seq (.block (.seq (.seq (.leaf [0, 1, 5, 19]) (.cond (.seq (.leaf [4]) (.leaf [4])) (.leaf [0, 1, 5]))) (.seq (.leaf [0, 1, 5, 6]) (.block (.loop (.seq (.seq (.leaf [0, 1, 5, 6, 22]) (.cond (.leaf [0, 1, 5, 6]) (.leaf [0, 1, 5]))) (.seq (.block (.seq (.draw [] [0, 1, 2, 3, 4, 5, 6, 7, 8] [] [0, 1, 5, 6, 33]) (.cond (.seq (.leaf [4]) (.leaf [4])) (.leaf [0, 1, 5, 6])))) (.leaf [0, 1, 5, 6])))))))) (.leaf [0, 1, 5])))))) (.seq (.leaf [4]) (.leaf [4]))))

noncomputable def spec_OrderOk_ctx : Ctx := ⟨tlook tys, olook [(32, F_spec_l1In)], ioF, 0, false, []⟩

theorem spec_OrderOk_n1_l (x1276 : List Int) (x1277 : Int) : Link spec_OrderOk_ctx LL (cq [0] (bodyOf Try.f29)) (aq [0] spec_OrderOk_an) ⟨mkE 42 0 [(0, dL x1276), (1, dI x1277)], []⟩ (spec_OrderOk_n1) (fun (t : Unit) => (Exit.normal, ⟨mkE 42 0 [(0, dL x1276), (1, dI x1277)], []⟩)) := by
  refine Link.of fun K h => ?_
  simp only [spec_OrderOk_n1, wpO_bind, wpO_cond, wpO_map, wpO_some] at h
  exact Awp.of (by kernel_rfl) h

theorem spec_OrderOk_n2_l (x1276 : List Int) (x1277 : Int) : Link spec_OrderOk_ctx LL (cq [0,0,1] (bodyOf Try.f29)) (aq [0,0,1] spec_OrderOk_an) ⟨mkE 42 0 [(0, dL x1276), (1, dI x1277)], []⟩ (spec_OrderOk_n2) (fun (t : Unit) => (Exit.normal, ⟨mkE 42 0 [(0, dL x1276), (1, dI x1277), (5, dI 0)], []⟩)) := by
  refine Link.of fun K h => ?_
  simp only [spec_OrderOk_n2, wpO_bind, wpO_cond, wpO_map, wpO_some] at h
  exact Awp.of (by kernel_rfl) h

theorem spec_OrderOk_n3_l (x1276 : List Int) (x1277 : Int) (x1316 : Int) : Link spec_OrderOk_ctx LL (cq [0,0,0,1,0,1] (bodyOf Try.f29)) (aq [0,0,0,1,0,1] spec_OrderOk_an) ⟨mkE 42 0 [(0, dL x1276), (1, dI x1277), (5, dI x1316)], []⟩ (spec_OrderOk_n3 x1276 x1316) (Sum.elim (fun (t : Unit) => (Exit.normal, ⟨mkE 42 0 [(0, dL x1276), (1, dI x1277), (5, dI x1316)], []⟩)) (fun (t : Unit) => ((Exit.exit 0), ⟨mkE 42 0 [(0, dL x1276), (1, dI x1277)], []⟩))) := by
  refine Link.of fun K h => ?_
  simp only [spec_OrderOk_n3, wpO_bind, wpO_cond, wpO_map, wpO_some] at h
  exact Awp.of (by kernel_rfl) h

theorem spec_OrderOk_n4_l (x1276 : List Int) (x1277 : Int) (x1316 : Int) : Link spec_OrderOk_ctx LL (Code.seq (cq [0,0,0,1,0,0,1,0,1] (bodyOf Try.f29)) (cq [0,1,0,0,1,0,0,1,0,1] (bodyOf Try.f29))) (Ann.seq (aq [0,0,0,1,0,0,1,0,1] spec_OrderOk_an) (aq [0,1,0,0,1,0,0,1,0,1] spec_OrderOk_an)) ⟨mkE 42 0 [(0, dL x1276), (1, dI x1277), (5, dI x1316)], []⟩ (spec_OrderOk_n4 x1276 x1277 x1316) (Sum.elim (fun (t : Unit) => (Exit.normal, ⟨mkE 42 0 [(0, dL x1276), (1, dI x1277), (5, dI x1316), (6, dI 0)], []⟩)) (fun (t : Bool) => (Exit.ret, ⟨mkE 42 0 [(4, dB t)], []⟩))) := by
  refine Link.of fun K h => ?_
  simp only [spec_OrderOk_n4, wpO_bind, wpO_cond, wpO_map, wpO_some] at h
  exact Awp.of (by kernel_rfl) h

theorem spec_OrderOk_n5_l (x1276 : List Int) (x1277 : Int) (x1316 : Int) (x1335 : Int) : Link spec_OrderOk_ctx LL (cq [0,0,1,1,0,0,1,0,0,1,0,1] (bodyOf Try.f29)) (aq [0,0,1,1,0,0,1,0,0,1,0,1] spec_OrderOk_an) ⟨mkE 42 0 [(0, dL x1276), (1, dI x1277), (5, dI x1316), (6, dI x1335)], []⟩ (spec_OrderOk_n5 x1276 x1316 x1335) (Sum.elim (fun (t : Int) => (Exit.normal, ⟨mkE 42 0 [(0, dL x1276), (1, dI x1277), (5, dI x1316), (6, dI t)], []⟩)) (Sum.elim (fun (t : Bool) => (Exit.ret, ⟨mkE 42 0 [(4, dB t)], []⟩)) (fun (t : Unit) => ((Exit.exit 2), ⟨mkE 42 0 [(0, dL x1276), (1, dI x1277), (5, dI x1316)], []⟩)))) := by
  refine Link.of fun K h => ?_
  simp only [spec_OrderOk_n5, wpO_bind, wpO_cond, wpO_map, wpO_some] at h
  exact Awp.of (by kernel_rfl) h

def spec_OrderOk_n6_l (x1276 : List Int) (x1277 : Int) (x1316 : Int) := (link_loop (mk := fun (s : Int) => ⟨mkE 42 0 [(0, dL x1276), (1, dI x1277), (5, dI x1316), (6, dI s)], []⟩) (fin := (Sum.elim (fun (t : Bool) => (Exit.ret, ⟨mkE 42 0 [(4, dB t)], []⟩)) (fun (t : Unit) => ((Exit.exit 2), ⟨mkE 42 0 [(0, dL x1276), (1, dI x1277), (5, dI x1316)], []⟩)))) (by
  rintro (t | t) f K h
  · exact h
  · exact h) (fun s => link_map (spec_OrderOk_n5_l x1276 x1277 x1316 s) (Sum.elim (fun (t : Int) => Sum.inl t) (Sum.elim (fun (t : Bool) => Sum.inr (Sum.inl t)) (fun (t : Unit) => Sum.inr (Sum.inr t)))) (by
  rintro (t | t | t)
  · kernel_rfl
  · kernel_rfl
  · kernel_rfl)) 0)

def spec_OrderOk_n7_l (x1276 : List Int) (x1277 : Int) (x1316 : Int) := (link_block (fin2 := (Sum.elim (fun (t : Unit) => (Exit.normal, ⟨mkE 42 0 [(0, dL x1276), (1, dI x1277), (5, dI x1316)], []⟩)) (fun (t : Bool) => (Exit.ret, ⟨mkE 42 0 [(4, dB t)], []⟩)))) (id := 2) (spec_OrderOk_n6_l x1276 x1277 x1316) (Sum.elim (fun (t : Bool) => (Sum.inr t)) (fun (t : Unit) => (Sum.inl ()))) (by
  rintro (t | t) K h
  · exact Eq.mp (by kernel_rfl) h
  · exact Eq.mp (by kernel_rfl) h))

def spec_OrderOk_n8_l (x1276 : List Int) (x1277 : Int) (x1316 : Int) := (link_group (c := (cq [0,1,0,0,1,0,0,1,0,1] (bodyOf Try.f29))) (a := (aq [0,1,0,0,1,0,0,1,0,1] spec_OrderOk_an)) [(cq [0,0,0,1,0,0,1,0,1] (bodyOf Try.f29))] [(aq [0,0,0,1,0,0,1,0,1] spec_OrderOk_an)] rfl (link_seq2 (spec_OrderOk_n4_l x1276 x1277 x1316) (fun (t : Unit) => (spec_OrderOk_n7_l x1276 x1277 x1316)) (fun (t : Bool) => (Sum.inr t)) (by
  rintro t
  · kernel_rfl) (by
  rintro t f K h
  · exact h)))

def spec_OrderOk_n9_l (x1276 : List Int) (x1277 : Int) (x1316 : Int) := (link_block (fin2 := (Sum.elim (fun (t : Unit) => (Exit.normal, ⟨mkE 42 0 [(0, dL x1276), (1, dI x1277), (5, dI x1316)], []⟩)) (fun (t : Bool) => (Exit.ret, ⟨mkE 42 0 [(4, dB t)], []⟩)))) (id := 1) (spec_OrderOk_n8_l x1276 x1277 x1316) (Sum.elim (fun (t : Unit) => (Sum.inl ())) (fun (t : Bool) => (Sum.inr t))) (by
  rintro (t | t) K h
  · exact Eq.mp (by kernel_rfl) h
  · exact Eq.mp (by kernel_rfl) h))

theorem spec_OrderOk_n10_l (x1276 : List Int) (x1277 : Int) (x1316 : Int) : Link spec_OrderOk_ctx LL (cq [1,1,0,0,1,0,1] (bodyOf Try.f29)) (aq [1,1,0,0,1,0,1] spec_OrderOk_an) ⟨mkE 42 0 [(0, dL x1276), (1, dI x1277), (5, dI x1316)], []⟩ (spec_OrderOk_n10 x1316) (fun (t : Int) => (Exit.normal, ⟨mkE 42 0 [(0, dL x1276), (1, dI x1277), (5, dI t)], []⟩)) := by
  refine Link.of fun K h => ?_
  simp only [spec_OrderOk_n10, wpO_bind, wpO_cond, wpO_map, wpO_some] at h
  exact Awp.of (by kernel_rfl) h

def spec_OrderOk_n11_l (x1276 : List Int) (x1277 : Int) (x1316 : Int) := (link_seq2 (spec_OrderOk_n9_l x1276 x1277 x1316) (fun (t : Unit) => (link_map (fin2 := (Sum.elim (fun (t : Int) => (Exit.normal, ⟨mkE 42 0 [(0, dL x1276), (1, dI x1277), (5, dI t)], []⟩)) (fun (t : Bool) => (Exit.ret, ⟨mkE 42 0 [(4, dB t)], []⟩)))) (spec_OrderOk_n10_l x1276 x1277 x1316) (fun (t : Int) => (Sum.inl t)) (by
  rintro t
  · kernel_rfl))) (fun (t : Bool) => (Sum.inr t)) (by
  rintro t
  · kernel_rfl) (by
  rintro t f K h
  · exact h))

def spec_OrderOk_n12_l (x1276 : List Int) (x1277 : Int) (x1316 : Int) := (link_seq2 (spec_OrderOk_n3_l x1276 x1277 x1316) (fun (t : Unit) => (link_map (fin2 := (Sum.elim (fun (t : Int) => (Exit.normal, ⟨mkE 42 0 [(0, dL x1276), (1, dI x1277), (5, dI t)], []⟩)) (Sum.elim (fun (t : Bool) => (Exit.ret, ⟨mkE 42 0 [(4, dB t)], []⟩)) (fun (t : Unit) => ((Exit.exit 0), ⟨mkE 42 0 [(0, dL x1276), (1, dI x1277)], []⟩))))) (spec_OrderOk_n11_l x1276 x1277 x1316) (Sum.elim (fun (t : Int) => (Sum.inl t)) (fun (t : Bool) => (Sum.inr (Sum.inl t)))) (by
  rintro (t | t)
  · kernel_rfl
  · kernel_rfl))) (fun (t : Unit) => (Sum.inr (Sum.inr t))) (by
  rintro t
  · kernel_rfl) (by
  rintro t f K h
  · exact h))

def spec_OrderOk_n13_l (x1276 : List Int) (x1277 : Int) := (link_loop (mk := fun (s : Int) => ⟨mkE 42 0 [(0, dL x1276), (1, dI x1277), (5, dI s)], []⟩) (fin := (Sum.elim (fun (t : Bool) => (Exit.ret, ⟨mkE 42 0 [(4, dB t)], []⟩)) (fun (t : Unit) => ((Exit.exit 0), ⟨mkE 42 0 [(0, dL x1276), (1, dI x1277)], []⟩)))) (by
  rintro (t | t) f K h
  · exact h
  · exact h) (fun s => link_map (spec_OrderOk_n12_l x1276 x1277 s) (Sum.elim (fun (t : Int) => Sum.inl t) (Sum.elim (fun (t : Bool) => Sum.inr (Sum.inl t)) (fun (t : Unit) => Sum.inr (Sum.inr t)))) (by
  rintro (t | t | t)
  · kernel_rfl
  · kernel_rfl
  · kernel_rfl)) 0)

def spec_OrderOk_n14_l (x1276 : List Int) (x1277 : Int) := (link_block (fin2 := (Sum.elim (fun (t : Unit) => (Exit.normal, ⟨mkE 42 0 [(0, dL x1276), (1, dI x1277)], []⟩)) (fun (t : Bool) => (Exit.ret, ⟨mkE 42 0 [(4, dB t)], []⟩)))) (id := 0) (spec_OrderOk_n13_l x1276 x1277) (Sum.elim (fun (t : Bool) => (Sum.inr t)) (fun (t : Unit) => (Sum.inl ()))) (by
  rintro (t | t) K h
  · exact Eq.mp (by kernel_rfl) h
  · exact Eq.mp (by kernel_rfl) h))

def spec_OrderOk_n15_l (x1276 : List Int) (x1277 : Int) := (link_seq (spec_OrderOk_n2_l x1276 x1277) (fun (t : Unit) => (spec_OrderOk_n14_l x1276 x1277)))

theorem spec_OrderOk_n16_l (x1276 : List Int) (x1277 : Int) : Link spec_OrderOk_ctx LL (cq [1,1] (bodyOf Try.f29)) (aq [1,1] spec_OrderOk_an) ⟨mkE 42 0 [(0, dL x1276), (1, dI x1277)], []⟩ (spec_OrderOk_n16 x1276 x1277) (fun (t : Bool) => (Exit.ret, ⟨mkE 42 0 [(4, dB t)], []⟩)) := by
  refine Link.of fun K h => ?_
  simp only [spec_OrderOk_n16, wpO_bind, wpO_cond, wpO_map, wpO_some] at h
  exact Awp.of (by kernel_rfl) h

def spec_OrderOk_n17_l (x1276 : List Int) (x1277 : Int) := (link_seq2 (spec_OrderOk_n15_l x1276 x1277) (fun (t : Unit) => (spec_OrderOk_n16_l x1276 x1277)) (fun (t : Bool) => t) (by
  rintro t
  · kernel_rfl) (by
  rintro t f K h
  · exact h))

def spec_OrderOk_n18_l (x1276 : List Int) (x1277 : Int) := (link_seq (spec_OrderOk_n1_l x1276 x1277) (fun (t : Unit) => (spec_OrderOk_n17_l x1276 x1277)))

theorem spec_OrderOk_e (x1276 : List Int) (x1277 : Int) {r : AV} {H' : Heap} (h : (Ans.mk _ (spec_OrderOk x1276 x1277) (fun (t : Bool) => (dB t, [])) [] none).run = some (r, H')) : Awp spec_OrderOk_ctx LL (bodyOf Try.f29) spec_OrderOk_an ⟨mkE 42 0 [(0, dL x1276), (1, dI x1277)], []⟩ (Ret (tlook tys) Try.f29.results.toList r H') :=
  ret_of' (Link.cast (by kernel_rfl) (by kernel_rfl) (spec_OrderOk_n18_l x1276 x1277)) (by unfold spec_OrderOk; kernel_rfl) (by
  intro t
  exact ret_mk [dB t] (by kernel_rfl) (by kernel_rfl) (by kernel_rfl) (by kernel_rfl)) h

def F_spec_OrderOk : Fun := fun avs H =>
  match avs, H with
  | [.dat (.list (.int .i64)) x1276, .dat (.int .i64) x1277], [] => ⟨_, spec_OrderOk x1276 x1277, fun (t : Bool) => (dB t, []), [], none⟩
  | _, _ => Ans.no

theorem spec_OrderOk_sound : Sound Try.prog 29 F_spec_OrderOk := by
  refine fn_sound' (C := spec_OrderOk_ctx) (c := bodyOf Try.f29) (cok_of tys_ok (allc spec_l1In_sound alln) (allc Try.call32 alln) (by kernel_rfl)) Try.func29 (by kernel_rfl) LL spec_OrderOk_an ?_
  intro avs H r H' h
  unfold F_spec_OrderOk at h
  split at h
  · refine Awp.cast ?_ ?_ ?_ (spec_OrderOk_e _ _ h) <;> kernel_rfl
  · simp [Ans.no, Ans.run] at h


/-! loop.example/headtrees/impl.oneRoot -/

def impl_oneRoot_an : Ann := (.seq (.leaf [0]) (.seq (.leaf [0, 3]) (.seq (.seq (.leaf [0, 3, 6, 7, 8]) (.block (.loop (.seq (.leaf [0, 3, 6, 7, 8, 9]) (.seq (.cond (.leaf [0, 3, 6, 7, 8]) (.leaf [3])) (.seq (.block (.seq (.leaf [0, 3, 5, 6, 7, 8]) (.seq (.seq (.leaf [0, 3, 5, 6, 7, 8, 19]) (.cond (.seq (.leaf [2]) (.leaf [2])) (.leaf [0, 3, 5, 6, 7, 8]))) (.seq (.leaf [0, 3, 6, 7, 8, 21]) (.cond (.leaf [0, 3, 6, 7, 8]) (.leaf [0, 3, 6, 7, 8])))))) (.leaf [0, 3, 6, 7, 8]))))))) (.seq (.leaf [2]) (.leaf [2])))))

noncomputable def impl_oneRoot_ctx : Ctx := ⟨tlook tys, olook [], ioF, 0, false, []⟩

theorem impl_oneRoot_n1_l (x1448 : List Int) : Link impl_oneRoot_ctx LL (Code.seq (cq [0] (bodyOf Try.f38)) (cq [0,1] (bodyOf Try.f38))) (Ann.seq (aq [0] impl_oneRoot_an) (aq [0,1] impl_oneRoot_an)) ⟨mkE 27 0 [(0, dL x1448)], []⟩ (impl_oneRoot_n1) (fun (t : Unit) => (Exit.normal, ⟨mkE 27 0 [(0, dL x1448), (3, dI 0)], []⟩)) := by
  refine Link.of fun K h => ?_
  simp only [impl_oneRoot_n1, wpO_bind, wpO_cond, wpO_map, wpO_some] at h
  exact Awp.of (by kernel_rfl) h

theorem impl_oneRoot_n2_l (x1448 : List Int) : Link impl_oneRoot_ctx LL (cq [0,0,1,1] (bodyOf Try.f38)) (aq [0,0,1,1] impl_oneRoot_an) ⟨mkE 27 0 [(0, dL x1448), (3, dI 0)], []⟩ (impl_oneRoot_n2 x1448) (fun (t : Int) => (Exit.normal, ⟨mkE 27 0 [(0, dL x1448), (3, dI 0), (6, dL x1448), (7, dI t), (8, dI 0)], []⟩)) := by
  refine Link.of fun K h => ?_
  simp only [impl_oneRoot_n2, wpO_bind, wpO_cond, wpO_map, wpO_some] at h
  exact Awp.of (by kernel_rfl) h

theorem impl_oneRoot_n3_l (x1448 : List Int) (x1470 : Int) (x1449 : Int) (x1471 : Int) : Link impl_oneRoot_ctx LL (cq [0,0,1,0,1,1] (bodyOf Try.f38)) (aq [0,0,1,0,1,1] impl_oneRoot_an) ⟨mkE 27 0 [(0, dL x1448), (3, dI x1470), (6, dL x1448), (7, dI x1449), (8, dI x1471)], []⟩ (impl_oneRoot_n3 x1448 x1470 x1449 x1471) (Sum.elim (fun (t : Int × Int) => (Exit.normal, ⟨mkE 27 0 [(0, dL x1448), (3, dI t.1), (6, dL x1448), (7, dI x1449), (8, dI t.2)], []⟩)) (Sum.elim (fun (t : Bool) => (Exit.ret, ⟨mkE 27 0 [(2, dB t)], []⟩)) (fun (t : Int) => ((Exit.exit 0), ⟨mkE 27 0 [(3, dI t)], []⟩)))) := by
  refine Link.of fun K h => ?_
  simp only [impl_oneRoot_n3, wpO_bind, wpO_cond, wpO_map, wpO_some] at h
  exact Awp.of (by kernel_rfl) h

def impl_oneRoot_n4_l (x1448 : List Int) (x1449 : Int) := (link_loop (mk := fun (s : Int × Int) => ⟨mkE 27 0 [(0, dL x1448), (3, dI s.1), (6, dL x1448), (7, dI x1449), (8, dI s.2)], []⟩) (fin := (Sum.elim (fun (t : Bool) => (Exit.ret, ⟨mkE 27 0 [(2, dB t)], []⟩)) (fun (t : Int) => ((Exit.exit 0), ⟨mkE 27 0 [(3, dI t)], []⟩)))) (by
  rintro (t | t) f K h
  · exact h
  · exact h) (fun s => link_map (impl_oneRoot_n3_l x1448 s.1 x1449 s.2) (Sum.elim (fun (t : Int × Int) => Sum.inl (t.1, t.2)) (Sum.elim (fun (t : Bool) => Sum.inr (Sum.inl t)) (fun (t : Int) => Sum.inr (Sum.inr t)))) (by
  rintro (t | t | t)
  · kernel_rfl
  · kernel_rfl
  · kernel_rfl)) (0, 0))

def impl_oneRoot_n5_l (x1448 : List Int) (x1449 : Int) := (link_block (fin2 := (Sum.elim (fun (t : Int) => (Exit.normal, ⟨mkE 27 0 [(3, dI t)], []⟩)) (fun (t : Bool) => (Exit.ret, ⟨mkE 27 0 [(2, dB t)], []⟩)))) (id := 0) (impl_oneRoot_n4_l x1448 x1449) (Sum.elim (fun (t : Bool) => (Sum.inr t)) (fun (t : Int) => (Sum.inl t))) (by
  rintro (t | t) K h
  · exact Eq.mp (by kernel_rfl) h
  · exact Eq.mp (by kernel_rfl) h))

def impl_oneRoot_n6_l (x1448 : List Int) := (link_seq (impl_oneRoot_n2_l x1448) (fun (t : Int) => (impl_oneRoot_n5_l x1448 t)))

theorem impl_oneRoot_n7_l (x1470 : Int) : Link impl_oneRoot_ctx LL (cq [1,1,1] (bodyOf Try.f38)) (aq [1,1,1] impl_oneRoot_an) ⟨mkE 27 0 [(3, dI x1470)], []⟩ (impl_oneRoot_n7 x1470) (fun (t : Bool) => (Exit.ret, ⟨mkE 27 0 [(2, dB t)], []⟩)) := by
  refine Link.of fun K h => ?_
  simp only [impl_oneRoot_n7, wpO_bind, wpO_cond, wpO_map, wpO_some] at h
  exact Awp.of (by kernel_rfl) h

def impl_oneRoot_n8_l (x1448 : List Int) := (link_seq2 (impl_oneRoot_n6_l x1448) (fun (t : Int) => (impl_oneRoot_n7_l t)) (fun (t : Bool) => t) (by
  rintro t
  · kernel_rfl) (by
  rintro t f K h
  · exact h))

def impl_oneRoot_n9_l (x1448 : List Int) := (link_group (c := (cq [0,1] (bodyOf Try.f38))) (a := (aq [0,1] impl_oneRoot_an)) [(cq [0] (bodyOf Try.f38))] [(aq [0] impl_oneRoot_an)] rfl (link_seq (impl_oneRoot_n1_l x1448) (fun (t : Unit) => (impl_oneRoot_n8_l x1448))))

theorem impl_oneRoot_e (x1448 : List Int) {r : AV} {H' : Heap} (h : (Ans.mk _ (impl_oneRoot x1448) (fun (t : Bool) => (dB t, [])) [] none).run = some (r, H')) : Awp impl_oneRoot_ctx LL (bodyOf Try.f38) impl_oneRoot_an ⟨mkE 27 0 [(0, dL x1448)], []⟩ (Ret (tlook tys) Try.f38.results.toList r H') :=
  ret_of' (Link.cast (by kernel_rfl) (by kernel_rfl) (impl_oneRoot_n9_l x1448)) (by unfold impl_oneRoot; kernel_rfl) (by
  intro t
  exact ret_mk [dB t] (by kernel_rfl) (by kernel_rfl) (by kernel_rfl) (by kernel_rfl)) h

def F_impl_oneRoot : Fun := fun avs H =>
  match avs, H with
  | [.dat (.list (.int .i64)) x1448], [] => ⟨_, impl_oneRoot x1448, fun (t : Bool) => (dB t, []), [], none⟩
  | _, _ => Ans.no

theorem impl_oneRoot_sound : Sound Try.prog 38 F_impl_oneRoot := by
  refine fn_sound' (C := impl_oneRoot_ctx) (c := bodyOf Try.f38) (cok_of tys_ok (alln) (alln) (by kernel_rfl)) Try.func38 (by kernel_rfl) LL impl_oneRoot_an ?_
  intro avs H r H' h
  unfold F_impl_oneRoot at h
  split at h
  · refine Awp.cast ?_ ?_ ?_ (impl_oneRoot_e _ h) <;> kernel_rfl
  · simp [Ans.no, Ans.run] at h


/-! (*loop.example/headtrees/impl.walker).up -/

def impl_walker_up_an : Ann := (.seq (.leaf [0]) (.seq (.draw [] [0, 1, 2, 3, 4, 5, 6, 7, 8, 9, 10, 11] [] [0, 3]) (.seq (.seq (.leaf [0, 3, 16]) (.cond (.seq (.leaf [2]) (.leaf [2])) (.leaf [0, 3]))) (.seq (.leaf [0]) (.seq (.leaf []) (.seq (.leaf [2]) (.leaf [2])))))))

noncomputable def impl_walker_up_ctx : Ctx := ⟨tlook tys, olook [], ioF, 1, false, []⟩

theorem impl_walker_up_n1_l (x1504 : List Int) (x1505 : Int) (x1506 : Int) : Link impl_walker_up_ctx LL (bodyOf Try.f44) impl_walker_up_an ⟨mkE 28 0 [(0, .ptr 0 0)], [some (.box [dL x1504, dI x1505, dI x1506])]⟩ (impl_walker_up_n1 x1504 x1505 x1506) (fun (t : Bool × Int × Int) => (Exit.ret, ⟨mkE 28 0 [(2, dB t.1)], [some (.box [dL x1504, dI t.2.1, dI t.2.2])]⟩)) := by
  refine Link.of fun K h => ?_
  simp only [impl_walker_up_n1, wpO_bind, wpO_cond, wpO_map, wpO_some] at h
  exact Awp.of (by kernel_rfl) h

theorem impl_walker_up_e (x1504 : List Int) (x1505 : Int) (x1506 : Int) {r : AV} {H' : Heap} (h : (Ans.mk _ (impl_walker_up x1504 x1505 x1506) (fun (t : Bool × Int × Int) => (dB t.1, [some (.box [dL x1504, dI t.2.1, dI t.2.2])])) [] none).run = some (r, H')) : Awp impl_walker_up_ctx LL (bodyOf Try.f44) impl_walker_up_an ⟨mkE 28 0 [(0, .ptr 0 0)], [some (.box [dL x1504, dI x1505, dI x1506])]⟩ (Ret (tlook tys) Try.f44.results.toList r H') :=
  ret_of' (impl_walker_up_n1_l x1504 x1505 x1506) (by unfold impl_walker_up; kernel_rfl) (by
  intro t
  exact ret_mk [dB t.1] (by kernel_rfl) (by kernel_rfl) (by kernel_rfl) (by kernel_rfl)) h

def F_impl_walker_up : Fun := fun avs H =>
  match avs, H with
  | [.ptr 0 0], [some (.box [.dat (.list (.int .i64)) x1504, .dat (.int .i64) x1505, .dat (.int .i64) x1506])] => ⟨_, impl_walker_up x1504 x1505 x1506, fun (t : Bool × Int × Int) => (dB t.1, [some (.box [dL x1504, dI t.2.1, dI t.2.2])]), [], none⟩
  | _, _ => Ans.no

theorem impl_walker_up_sound : Sound Try.prog 44 F_impl_walker_up := by
  refine fn_sound' (C := impl_walker_up_ctx) (c := bodyOf Try.f44) (cok_of tys_ok (alln) (alln) (by kernel_rfl)) Try.func44 (by kernel_rfl) LL impl_walker_up_an ?_
  intro avs H r H' h
  unfold F_impl_walker_up at h
  split at h
  · refine Awp.cast ?_ ?_ ?_ (impl_walker_up_e _ _ _ h) <;> kernel_rfl
  · simp [Ans.no, Ans.run] at h


/-! loop.example/headtrees/impl.stepsToRoot -/

def impl_stepsToRoot_an : Ann := (.seq (.leaf [0, 1]) (.seq (.leaf [0, 6]) (.seq (.block (.loop (.seq (.seq (.leaf [0, 6, 10]) (.cond (.leaf [0, 6]) (.leaf [6]))) (.block (.seq (.leaf [0, 6, 15]) (.cond (.seq (.leaf [4, 5]) (.leaf [4, 5])) (.leaf [0, 6]))))))) (.seq (.leaf [4, 5]) (.leaf [4, 5])))))

noncomputable def impl_stepsToRoot_ctx : Ctx := ⟨tlook tys, olook [(44, F_impl_walker_up)], ioF, 0, false, []⟩

theorem impl_stepsToRoot_n1_l (x1502 : List Int) (x1503 : Int) : Link impl_stepsToRoot_ctx LL (Code.seq (cq [0] (bodyOf Try.f39)) (cq [0,1] (bodyOf Try.f39))) (Ann.seq (aq [0] impl_stepsToRoot_an) (aq [0,1] impl_stepsToRoot_an)) ⟨mkE 18 0 [(0, dL x1502), (1, dI x1503)], []⟩ (impl_stepsToRoot_n1) (fun (t : Unit) => (Exit.normal, ⟨mkE 18 0 [(0, dL x1502), (6, .ptr 0 0)], [some (.box [dL x1502, dI x1503, dI 0])]⟩)) := by
  refine Link.of fun K h => ?_
  simp only [impl_stepsToRoot_n1, wpO_bind, wpO_cond, wpO_map, wpO_some] at h
  exact Awp.of (by kernel_rfl) h

theorem impl_stepsToRoot_n2_l (x1502 : List Int) (x1540 : Int) (x1541 : Int) : Link impl_stepsToRoot_ctx LL (cq [0,0,0,1,1] (bodyOf Try.f39)) (aq [0,0,0,1,1] impl_stepsToRoot_an) ⟨mkE 18 0 [(0, dL x1502), (6, .ptr 0 0)], [some (.box [dL x1502, dI x1540, dI x1541])]⟩ (impl_stepsToRoot_n2 x1502 x1540 x1541) (Sum.elim (fun (t : Int × Int) => (Exit.normal, ⟨mkE 18 0 [(0, dL x1502), (6, .ptr 0 0)], [some (.box [dL x1502, dI t.1, dI t.2])]⟩)) (Sum.elim (fun (t : Int × Bool) => (Exit.ret, ⟨mkE 18 0 [(4, dI t.1), (5, dB t.2)], []⟩)) (fun (t : Int × Int) => ((Exit.exit 0), ⟨mkE 18 0 [(6, .ptr 0 0)], [some (.box [dL x1502, dI t.1, dI t.2])]⟩)))) := by
  refine Link.of fun K h => ?_
  simp only [impl_stepsToRoot_n2, wpO_bind, wpO_cond, wpO_map, wpO_some] at h
  exact Awp.of (by kernel_rfl) h

def impl_stepsToRoot_n3_l (x1502 : List Int) (x1503 : Int) := (link_loop (mk := fun (s : Int × Int) => ⟨mkE 18 0 [(0, dL x1502), (6, .ptr 0 0)], [some (.box [dL x1502, dI s.1, dI s.2])]⟩) (fin := (Sum.elim (fun (t : Int × Bool) => (Exit.ret, ⟨mkE 18 0 [(4, dI t.1), (5, dB t.2)], []⟩)) (fun (t : Int × Int) => ((Exit.exit 0), ⟨mkE 18 0 [(6, .ptr 0 0)], [some (.box [dL x1502, dI t.1, dI t.2])]⟩)))) (by
  rintro (t | t) f K h
  · exact h
  · exact h) (fun s => link_map (impl_stepsToRoot_n2_l x1502 s.1 s.2) (Sum.elim (fun (t : Int × Int) => Sum.inl (t.1, t.2)) (Sum.elim (fun (t : Int × Bool) => Sum.inr (Sum.inl t)) (fun (t : Int × Int) => Sum.inr (Sum.inr t)))) (by
  rintro (t | t | t)
  · kernel_rfl
  · kernel_rfl
  · kernel_rfl)) (x1503, 0))

def impl_stepsToRoot_n4_l (x1502 : List Int) (x1503 : Int) := (link_block (fin2 := (Sum.elim (fun (t : Int × Int) => (Exit.normal, ⟨mkE 18 0 [(6, .ptr 0 0)], [some (.box [dL x1502, dI t.1, dI t.2])]⟩)) (fun (t : Int × Bool) => (Exit.ret, ⟨mkE 18 0 [(4, dI t.1), (5, dB t.2)], []⟩)))) (id := 0) (impl_stepsToRoot_n3_l x1502 x1503) (Sum.elim (fun (t : Int × Bool) => (Sum.inr t)) (fun (t : Int × Int) => (Sum.inl (t.1, t.2)))) (by
  rintro (t | t) K h
  · exact Eq.mp (by kernel_rfl) h
  · exact Eq.mp (by kernel_rfl) h))

theorem impl_stepsToRoot_n5_l (x1502 : List Int) (x1548 : Int) (x1549 : Int) : Link impl_stepsToRoot_ctx LL (cq [1,1,1] (bodyOf Try.f39)) (aq [1,1,1] impl_stepsToRoot_an) ⟨mkE 18 0 [(6, .ptr 0 0)], [some (.box [dL x1502, dI x1548, dI x1549])]⟩ (impl_stepsToRoot_n5 x1549) (fun (t : Int × Bool) => (Exit.ret, ⟨mkE 18 0 [(4, dI t.1), (5, dB t.2)], []⟩)) := by
  refine Link.of fun K h => ?_
  simp only [impl_stepsToRoot_n5, wpO_bind, wpO_cond, wpO_map, wpO_some] at h
  exact Awp.of (by kernel_rfl) h

def impl_stepsToRoot_n6_l (x1502 : List Int) (x1503 : Int) := (link_seq2 (impl_stepsToRoot_n4_l x1502 x1503) (fun (t : Int × Int) => (impl_stepsToRoot_n5_l x1502 t.1 t.2)) (fun (t : Int × Bool) => t) (by
  rintro t
  · kernel_rfl) (by
  rintro t f K h
  · exact h))

def impl_stepsToRoot_n7_l (x1502 : List Int) (x1503 : Int) := (link_group (c := (cq [0,1] (bodyOf Try.f39))) (a := (aq [0,1] impl_stepsToRoot_an)) [(cq [0] (bodyOf Try.f39))] [(aq [0] impl_stepsToRoot_an)] rfl (link_seq (impl_stepsToRoot_n1_l x1502 x1503) (fun (t : Unit) => (impl_stepsToRoot_n6_l x1502 x1503))))

theorem impl_stepsToRoot_e (x1502 : List Int) (x1503 : Int) {r : AV} {H' : Heap} (h : (Ans.mk _ (impl_stepsToRoot x1502 x1503) (fun (t : Int × Bool) => (.tup [dI t.1, dB t.2], [])) [] none).run = some (r, H')) : Awp impl_stepsToRoot_ctx LL (bodyOf Try.f39) impl_stepsToRoot_an ⟨mkE 18 0 [(0, dL x1502), (1, dI x1503)], []⟩ (Ret (tlook tys) Try.f39.results.toList r H') :=
  ret_of' (Link.cast (by kernel_rfl) (by kernel_rfl) (impl_stepsToRoot_n7_l x1502 x1503)) (by unfold impl_stepsToRoot; kernel_rfl) (by
  intro t
  exact ret_mk [dI t.1, dB t.2] (by kernel_rfl) (by kernel_rfl) (by kernel_rfl) (by kernel_rfl)) h

def F_impl_stepsToRoot : Fun := fun avs H =>
  match avs, H with
  | [.dat (.list (.int .i64)) x1502, .dat (.int .i64) x1503], [] => ⟨_, impl_stepsToRoot x1502 x1503, fun (t : Int × Bool) => (.tup [dI t.1, dB t.2], []), [], none⟩
  | _, _ => Ans.no

theorem impl_stepsToRoot_sound : Sound Try.prog 39 F_impl_stepsToRoot := by
  refine fn_sound' (C := impl_stepsToRoot_ctx) (c := bodyOf Try.f39) (cok_of tys_ok (allc impl_walker_up_sound alln) (allc Try.call44 alln) (by kernel_rfl)) Try.func39 (by kernel_rfl) LL impl_stepsToRoot_an ?_
  intro avs H r H' h
  unfold F_impl_stepsToRoot at h
  split at h
  · refine Awp.cast ?_ ?_ ?_ (impl_stepsToRoot_e _ _ h) <;> kernel_rfl
  · simp [Ans.no, Ans.run] at h


/-! loop.example/headtrees/impl.TreeOk -/

def impl_TreeOk_an : Ann := (.seq (.leaf [0]) (.seq (.seq (.leaf [0, 18]) (.cond (.seq (.leaf [2]) (.leaf [2])) (.leaf [0]))) (.seq (.seq (.leaf [0, 20, 21]) (.block (.loop (.seq (.leaf [0, 20, 21, 22]) (.seq (.cond (.leaf [0, 20, 21]) (.leaf [])) (.seq (.block (.seq (.leaf [0, 3, 20, 21]) (.seq (.leaf [0, 5, 20, 21]) (.seq (.leaf [0, 20, 21, 32]) (.cond (.seq (.leaf [2]) (.leaf [2])) (.leaf [0, 20, 21])))))) (.leaf [0, 20, 21]))))))) (.seq (.leaf [2]) (.leaf [2])))))

noncomputable def impl_TreeOk_ctx : Ctx := ⟨tlook tys, olook [(38, F_impl_oneRoot), (39, F_impl_stepsToRoot)], ioF, 0, false, []⟩

theorem impl_TreeOk_n1_l (x1443 : List Int) : Link impl_TreeOk_ctx LL (Code.seq (cq [0] (bodyOf Try.f30)) (cq [0,1] (bodyOf Try.f30))) (Ann.seq (aq [0] impl_TreeOk_an) (aq [0,1] impl_TreeOk_an)) ⟨mkE 34 0 [(0, dL x1443)], []⟩ (impl_TreeOk_n1 x1443) (Sum.elim (fun (t : Unit) => (Exit.normal, ⟨mkE 34 0 [(0, dL x1443)], []⟩)) (fun (t : Bool) => (Exit.ret, ⟨mkE 34 0 [(2, dB t)], []⟩))) := by
  refine Link.of fun K h => ?_
  simp only [impl_TreeOk_n1, wpO_bind, wpO_cond, wpO_map, wpO_some] at h
  exact Awp.of (by kernel_rfl) h

theorem impl_TreeOk_n2_l (x1443 : List Int) : Link impl_TreeOk_ctx LL (cq [0,0,1,1] (bodyOf Try.f30)) (aq [0,0,1,1] impl_TreeOk_an) ⟨mkE 34 0 [(0, dL x1443)], []⟩ (impl_TreeOk_n2 x1443) (fun (t : Int) => (Exit.normal, ⟨mkE 34 0 [(0, dL x1443), (20, dI t), (21, dI 0)], []⟩)) := by
  refine Link.of fun K h => ?_
  simp only [impl_TreeOk_n2, wpO_bind, wpO_cond, wpO_map, wpO_some] at h
  exact Awp.of (by kernel_rfl) h

theorem impl_TreeOk_n3_l (x1443 : List Int) (x1497 : Int) (x1565 : Int) : Link impl_TreeOk_ctx LL (cq [0,0,1,0,1,1] (bodyOf Try.f30)) (aq [0,0,1,0,1,1] impl_TreeOk_an) ⟨mkE 34 0 [(0, dL x1443), (20, dI x1497), (21, dI x1565)], []⟩ (impl_TreeOk_n3 x1443 x1497 x1565) (Sum.elim (fun (t : Int) => (Exit.normal, ⟨mkE 34 0 [(0, dL x1443), (20, dI x1497), (21, dI t)], []⟩)) (Sum.elim (fun (t : Bool) => (Exit.ret, ⟨mkE 34 0 [(2, dB t)], []⟩)) (fun (t : Unit) => ((Exit.exit 0), ⟨mkE 34 0 [], []⟩)))) := by
  refine Link.of fun K h => ?_
  simp only [impl_TreeOk_n3, wpO_bind, wpO_cond, wpO_map, wpO_some] at h
  exact Awp.of (by kernel_rfl) h

def impl_TreeOk_n4_l (x1443 : List Int) (x1497 : Int) := (link_loop (mk := fun (s : Int) => ⟨mkE 34 0 [(0, dL x1443), (20, dI x1497), (21, dI s)], []⟩) (fin := (Sum.elim (fun (t : Bool) => (Exit.ret, ⟨mkE 34 0 [(2, dB t)], []⟩)) (fun (t : Unit) => ((Exit.exit 0), ⟨mkE 34 0 [], []⟩)))) (by
  rintro (t | t) f K h
  · exact h
  · exact h) (fun s => link_map (impl_TreeOk_n3_l x1443 x1497 s) (Sum.elim (fun (t : Int) => Sum.inl t) (Sum.elim (fun (t : Bool) => Sum.inr (Sum.inl t)) (fun (t : Unit) => Sum.inr (Sum.inr t)))) (by
  rintro (t | t | t)
  · kernel_rfl
  · kernel_rfl
  · kernel_rfl)) 0)

def impl_TreeOk_n5_l (x1443 : List Int) (x1497 : Int) := (link_block (fin2 := (Sum.elim (fun (t : Unit) => (Exit.normal, ⟨mkE 34 0 [], []⟩)) (fun (t : Bool) => (Exit.ret, ⟨mkE 34 0 [(2, dB t)], []⟩)))) (id := 0) (impl_TreeOk_n4_l x1443 x1497) (Sum.elim (fun (t : Bool) => (Sum.inr t)) (fun (t : Unit) => (Sum.inl ()))) (by
  rintro (t | t) K h
  · exact Eq.mp (by kernel_rfl) h
  · exact Eq.mp (by kernel_rfl) h))

def impl_TreeOk_n6_l (x1443 : List Int) := (link_seq (impl_TreeOk_n2_l x1443) (fun (t : Int) => (impl_TreeOk_n5_l x1443 t)))

theorem impl_TreeOk_n7_l : Link impl_TreeOk_ctx LL (cq [1,1,1] (bodyOf Try.f30)) (aq [1,1,1] impl_TreeOk_an) ⟨mkE 34 0 [], []⟩ (impl_TreeOk_n7) (fun (t : Bool) => (Exit.ret, ⟨mkE 34 0 [(2, dB t)], []⟩)) := by
  refine Link.of fun K h => ?_
  simp only [impl_TreeOk_n7, wpO_bind, wpO_cond, wpO_map, wpO_some] at h
  exact Awp.of (by kernel_rfl) h

def impl_TreeOk_n8_l (x1443 : List Int) := (link_seq2 (impl_TreeOk_n6_l x1443) (fun (t : Unit) => (impl_TreeOk_n7_l)) (fun (t : Bool) => t) (by
  rintro t
  · kernel_rfl) (by
  rintro t f K h
  · exact h))

def impl_TreeOk_n9_l (x1443 : List Int) := (link_group (c := (cq [0,1] (bodyOf Try.f30))) (a := (aq [0,1] impl_TreeOk_an)) [(cq [0] (bodyOf Try.f30))] [(aq [0] impl_TreeOk_an)] rfl (link_seq2 (impl_TreeOk_n1_l x1443) (fun (t : Unit) => (impl_TreeOk_n8_l x1443)) (fun (t : Bool) => t) (by
  rintro t
  · kernel_rfl) (by
  rintro t f K h
  · exact h)))

theorem impl_TreeOk_e (x1443 : List Int) {r : AV} {H' : Heap} (h : (Ans.mk _ (impl_TreeOk x1443) (fun (t : Bool) => (dB t, [])) [] none).run = some (r, H')) : Awp impl_TreeOk_ctx LL (bodyOf Try.f30) impl_TreeOk_an ⟨mkE 34 0 [(0, dL x1443)], []⟩ (Ret (tlook tys) Try.f30.results.toList r H') :=
  ret_of' (Link.cast (by kernel_rfl) (by kernel_rfl) (impl_TreeOk_n9_l x1443)) (by unfold impl_TreeOk; kernel_rfl) (by
  intro t
  exact ret_mk [dB t] (by kernel_rfl) (by kernel_rfl) (by kernel_rfl) (by kernel_rfl)) h

def F_impl_TreeOk : Fun := fun avs H =>
  match avs, H with
  | [.dat (.list (.int .i64)) x1443], [] => ⟨_, impl_TreeOk x1443, fun (t : Bool) => (dB t, []), [], none⟩
  | _, _ => Ans.no

theorem impl_TreeOk_sound : Sound Try.prog 30 F_impl_TreeOk := by
  refine fn_sound' (C := impl_TreeOk_ctx) (c := bodyOf Try.f30) (cok_of tys_ok (allc impl_oneRoot_sound (allc impl_stepsToRoot_sound alln)) (allc Try.call38 (allc Try.call39 alln)) (by kernel_rfl)) Try.func30 (by kernel_rfl) LL impl_TreeOk_an ?_
  intro avs H r H' h
  unfold F_impl_TreeOk at h
  split at h
  · refine Awp.cast ?_ ?_ ?_ (impl_TreeOk_e _ h) <;> kernel_rfl
  · simp [Ans.no, Ans.run] at h


/-! loop.example/headtrees/laws.alive -/

def laws_alive_an : Ann := (.seq (.leaf []) (.seq (.leaf [0]) (.leaf [0])))

noncomputable def laws_alive_ctx : Ctx := ⟨tlook tys, olook [(30, F_impl_TreeOk)], ioF, 0, false, []⟩

theorem laws_alive_n1_l : Link laws_alive_ctx LL (bodyOf Try.f11) laws_alive_an ⟨mkE 8 0 [], []⟩ (laws_alive_n1) (fun (t : Bool) => (Exit.ret, ⟨mkE 8 0 [(0, dB t)], []⟩)) := by
  refine Link.of fun K h => ?_
  simp only [laws_alive_n1, wpO_bind, wpO_cond, wpO_map, wpO_some] at h
  exact Awp.of (by kernel_rfl) h

theorem laws_alive_e {r : AV} {H' : Heap} (h : (Ans.mk _ (laws_alive) (fun (t : Bool) => (dB t, [])) [] none).run = some (r, H')) : Awp laws_alive_ctx LL (bodyOf Try.f11) laws_alive_an ⟨mkE 8 0 [], []⟩ (Ret (tlook tys) Try.f11.results.toList r H') :=
  ret_of' (laws_alive_n1_l) (by unfold laws_alive; kernel_rfl) (by
  intro t
  exact ret_mk [dB t] (by kernel_rfl) (by kernel_rfl) (by kernel_rfl) (by kernel_rfl)) h

def F_laws_alive : Fun := fun avs H =>
  match avs, H with
  | [], [] => ⟨_, laws_alive, fun (t : Bool) => (dB t, []), [], none⟩
  | _, _ => Ans.no

theorem laws_alive_sound : Sound Try.prog 11 F_laws_alive := by
  refine fn_sound' (C := laws_alive_ctx) (c := bodyOf Try.f11) (cok_of tys_ok (allc impl_TreeOk_sound alln) (allc Try.call30 alln) (by kernel_rfl)) Try.func11 (by kernel_rfl) LL laws_alive_an ?_
  intro avs H r H' h
  unfold F_laws_alive at h
  split at h
  · refine Awp.cast ?_ ?_ ?_ (laws_alive_e h) <;> kernel_rfl
  · simp [Ans.no, Ans.run] at h


/-! loop.example/headtrees/spec.DrawExchangedAt -/

def spec_DrawExchangedAt_an : Ann := (.seq (.leaf [0]) (.seq (.leaf [4]) (.seq (.leaf [4, 5]) (.seq (.seq (.leaf [4, 5, 14]) (.cond (.leaf [4, 5]) (.leaf [4, 5]))) (.seq (.leaf [2, 3]) (.leaf [2, 3]))))))

noncomputable def spec_DrawExchangedAt_ctx : Ctx := ⟨tlook tys, olook [(24, F_spec_l20Open), (26, F_spec_l20Rd_pick), (25, F_spec_l20Order), (27, F_spec_l20Rd_odd)], ioF, 0, false, []⟩

theorem spec_DrawExchangedAt_n1_l (x1702 : List Int) : Link spec_DrawExchangedAt_ctx LL (bodyOf Try.f13) spec_DrawExchangedAt_an ⟨mkE 27 0 [(0, dV x1702)], []⟩ (spec_DrawExchangedAt_n1 x1702) (fun (t : Int × (List Int)) => (Exit.ret, ⟨mkE 27 0 [(2, .slc 0), (3, dI t.1)], [some (sI t.2)]⟩)) := by
  refine Link.of fun K h => ?_
  simp only [spec_DrawExchangedAt_n1, wpO_bind, wpO_cond, wpO_map, wpO_some] at h
  exact Awp.of (by kernel_rfl) h

theorem spec_DrawExchangedAt_e (x1702 : List Int) {r : AV} {H' : Heap} (h : (Ans.mk _ (spec_DrawExchangedAt x1702) (fun (t : Int × (List Int)) => (.tup [.slc 0, dI t.1], [some (sI t.2)])) [] none).run = some (r, H')) : Awp spec_DrawExchangedAt_ctx LL (bodyOf Try.f13) spec_DrawExchangedAt_an ⟨mkE 27 0 [(0, dV x1702)], []⟩ (Ret (tlook tys) Try.f13.results.toList r H') :=
  ret_of' (spec_DrawExchangedAt_n1_l x1702) (by unfold spec_DrawExchangedAt; kernel_rfl) (by
  intro t
  exact ret_mk [.slc 0, dI t.1] (by kernel_rfl) (by kernel_rfl) (by kernel_rfl) (by kernel_rfl)) h

def F_spec_DrawExchangedAt : Fun := fun avs H =>
  match avs, H with
  | [.dat (.list (.int .u8)) x1702], [] => ⟨_, spec_DrawExchangedAt x1702, fun (t : Int × (List Int)) => (.tup [.slc 0, dI t.1], [some (sI t.2)]), [], none⟩
  | _, _ => Ans.no

theorem spec_DrawExchangedAt_sound : Sound Try.prog 13 F_spec_DrawExchangedAt := by
  refine fn_sound' (C := spec_DrawExchangedAt_ctx) (c := bodyOf Try.f13) (cok_of tys_ok (allc spec_l20Open_sound (allc spec_l20Rd_pick_sound (allc spec_l20Order_sound (allc spec_l20Rd_odd_sound alln)))) (allc Try.call24 (allc Try.call26 (allc Try.call25 (allc Try.call27 alln)))) (by kernel_rfl)) Try.func13 (by kernel_rfl) LL spec_DrawExchangedAt_an ?_
  intro avs H r H' h
  unfold F_spec_DrawExchangedAt at h
  split at h
  · refine Awp.cast ?_ ?_ ?_ (spec_DrawExchangedAt_e _ h) <;> kernel_rfl
  · simp [Ans.no, Ans.run] at h


/-! slices.Clone[[]int,int] -/

def slices_Clone_int_int_an : Ann := (.seq (.leaf [0]) (.seq (.seq (.leaf [0, 4]) (.cond (.seq (.leaf [2]) (.leaf [2])) (.leaf [0]))) (.seq (.leaf [2]) (.leaf [2]))))

noncomputable def slices_Clone_int_int_ctx : Ctx := ⟨tlook tys, olook [], ioF, 0, false, []⟩

theorem slices_Clone_int_int_n1_l (x1819 : List Int) : Link slices_Clone_int_int_ctx LL (bodyOf Try.f31) slices_Clone_int_int_an ⟨mkE 8 0 [(0, dL x1819)], []⟩ (slices_Clone_int_int_n1 x1819) (fun (t : (List Int)) => (Exit.ret, ⟨mkE 8 0 [(2, .slc 0)], [some (sI t)]⟩)) := by
  refine Link.of fun K h => ?_
  simp only [slices_Clone_int_int_n1, wpO_bind, wpO_cond, wpO_map, wpO_some] at h
  exact Awp.of (by kernel_rfl) h

theorem slices_Clone_int_int_e (x1819 : List Int) {r : AV} {H' : Heap} (h : (Ans.mk _ (slices_Clone_int_int x1819) (fun (t : (List Int)) => (.slc 0, [some (sI t)])) [] none).run = some (r, H')) : Awp slices_Clone_int_int_ctx LL (bodyOf Try.f31) slices_Clone_int_int_an ⟨mkE 8 0 [(0, dL x1819)], []⟩ (Ret (tlook tys) Try.f31.results.toList r H') :=
  ret_of' (slices_Clone_int_int_n1_l x1819) (by unfold slices_Clone_int_int; kernel_rfl) (by
  intro t
  exact ret_mk [.slc 0] (by kernel_rfl) (by kernel_rfl) (by kernel_rfl) (by kernel_rfl)) h

def F_slices_Clone_int_int : Fun := fun avs H =>
  match avs, H with
  | [.dat (.list (.int .i64)) x1819], [] => ⟨_, slices_Clone_int_int x1819, fun (t : (List Int)) => (.slc 0, [some (sI t)]), [], none⟩
  | _, _ => Ans.no

theorem slices_Clone_int_int_sound : Sound Try.prog 31 F_slices_Clone_int_int := by
  refine fn_sound' (C := slices_Clone_int_int_ctx) (c := bodyOf Try.f31) (cok_of tys_ok (alln) (alln) (by kernel_rfl)) Try.func31 (by kernel_rfl) LL slices_Clone_int_int_an ?_
  intro avs H r H' h
  unfold F_slices_Clone_int_int at h
  split at h
  · refine Awp.cast ?_ ?_ ?_ (slices_Clone_int_int_e _ h) <;> kernel_rfl
  · simp [Ans.no, Ans.run] at h


/-! loop.example/headtrees/impl.ExchangedAt -/

def impl_ExchangedAt_an : Ann := (.seq (.leaf [0, 1]) (.seq (.seq (.leaf [0, 1, 22]) (.cond (.seq (.leaf [4, 5]) (.leaf [4, 5])) (.leaf [0, 1]))) (.seq (.leaf [0, 1, 6]) (.seq (.draw [] [0, 1, 2, 3, 4, 5, 6, 7, 8, 9, 10, 11, 12, 13, 14, 15, 16, 17] [] [6]) (.seq (.leaf [4, 5]) (.leaf [4, 5]))))))

noncomputable def impl_ExchangedAt_ctx : Ctx := ⟨tlook tys, olook [(17, F_impl_OrderOk), (31, F_slices_Clone_int_int)], ioF, 0, false, []⟩

theorem impl_ExchangedAt_n1_l (x1803 : List Int) (x1804 : Int) : Link impl_ExchangedAt_ctx LL (bodyOf Try.f14) impl_ExchangedAt_an ⟨mkE 42 0 [(0, dL x1803), (1, dI x1804)], []⟩ (impl_ExchangedAt_n1 x1803 x1804) (fun (t : Bool × (List Int)) => (Exit.ret, ⟨mkE 42 0 [(4, .slc 0), (5, dB t.1)], [some (sI t.2)]⟩)) := by
  refine Link.of fun K h => ?_
  simp only [impl_ExchangedAt_n1, wpO_bind, wpO_cond, wpO_map, wpO_some] at h
  exact Awp.of (by kernel_rfl) h

theorem impl_ExchangedAt_e (x1803 : List Int) (x1804 : Int) {r : AV} {H' : Heap} (h : (Ans.mk _ (impl_ExchangedAt x1803 x1804) (fun (t : Bool × (List Int)) => (.tup [.slc 0, dB t.1], [some (sI t.2)])) [] none).run = some (r, H')) : Awp impl_ExchangedAt_ctx LL (bodyOf Try.f14) impl_ExchangedAt_an ⟨mkE 42 0 [(0, dL x1803), (1, dI x1804)], []⟩ (Ret (tlook tys) Try.f14.results.toList r H') :=
  ret_of' (impl_ExchangedAt_n1_l x1803 x1804) (by unfold impl_ExchangedAt; kernel_rfl) (by
  intro t
  exact ret_mk [.slc 0, dB t.1] (by kernel_rfl) (by kernel_rfl) (by kernel_rfl) (by kernel_rfl)) h

def F_impl_ExchangedAt : Fun := fun avs H =>
  match avs, H with
  | [.dat (.list (.int .i64)) x1803, .dat (.int .i64) x1804], [] => ⟨_, impl_ExchangedAt x1803 x1804, fun (t : Bool × (List Int)) => (.tup [.slc 0, dB t.1], [some (sI t.2)]), [], none⟩
  | _, _ => Ans.no

theorem impl_ExchangedAt_sound : Sound Try.prog 14 F_impl_ExchangedAt := by
  refine fn_sound' (C := impl_ExchangedAt_ctx) (c := bodyOf Try.f14) (cok_of tys_ok (allc impl_OrderOk_sound (allc slices_Clone_int_int_sound alln)) (allc Try.call17 (allc Try.call31 alln)) (by kernel_rfl)) Try.func14 (by kernel_rfl) LL impl_ExchangedAt_an ?_
  intro avs H r H' h
  unfold F_impl_ExchangedAt at h
  split at h
  · refine Awp.cast ?_ ?_ ?_ (impl_ExchangedAt_e _ _ h) <;> kernel_rfl
  · simp [Ans.no, Ans.run] at h


/-! loop.example/headtrees/spec.ExchangedAt -/

def spec_ExchangedAt_an : Ann := (.seq (.leaf [0, 1]) (.seq (.seq (.leaf [0, 1, 20]) (.cond (.seq (.leaf [4, 5]) (.leaf [4, 5])) (.leaf [0, 1]))) (.seq (.leaf [1, 6]) (.seq (.leaf [1, 6, 7]) (.seq (.leaf [1, 6, 7]) (.seq (.leaf [6]) (.seq (.leaf [4, 5]) (.leaf [4, 5]))))))))

noncomputable def spec_ExchangedAt_ctx : Ctx := ⟨tlook tys, olook [(29, F_spec_OrderOk), (32, F_spec_l1In)], ioF, 0, false, []⟩

theorem spec_ExchangedAt_n1_l (x1891 : List Int) (x1892 : Int) : Link spec_ExchangedAt_ctx LL (bodyOf Try.f15) spec_ExchangedAt_an ⟨mkE 43 0 [(0, dL x1891), (1, dI x1892)], []⟩ (spec_ExchangedAt_n1 x1891 x1892) (fun (t : Bool × (List Int)) => (Exit.ret, ⟨mkE 43 0 [(4, .slc 0), (5, dB t.1)], [some (sI t.2)]⟩)) := by
  refine Link.of fun K h => ?_
  simp only [spec_ExchangedAt_n1, wpO_bind, wpO_cond, wpO_map, wpO_some] at h
  exact Awp.of (by kernel_rfl) h

theorem spec_ExchangedAt_e (x1891 : List Int) (x1892 : Int) {r : AV} {H' : Heap} (h : (Ans.mk _ (spec_ExchangedAt x1891 x1892) (fun (t : Bool × (List Int)) => (.tup [.slc 0, dB t.1], [some (sI t.2)])) [] none).run = some (r, H')) : Awp spec_ExchangedAt_ctx LL (bodyOf Try.f15) spec_ExchangedAt_an ⟨mkE 43 0 [(0, dL x1891), (1, dI x1892)], []⟩ (Ret (tlook tys) Try.f15.results.toList r H') :=
  ret_of' (spec_ExchangedAt_n1_l x1891 x1892) (by unfold spec_ExchangedAt; kernel_rfl) (by
  intro t
  exact ret_mk [.slc 0, dB t.1] (by kernel_rfl) (by kernel_rfl) (by kernel_rfl) (by kernel_rfl)) h

def F_spec_ExchangedAt : Fun := fun avs H =>
  match avs, H with
  | [.dat (.list (.int .i64)) x1891, .dat (.int .i64) x1892], [] => ⟨_, spec_ExchangedAt x1891 x1892, fun (t : Bool × (List Int)) => (.tup [.slc 0, dB t.1], [some (sI t.2)]), [], none⟩
  | _, _ => Ans.no

theorem spec_ExchangedAt_sound : Sound Try.prog 15 F_spec_ExchangedAt := by
  refine fn_sound' (C := spec_ExchangedAt_ctx) (c := bodyOf Try.f15) (cok_of tys_ok (allc spec_OrderOk_sound (allc spec_l1In_sound alln)) (allc Try.call29 (allc Try.call32 alln)) (by kernel_rfl)) Try.func15 (by kernel_rfl) LL spec_ExchangedAt_an ?_
  intro avs H r H' h
  unfold F_spec_ExchangedAt at h
  split at h
  · refine Awp.cast ?_ ?_ ?_ (spec_ExchangedAt_e _ _ h) <;> kernel_rfl
  · simp [Ans.no, Ans.run] at h


/-! loop.example/headtrees/laws.sameInts -/

def laws_sameInts_an : Ann := (.seq (.leaf [0, 1]) (.seq (.seq (.leaf [0, 1, 10]) (.cond (.seq (.leaf [4]) (.leaf [4])) (.leaf [0, 1]))) (.seq (.seq (.leaf [0, 1, 5]) (.block (.loop (.seq (.seq (.leaf [0, 1, 5, 14]) (.cond (.leaf [0, 1, 5]) (.leaf []))) (.seq (.block (.seq (.draw [] [0, 1, 2, 3, 4, 5, 6, 7, 8] [] [0, 1, 5, 25]) (.cond (.seq (.leaf [4]) (.leaf [4])) (.leaf [0, 1, 5])))) (.leaf [0, 1, 5])))))) (.seq (.leaf [4]) (.leaf [4])))))

noncomputable def laws_sameInts_ctx : Ctx := ⟨tlook tys, olook [], ioF, 0, false, []⟩

theorem laws_sameInts_n1_l (x2015 : List Int) (x2016 : List Int) : Link laws_sameInts_ctx LL (Code.seq (cq [0] (bodyOf Try.f16)) (cq [0,1] (bodyOf Try.f16))) (Ann.seq (aq [0] laws_sameInts_an) (aq [0,1] laws_sameInts_an)) ⟨mkE 26 0 [(0, dL x2015), (1, dL x2016)], []⟩ (laws_sameInts_n1 x2015 x2016) (Sum.elim (fun (t : Unit) => (Exit.normal, ⟨mkE 26 0 [(0, dL x2015), (1, dL x2016)], []⟩)) (fun (t : Bool) => (Exit.ret, ⟨mkE 26 0 [(4, dB t)], []⟩))) := by
  refine Link.of fun K h => ?_
  simp only [laws_sameInts_n1, wpO_bind, wpO_cond, wpO_map, wpO_some] at h
  exact Awp.of (by kernel_rfl) h

theorem laws_sameInts_n2_l (x2015 : List Int) (x2016 : List Int) : Link laws_sameInts_ctx LL (cq [0,0,1,1] (bodyOf Try.f16)) (aq [0,0,1,1] laws_sameInts_an) ⟨mkE 26 0 [(0, dL x2015), (1, dL x2016)], []⟩ (laws_sameInts_n2) (fun (t : Unit) => (Exit.normal, ⟨mkE 26 0 [(0, dL x2015), (1, dL x2016), (5, dI 0)], []⟩)) := by
  refine Link.of fun K h => ?_
  simp only [laws_sameInts_n2, wpO_bind, wpO_cond, wpO_map, wpO_some] at h
  exact Awp.of (by kernel_rfl) h

theorem laws_sameInts_n3_l (x2015 : List Int) (x2016 : List Int) (x2033 : Int) : Link laws_sameInts_ctx LL (cq [0,0,1,0,1,1] (bodyOf Try.f16)) (aq [0,0,1,0,1,1] laws_sameInts_an) ⟨mkE 26 0 [(0, dL x2015), (1, dL x2016), (5, dI x2033)], []⟩ (laws_sameInts_n3 x2015 x2016 x2033) (Sum.elim (fun (t : Int) => (Exit.normal, ⟨mkE 26 0 [(0, dL x2015), (1, dL x2016), (5, dI t)], []⟩)) (Sum.elim (fun (t : Bool) => (Exit.ret, ⟨mkE 26 0 [(4, dB t)], []⟩)) (fun (t : Unit) => ((Exit.exit 0), ⟨mkE 26 0 [], []⟩)))) := by
  refine Link.of fun K h => ?_
  simp only [laws_sameInts_n3, wpO_bind, wpO_cond, wpO_map, wpO_some] at h
  exact Awp.of (by kernel_rfl) h

def laws_sameInts_n4_l (x2015 : List Int) (x2016 : List Int) := (link_loop (mk := fun (s : Int) => ⟨mkE 26 0 [(0, dL x2015), (1, dL x2016), (5, dI s)], []⟩) (fin := (Sum.elim (fun (t : Bool) => (Exit.ret, ⟨mkE 26 0 [(4, dB t)], []⟩)) (fun (t : Unit) => ((Exit.exit 0), ⟨mkE 26 0 [], []⟩)))) (by
  rintro (t | t) f K h
  · exact h
  · exact h) (fun s => link_map (laws_sameInts_n3_l x2015 x2016 s) (Sum.elim (fun (t : Int) => Sum.inl t) (Sum.elim (fun (t : Bool) => Sum.inr (Sum.inl t)) (fun (t : Unit) => Sum.inr (Sum.inr t)))) (by
  rintro (t | t | t)
  · kernel_rfl
  · kernel_rfl
  · kernel_rfl)) 0)

def laws_sameInts_n5_l (x2015 : List Int) (x2016 : List Int) := (link_block (fin2 := (Sum.elim (fun (t : Unit) => (Exit.normal, ⟨mkE 26 0 [], []⟩)) (fun (t : Bool) => (Exit.ret, ⟨mkE 26 0 [(4, dB t)], []⟩)))) (id := 0) (laws_sameInts_n4_l x2015 x2016) (Sum.elim (fun (t : Bool) => (Sum.inr t)) (fun (t : Unit) => (Sum.inl ()))) (by
  rintro (t | t) K h
  · exact Eq.mp (by kernel_rfl) h
  · exact Eq.mp (by kernel_rfl) h))

def laws_sameInts_n6_l (x2015 : List Int) (x2016 : List Int) := (link_seq (laws_sameInts_n2_l x2015 x2016) (fun (t : Unit) => (laws_sameInts_n5_l x2015 x2016)))

theorem laws_sameInts_n7_l : Link laws_sameInts_ctx LL (cq [1,1,1] (bodyOf Try.f16)) (aq [1,1,1] laws_sameInts_an) ⟨mkE 26 0 [], []⟩ (laws_sameInts_n7) (fun (t : Bool) => (Exit.ret, ⟨mkE 26 0 [(4, dB t)], []⟩)) := by
  refine Link.of fun K h => ?_
  simp only [laws_sameInts_n7, wpO_bind, wpO_cond, wpO_map, wpO_some] at h
  exact Awp.of (by kernel_rfl) h

def laws_sameInts_n8_l (x2015 : List Int) (x2016 : List Int) := (link_seq2 (laws_sameInts_n6_l x2015 x2016) (fun (t : Unit) => (laws_sameInts_n7_l)) (fun (t : Bool) => t) (by
  rintro t
  · kernel_rfl) (by
  rintro t f K h
  · exact h))

def laws_sameInts_n9_l (x2015 : List Int) (x2016 : List Int) := (link_group (c := (cq [0,1] (bodyOf Try.f16))) (a := (aq [0,1] laws_sameInts_an)) [(cq [0] (bodyOf Try.f16))] [(aq [0] laws_sameInts_an)] rfl (link_seq2 (laws_sameInts_n1_l x2015 x2016) (fun (t : Unit) => (laws_sameInts_n8_l x2015 x2016)) (fun (t : Bool) => t) (by
  rintro t
  · kernel_rfl) (by
  rintro t f K h
  · exact h)))

theorem laws_sameInts_e (x2015 : List Int) (x2016 : List Int) {r : AV} {H' : Heap} (h : (Ans.mk _ (laws_sameInts x2015 x2016) (fun (t : Bool) => (dB t, [])) [] none).run = some (r, H')) : Awp laws_sameInts_ctx LL (bodyOf Try.f16) laws_sameInts_an ⟨mkE 26 0 [(0, dL x2015), (1, dL x2016)], []⟩ (Ret (tlook tys) Try.f16.results.toList r H') :=
  ret_of' (Link.cast (by kernel_rfl) (by kernel_rfl) (laws_sameInts_n9_l x2015 x2016)) (by unfold laws_sameInts; kernel_rfl) (by
  intro t
  exact ret_mk [dB t] (by kernel_rfl) (by kernel_rfl) (by kernel_rfl) (by kernel_rfl)) h

def F_laws_sameInts : Fun := fun avs H =>
  match avs, H with
  | [.dat (.list (.int .i64)) x2015, .dat (.list (.int .i64)) x2016], [] => ⟨_, laws_sameInts x2015 x2016, fun (t : Bool) => (dB t, []), [], none⟩
  | _, _ => Ans.no

theorem laws_sameInts_sound : Sound Try.prog 16 F_laws_sameInts := by
  refine fn_sound' (C := laws_sameInts_ctx) (c := bodyOf Try.f16) (cok_of tys_ok (alln) (alln) (by kernel_rfl)) Try.func16 (by kernel_rfl) LL laws_sameInts_an ?_
  intro avs H r H' h
  unfold F_laws_sameInts at h
  split at h
  · refine Awp.cast ?_ ?_ ?_ (laws_sameInts_e _ _ h) <;> kernel_rfl
  · simp [Ans.no, Ans.run] at h


/-! loop.example/headtrees/laws.FnExchangedAt -/

def laws_FnExchangedAt_an : Ann := (.seq (.leaf [0]) (.seq (.seq (.leaf [0, 14]) (.cond (.seq (.leaf [2]) (.leaf [2])) (.leaf [0]))) (.seq (.leaf [3, 4]) (.seq (.leaf [3, 4, 5, 6]) (.seq (.leaf [3, 4, 5, 6, 7, 8]) (.seq (.seq (.leaf [3, 4, 5, 6, 40]) (.cond (.seq (.leaf [2]) (.leaf [2])) (.leaf [3, 4, 5, 6]))) (.seq (.seq (.leaf [3, 4, 5, 42]) (.cond (.seq (.leaf [2]) (.leaf [2])) (.leaf [3, 4, 5]))) (.seq (.leaf [3, 4, 5, 9]) (.seq (.seq (.draw [] [0, 1, 2, 3, 4, 5, 6, 7, 8, 9] [] [3, 4, 5, 9, 58]) (.cond (.leaf [3, 4, 5, 9]) (.leaf [3, 4, 5, 9]))) (.seq (.leaf [3, 5, 9, 10, 11]) (.seq (.leaf [2]) (.leaf [2]))))))))))))

noncomputable def laws_FnExchangedAt_ctx : Ctx := ⟨tlook tys, olook [(13, F_spec_DrawExchangedAt), (14, F_impl_ExchangedAt), (15, F_spec_ExchangedAt), (16, F_laws_sameInts), (11, F_laws_alive), (17, F_impl_OrderOk), (9, F_impl_CountTurned)], ioF, 0, false, []⟩

theorem laws_FnExchangedAt_n1_l (x1697 : List Int) : Link laws_FnExchangedAt_ctx LL (bodyOf Try.f4) laws_FnExchangedAt_an ⟨mkE 86 0 [(0, dV x1697)], []⟩ (laws_FnExchangedAt_n1 x1697) (fun (t : Bool) => (Exit.ret, ⟨mkE 86 0 [(2, dB t)], []⟩)) := by
  refine Link.of fun K h => ?_
  simp only [laws_FnExchangedAt_n1, wpO_bind, wpO_cond, wpO_map, wpO_some] at h
  exact Awp.of (by kernel_rfl) h

theorem laws_FnExchangedAt_e (x1697 : List Int) {r : AV} {H' : Heap} (h : (Ans.mk _ (laws_FnExchangedAt x1697) (fun (t : Bool) => (dB t, [])) [] none).run = some (r, H')) : Awp laws_FnExchangedAt_ctx LL (bodyOf Try.f4) laws_FnExchangedAt_an ⟨mkE 86 0 [(0, dV x1697)], []⟩ (Ret (tlook tys) Try.f4.results.toList r H') :=
  ret_of' (laws_FnExchangedAt_n1_l x1697) (by unfold laws_FnExchangedAt; kernel_rfl) (by
  intro t
  exact ret_mk [dB t] (by kernel_rfl) (by kernel_rfl) (by kernel_rfl) (by kernel_rfl)) h

def F_laws_FnExchangedAt : Fun := fun avs H =>
  match avs, H with
  | [.dat (.list (.int .u8)) x1697], [] => ⟨_, laws_FnExchangedAt x1697, fun (t : Bool) => (dB t, []), [], none⟩
  | _, _ => Ans.no

theorem laws_FnExchangedAt_sound : Sound Try.prog 4 F_laws_FnExchangedAt := by
  refine fn_sound' (C := laws_FnExchangedAt_ctx) (c := bodyOf Try.f4) (cok_of tys_ok (allc spec_DrawExchangedAt_sound (allc impl_ExchangedAt_sound (allc spec_ExchangedAt_sound (allc laws_sameInts_sound (allc laws_alive_sound (allc impl_OrderOk_sound (allc impl_CountTurned_sound alln))))))) (allc Try.call13 (allc Try.call14 (allc Try.call15 (allc Try.call16 (allc Try.call11 (allc Try.call17 (allc Try.call9 alln))))))) (by kernel_rfl)) Try.func4 (by kernel_rfl) LL laws_FnExchangedAt_an ?_
  intro avs H r H' h
  unfold F_laws_FnExchangedAt at h
  split at h
  · refine Awp.cast ?_ ?_ ?_ (laws_FnExchangedAt_e _ h) <;> kernel_rfl
  · simp [Ans.no, Ans.run] at h


end Go.Rv
