/-
  The checked code answers as the plain functions do; written by program. Conditions: none.
-/
import Derived.Test.YtihgceegapfngabGFnDeskOk
import Derived.Test.YtihgceegapfngabProg
set_option linter.unusedVariables false
set_option linter.unusedSimpArgs false
set_option linter.defProp false
set_option maxRecDepth 100000
namespace Go.Rv
open Go.Proofs
theorem ty3 : TIOk Try.prog 3 ⟨.int .i64, 1, 8, some (.int .i64), [.int .i64 0], false⟩ := ⟨⟨infoOf (Try.prog.info? 3), by kernel_rfl, by kernel_rfl, by kernel_rfl, .int .i64 0, by kernel_rfl, by kernel_rfl⟩, (by kernel_rfl : Try.prog.underlying 3 = some (.int .i64)), no_eq⟩
theorem ty4 : TIOk Try.prog 4 ⟨.bool, 1, 1, some .bool, [.bool false], false⟩ := ⟨⟨infoOf (Try.prog.info? 4), by kernel_rfl, by kernel_rfl, by kernel_rfl, .bool false, by kernel_rfl, by kernel_rfl⟩, (by kernel_rfl : Try.prog.underlying 4 = some .bool), no_eq⟩
theorem ty5 : TIOk Try.prog 5 ⟨.int .u8, 1, 1, some (.int .u8), [.int .u8 0], false⟩ := ⟨⟨infoOf (Try.prog.info? 5), by kernel_rfl, by kernel_rfl, by kernel_rfl, .int .u8 0, by kernel_rfl, by kernel_rfl⟩, (by kernel_rfl : Try.prog.underlying 5 = some (.int .u8)), no_eq⟩
theorem ty22 : TIOk Try.prog 22 ⟨.slice 5, 1, 24, some (.list (.int .u8)), [.slice none 0 0], false⟩ := ⟨⟨infoOf (Try.prog.info? 22), by kernel_rfl, by kernel_rfl, by kernel_rfl, .slice none 0 0, by kernel_rfl, by kernel_rfl⟩, (by kernel_rfl : Try.prog.underlying 22 = some (.slice 5)), no_eq⟩
theorem ty23 : TIOk Try.prog 23 ⟨.slice 3, 1, 24, some (.list (.int .i64)), [.slice none 0 0], false⟩ := ⟨⟨infoOf (Try.prog.info? 23), by kernel_rfl, by kernel_rfl, by kernel_rfl, .slice none 0 0, by kernel_rfl, by kernel_rfl⟩, (by kernel_rfl : Try.prog.underlying 23 = some (.slice 3)), no_eq⟩
theorem ty24 : TIOk Try.prog 24 ⟨.slice 23, 1, 24, some (.list (.list (.int .i64))), [.slice none 0 0], false⟩ := ⟨⟨infoOf (Try.prog.info? 24), by kernel_rfl, by kernel_rfl, by kernel_rfl, .slice none 0 0, by kernel_rfl, by kernel_rfl⟩, (by kernel_rfl : Try.prog.underlying 24 = some (.slice 23)), no_eq⟩
theorem ty26 : TIOk Try.prog 26 ⟨.strct [(0, 23), (1, 24)], 2, 48, some (.pair (.list (.int .i64)) (.pair (.list (.list (.int .i64))) .unit)), [.slice none 0 0, .slice none 0 0], false⟩ := ⟨⟨infoOf (Try.prog.info? 26), by kernel_rfl, by kernel_rfl, by kernel_rfl, .agg #[.slice none 0 0, .slice none 0 0], by kernel_rfl, by kernel_rfl⟩, ⟨fieldsOf (Try.prog.underlying 26), by kernel_rfl, by kernel_rfl⟩, no_eq⟩
theorem ty41 : TIOk Try.prog 41 ⟨.strct [(0, 3), (1, 3), (2, 3)], 3, 24, some (.pair (.int .i64) (.pair (.int .i64) (.pair (.int .i64) .unit))), [.int .i64 0, .int .i64 0, .int .i64 0], true⟩ := ⟨⟨infoOf (Try.prog.info? 41), by kernel_rfl, by kernel_rfl, by kernel_rfl, .agg #[.int .i64 0, .int .i64 0, .int .i64 0], by kernel_rfl, by kernel_rfl⟩, ⟨fieldsOf (Try.prog.underlying 41), by kernel_rfl, by kernel_rfl⟩, fun _ => by kernel_rfl⟩
theorem ty45 : TIOk Try.prog 45 ⟨.strct [(0, 22), (1, 3)], 2, 32, some (.pair (.list (.int .u8)) (.pair (.int .i64) .unit)), [.slice none 0 0, .int .i64 0], false⟩ := ⟨⟨infoOf (Try.prog.info? 45), by kernel_rfl, by kernel_rfl, by kernel_rfl, .agg #[.slice none 0 0, .int .i64 0], by kernel_rfl, by kernel_rfl⟩, ⟨fieldsOf (Try.prog.underlying 45), by kernel_rfl, by kernel_rfl⟩, no_eq⟩
theorem ty54 : TIOk Try.prog 54 ⟨.strct [(0, 23), (1, 3), (2, 3)], 3, 40, some (.pair (.list (.int .i64)) (.pair (.int .i64) (.pair (.int .i64) .unit))), [.slice none 0 0, .int .i64 0, .int .i64 0], false⟩ := ⟨⟨infoOf (Try.prog.info? 54), by kernel_rfl, by kernel_rfl, by kernel_rfl, .agg #[.slice none 0 0, .int .i64 0, .int .i64 0], by kernel_rfl, by kernel_rfl⟩, ⟨fieldsOf (Try.prog.underlying 54), by kernel_rfl, by kernel_rfl⟩, no_eq⟩
def tys : List (TypeId × TI) := [(3, ⟨.int .i64, 1, 8, some (.int .i64), [.int .i64 0], false⟩), (4, ⟨.bool, 1, 1, some .bool, [.bool false], false⟩), (5, ⟨.int .u8, 1, 1, some (.int .u8), [.int .u8 0], false⟩), (22, ⟨.slice 5, 1, 24, some (.list (.int .u8)), [.slice none 0 0], false⟩), (23, ⟨.slice 3, 1, 24, some (.list (.int .i64)), [.slice none 0 0], false⟩), (24, ⟨.slice 23, 1, 24, some (.list (.list (.int .i64))), [.slice none 0 0], false⟩), (26, ⟨.strct [(0, 23), (1, 24)], 2, 48, some (.pair (.list (.int .i64)) (.pair (.list (.list (.int .i64))) .unit)), [.slice none 0 0, .slice none 0 0], false⟩), (41, ⟨.strct [(0, 3), (1, 3), (2, 3)], 3, 24, some (.pair (.int .i64) (.pair (.int .i64) (.pair (.int .i64) .unit))), [.int .i64 0, .int .i64 0, .int .i64 0], true⟩), (45, ⟨.strct [(0, 22), (1, 3)], 2, 32, some (.pair (.list (.int .u8)) (.pair (.int .i64) .unit)), [.slice none 0 0, .int .i64 0], false⟩), (54, ⟨.strct [(0, 23), (1, 3), (2, 3)], 3, 40, some (.pair (.list (.int .i64)) (.pair (.int .i64) (.pair (.int .i64) .unit))), [.slice none 0 0, .int .i64 0, .int .i64 0], false⟩)]
theorem tys_ok : TOk Try.prog (tlook tys) := tok_of (allc ty3 (allc ty4 (allc ty5 (allc ty22 (allc ty23 (allc ty24 (allc ty26 (allc ty41 (allc ty45 (allc ty54 alln))))))))))
def ioF (f : FuncId) (i : Nat) : Bool := [(29, 1)].any fun (p : Nat × Nat) => Nat.beq p.1 f && Nat.beq p.2 i


/-! loop.example/headtrees/spec.l20Open -/

def spec_l20Open_an : Ann := (.seq (.leaf [0]) (.seq (.seq (.leaf [0, 5]) (.cond (.leaf [0]) (.leaf [0]))) (.seq (.leaf [2]) (.leaf [2]))))

noncomputable def spec_l20Open_ctx : Ctx := ⟨tlook tys, olook [], ioF, 0, false, []⟩

theorem spec_l20Open_n1_l (x1861 : List Int) : Link spec_l20Open_ctx LL (bodyOf Try.f9) spec_l20Open_an ⟨mkE 11 0 [(0, dV x1861)], []⟩ (spec_l20Open_n1 x1861) (fun (t : (List Int)) => (Exit.ret, ⟨mkE 11 0 [(2, .ptr 0 0)], [some (.box [dV t, dI 0])]⟩)) := .of fun K h => by
  simp only [spec_l20Open_n1, wpW] at h
  exact .of (by kernel_rfl) h

theorem spec_l20Open_e (x1861 : List Int) {r : AV} {H' : Heap} (h : (Ans.mk _ (spec_l20Open x1861) (fun (t : (List Int)) => (.ptr 0 0, [some (.box [dV t, dI 0])])) [] none).run = some (r, H')) : Awp spec_l20Open_ctx LL (bodyOf Try.f9) spec_l20Open_an ⟨mkE 11 0 [(0, dV x1861)], []⟩ (Ret (tlook tys) Try.f9.results.toList r H') :=
  ret_of' (spec_l20Open_n1_l x1861) (by unfold spec_l20Open; kernel_rfl) (by
  intro t
  exact ret_mk [.ptr 0 0] (by kernel_rfl) (by kernel_rfl) (by kernel_rfl) (by kernel_rfl)) h

def F_spec_l20Open : Fun := fun avs H =>
  match avs, H with
  | [.dat (.list (.int .u8)) x1861], [] => ⟨_, spec_l20Open x1861, fun (t : (List Int)) => (.ptr 0 0, [some (.box [dV t, dI 0])]), [], none⟩
  | _, _ => Ans.no

theorem spec_l20Open_sound : Sound Try.prog 9 F_spec_l20Open := by
  refine fn_sound' (C := spec_l20Open_ctx) (c := bodyOf Try.f9) (cok_of tys_ok (alln) (alln) (by kernel_rfl)) Try.func9 (by kernel_rfl) LL spec_l20Open_an ?_
  intro avs H r H' h
  unfold F_spec_l20Open at h
  split at h
  · refine Awp.cast ?_ ?_ ?_ (spec_l20Open_e _ h) <;> kernel_rfl
  · simp [Ans.no, Ans.run] at h


/-! (*loop.example/headtrees/spec.l20Rd).pick -/

def spec_l20Rd_pick_an : Ann := (.seq (.leaf [0, 1]) (.seq (.leaf [0, 1]) (.seq (.seq (.leaf [0, 1, 24]) (.cond (.seq (.leaf [4]) (.leaf [4])) (.leaf [0, 1]))) (.seq (.leaf [0, 1, 5]) (.seq (.seq (.leaf [0, 1, 5, 36]) (.cond (.seq (.leaf [4]) (.leaf [4])) (.leaf [0, 1, 5]))) (.seq (.draw [] [0, 1, 2, 3, 4, 5, 6, 7, 8, 9, 10, 11, 12, 13, 14, 15, 16, 17, 18, 19, 20, 21, 22, 23, 24, 25, 26, 27, 28, 29, 30, 31, 32, 33, 34, 35, 36, 37, 38, 39, 40, 41, 42, 43, 44, 45] [] [1, 6]) (.seq (.leaf [1, 6]) (.seq (.leaf [4]) (.leaf [4])))))))))

noncomputable def spec_l20Rd_pick_ctx : Ctx := ⟨tlook tys, olook [], ioF, 1, false, []⟩

theorem spec_l20Rd_pick_n1_l (x1888 : Int) (x1889 : List Int) (x1890 : Int) : Link spec_l20Rd_pick_ctx LL (bodyOf Try.f14) spec_l20Rd_pick_an ⟨mkE 99 0 [(0, .ptr 0 0), (1, dI x1888)], [some (.box [dV x1889, dI x1890])]⟩ (spec_l20Rd_pick_n1 x1888 x1889 x1890) (fun (t : Int × Int) => (Exit.ret, ⟨mkE 99 0 [(4, dI t.1)], [some (.box [dV x1889, dI t.2])]⟩)) := .of fun K h => by
  simp only [spec_l20Rd_pick_n1, wpW] at h
  exact .of (by kernel_rfl) h

theorem spec_l20Rd_pick_e (x1888 : Int) (x1889 : List Int) (x1890 : Int) {r : AV} {H' : Heap} (h : (Ans.mk _ (spec_l20Rd_pick x1888 x1889 x1890) (fun (t : Int × Int) => (dI t.1, [some (.box [dV x1889, dI t.2])])) [] none).run = some (r, H')) : Awp spec_l20Rd_pick_ctx LL (bodyOf Try.f14) spec_l20Rd_pick_an ⟨mkE 99 0 [(0, .ptr 0 0), (1, dI x1888)], [some (.box [dV x1889, dI x1890])]⟩ (Ret (tlook tys) Try.f14.results.toList r H') :=
  ret_of' (spec_l20Rd_pick_n1_l x1888 x1889 x1890) (by unfold spec_l20Rd_pick; kernel_rfl) (by
  intro t
  exact ret_mk [dI t.1] (by kernel_rfl) (by kernel_rfl) (by kernel_rfl) (by kernel_rfl)) h

def F_spec_l20Rd_pick : Fun := fun avs H =>
  match avs, H with
  | [.ptr 0 0, .dat (.int .i64) x1888], [some (.box [.dat (.list (.int .u8)) x1889, .dat (.int .i64) x1890])] => ⟨_, spec_l20Rd_pick x1888 x1889 x1890, fun (t : Int × Int) => (dI t.1, [some (.box [dV x1889, dI t.2])]), [], none⟩
  | _, _ => Ans.no

theorem spec_l20Rd_pick_sound : Sound Try.prog 14 F_spec_l20Rd_pick := by
  refine fn_sound' (C := spec_l20Rd_pick_ctx) (c := bodyOf Try.f14) (cok_of tys_ok (alln) (alln) (by kernel_rfl)) Try.func14 (by kernel_rfl) LL spec_l20Rd_pick_an ?_
  intro avs H r H' h
  unfold F_spec_l20Rd_pick at h
  split at h
  · refine Awp.cast ?_ ?_ ?_ (spec_l20Rd_pick_e _ _ _ h) <;> kernel_rfl
  · simp [Ans.no, Ans.run] at h


/-! loop.example/headtrees/spec.l20Order -/

def spec_l20Order_an : Ann := (.seq (.leaf [0, 1]) (.seq (.leaf [0, 1, 5]) (.seq (.leaf [0, 1, 5, 6]) (.seq (.seq (.leaf [0, 1, 5, 6, 7]) (.block (.loop (.seq (.seq (.leaf [0, 1, 5, 6, 7, 15]) (.cond (.leaf [0, 1, 5, 6, 7]) (.leaf [5]))) (.seq (.block (.seq (.leaf [0, 1, 5, 6, 7, 8]) (.seq (.seq (.leaf [0, 1, 5, 6, 7, 8, 26]) (.cond (.leaf [0, 1, 5, 6, 7, 8]) (.leaf [0, 1, 5, 6, 7, 8]))) (.seq (.leaf [0, 1, 5, 6, 7, 8, 9]) (.seq (.leaf [0, 1, 5, 6, 7, 8, 9]) (.leaf [0, 1, 5, 6, 7])))))) (.leaf [0, 1, 5, 6, 7])))))) (.seq (.leaf [4]) (.leaf [4]))))))

noncomputable def spec_l20Order_ctx : Ctx := ⟨tlook tys, olook [(14, F_spec_l20Rd_pick)], ioF, 1, false, []⟩

theorem spec_l20Order_n1_l (x2044 : Int) (x2045 : List Int) (x2046 : Int) : Link spec_l20Order_ctx LL (Code.seq (cq [0] (bodyOf Try.f23)) (Code.seq (cq [0,1] (bodyOf Try.f23)) (cq [0,1,1] (bodyOf Try.f23)))) (Ann.seq (aq [0] spec_l20Order_an) (Ann.seq (aq [0,1] spec_l20Order_an) (aq [0,1,1] spec_l20Order_an))) ⟨mkE 45 0 [(0, .ptr 0 0), (1, dI x2044)], [some (.box [dV x2045, dI x2046])]⟩ (spec_l20Order_n1 x2045 x2046) (fun (t : Int × Int) => (Exit.normal, ⟨mkE 45 0 [(0, .ptr 0 0), (1, dI x2044), (5, .slc 1), (6, dI t.1)], [some (.box [dV x2045, dI t.2]), some (sI ([] : List Int))]⟩)) := .of fun K h => by
  simp only [spec_l20Order_n1, wpW] at h
  exact .of (by kernel_rfl) h

theorem spec_l20Order_n2_l (x2044 : Int) (x2048 : Int) (x2045 : List Int) (x2049 : Int) : Link spec_l20Order_ctx LL (cq [0,0,1,1,1] (bodyOf Try.f23)) (aq [0,0,1,1,1] spec_l20Order_an) ⟨mkE 45 0 [(0, .ptr 0 0), (1, dI x2044), (5, .slc 1), (6, dI x2048)], [some (.box [dV x2045, dI x2049]), some (sI ([] : List Int))]⟩ (spec_l20Order_n2) (fun (t : Unit) => (Exit.normal, ⟨mkE 45 0 [(0, .ptr 0 0), (1, dI x2044), (5, .slc 1), (6, dI x2048), (7, dI 1)], [some (.box [dV x2045, dI x2049]), some (sI ([] : List Int))]⟩)) := .of fun K h => by
  simp only [spec_l20Order_n2, wpW] at h
  exact .of (by kernel_rfl) h

theorem spec_l20Order_n3_l (x2044 : Int) (x2048 : Int) (x2191 : Int) (x2045 : List Int) (x2192 : Int) (x2193 : List Int) : Link spec_l20Order_ctx LL (cq [0,0,1,0,1,1,1] (bodyOf Try.f23)) (aq [0,0,1,0,1,1,1] spec_l20Order_an) ⟨mkE 45 0 [(0, .ptr 0 0), (1, dI x2044), (5, .slc 1), (6, dI x2048), (7, dI x2191)], [some (.box [dV x2045, dI x2192]), some (sI x2193)]⟩ (spec_l20Order_n3 x2044 x2048 x2191 x2045 x2192 x2193) (Sum.elim (fun (t : Int × Int × (List Int)) => (Exit.normal, ⟨mkE 45 0 [(0, .ptr 0 0), (1, dI x2044), (5, .slc 1), (6, dI x2048), (7, dI t.1)], [some (.box [dV x2045, dI t.2.1]), some (sI t.2.2)]⟩)) (fun (t : Int × (List Int)) => ((Exit.exit 0), ⟨mkE 45 0 [(5, .slc 1)], [some (.box [dV x2045, dI t.1]), some (sI t.2)]⟩))) := .of fun K h => by
  simp only [spec_l20Order_n3, wpW] at h
  exact .of (by kernel_rfl) h

def spec_l20Order_n4_l (x2044 : Int) (x2048 : Int) (x2045 : List Int) (x2049 : Int) := (link_loop (mk := fun (s : Int × Int × (List Int)) => ⟨mkE 45 0 [(0, .ptr 0 0), (1, dI x2044), (5, .slc 1), (6, dI x2048), (7, dI s.1)], [some (.box [dV x2045, dI s.2.1]), some (sI s.2.2)]⟩) (fin := (fun (t : Int × (List Int)) => ((Exit.exit 0), ⟨mkE 45 0 [(5, .slc 1)], [some (.box [dV x2045, dI t.1]), some (sI t.2)]⟩))) (by
  rintro t f K h
  · exact h) (fun s => link_map (spec_l20Order_n3_l x2044 x2048 s.1 x2045 s.2.1 s.2.2) (Sum.elim (fun (t : Int × Int × (List Int)) => Sum.inl (t.1, t.2.1, t.2.2)) (fun (t : Int × (List Int)) => Sum.inr t)) (by
  rintro (t | t)
  · kernel_rfl
  · kernel_rfl)) (1, x2049, ([] : List Int)))

def spec_l20Order_n5_l (x2044 : Int) (x2048 : Int) (x2045 : List Int) (x2049 : Int) := (link_block (fin2 := (fun (t : Int × (List Int)) => (Exit.normal, ⟨mkE 45 0 [(5, .slc 1)], [some (.box [dV x2045, dI t.1]), some (sI t.2)]⟩))) (id := 0) (spec_l20Order_n4_l x2044 x2048 x2045 x2049) (fun (t : Int × (List Int)) => (t.1, t.2)) (by
  rintro t K h
  · exact Eq.mp (by kernel_rfl) h))

def spec_l20Order_n6_l (x2044 : Int) (x2048 : Int) (x2045 : List Int) (x2049 : Int) := (link_seq (spec_l20Order_n2_l x2044 x2048 x2045 x2049) (fun (t : Unit) => (spec_l20Order_n5_l x2044 x2048 x2045 x2049)))

theorem spec_l20Order_n7_l (x2045 : List Int) (x2192 : Int) (x2193 : List Int) : Link spec_l20Order_ctx LL (cq [1,1,1,1] (bodyOf Try.f23)) (aq [1,1,1,1] spec_l20Order_an) ⟨mkE 45 0 [(5, .slc 1)], [some (.box [dV x2045, dI x2192]), some (sI x2193)]⟩ (spec_l20Order_n7 x2192 x2193) (fun (t : Int × (List Int)) => (Exit.ret, ⟨mkE 45 0 [(4, .slc 1)], [some (.box [dV x2045, dI t.1]), some (sI t.2)]⟩)) := .of fun K h => by
  simp only [spec_l20Order_n7, wpW] at h
  exact .of (by kernel_rfl) h

def spec_l20Order_n8_l (x2044 : Int) (x2048 : Int) (x2045 : List Int) (x2049 : Int) := (link_seq (spec_l20Order_n6_l x2044 x2048 x2045 x2049) (fun (t : Int × (List Int)) => (spec_l20Order_n7_l x2045 t.1 t.2)))

def spec_l20Order_n9_l (x2044 : Int) (x2045 : List Int) (x2046 : Int) := (link_group (c := (cq [0,1,1] (bodyOf Try.f23))) (a := (aq [0,1,1] spec_l20Order_an)) [(cq [0] (bodyOf Try.f23)), (cq [0,1] (bodyOf Try.f23))] [(aq [0] spec_l20Order_an), (aq [0,1] spec_l20Order_an)] rfl (link_seq (spec_l20Order_n1_l x2044 x2045 x2046) (fun (t : Int × Int) => (spec_l20Order_n8_l x2044 t.1 x2045 t.2))))

theorem spec_l20Order_e (x2044 : Int) (x2045 : List Int) (x2046 : Int) {r : AV} {H' : Heap} (h : (Ans.mk _ (spec_l20Order x2044 x2045 x2046) (fun (t : Int × (List Int)) => (.slc 1, [some (.box [dV x2045, dI t.1]), some (sI t.2)])) [] none).run = some (r, H')) : Awp spec_l20Order_ctx LL (bodyOf Try.f23) spec_l20Order_an ⟨mkE 45 0 [(0, .ptr 0 0), (1, dI x2044)], [some (.box [dV x2045, dI x2046])]⟩ (Ret (tlook tys) Try.f23.results.toList r H') :=
  ret_of' (Link.cast (by kernel_rfl) (by kernel_rfl) (spec_l20Order_n9_l x2044 x2045 x2046)) (by unfold spec_l20Order; kernel_rfl) (by
  intro t
  exact ret_mk [.slc 1] (by kernel_rfl) (by kernel_rfl) (by kernel_rfl) (by kernel_rfl)) h

def F_spec_l20Order : Fun := fun avs H =>
  match avs, H with
  | [.ptr 0 0, .dat (.int .i64) x2044], [some (.box [.dat (.list (.int .u8)) x2045, .dat (.int .i64) x2046])] => ⟨_, spec_l20Order x2044 x2045 x2046, fun (t : Int × (List Int)) => (.slc 1, [some (.box [dV x2045, dI t.1]), some (sI t.2)]), [], none⟩
  | _, _ => Ans.no

theorem spec_l20Order_sound : Sound Try.prog 23 F_spec_l20Order := by
  refine fn_sound' (C := spec_l20Order_ctx) (c := bodyOf Try.f23) (cok_of tys_ok (allc spec_l20Rd_pick_sound alln) (allc Try.call14 alln) (by kernel_rfl)) Try.func23 (by kernel_rfl) LL spec_l20Order_an ?_
  intro avs H r H' h
  unfold F_spec_l20Order at h
  split at h
  · refine Awp.cast ?_ ?_ ?_ (spec_l20Order_e _ _ _ h) <;> kernel_rfl
  · simp [Ans.no, Ans.run] at h


/-! (*loop.example/headtrees/spec.l20Rd).odd -/

def spec_l20Rd_odd_an : Ann := (.seq (.leaf [0, 1]) (.seq (.leaf [4]) (.leaf [4])))

noncomputable def spec_l20Rd_odd_ctx : Ctx := ⟨tlook tys, olook [(14, F_spec_l20Rd_pick)], ioF, 1, false, []⟩

theorem spec_l20Rd_odd_n1_l (x2500 : Int) (x2501 : List Int) (x2502 : Int) : Link spec_l20Rd_odd_ctx LL (bodyOf Try.f17) spec_l20Rd_odd_an ⟨mkE 15 0 [(0, .ptr 0 0), (1, dI x2500)], [some (.box [dV x2501, dI x2502])]⟩ (spec_l20Rd_odd_n1 x2500 x2501 x2502) (fun (t : Bool × Int) => (Exit.ret, ⟨mkE 15 0 [(4, dB t.1)], [some (.box [dV x2501, dI t.2])]⟩)) := .of fun K h => by
  simp only [spec_l20Rd_odd_n1, wpW] at h
  exact .of (by kernel_rfl) h

theorem spec_l20Rd_odd_e (x2500 : Int) (x2501 : List Int) (x2502 : Int) {r : AV} {H' : Heap} (h : (Ans.mk _ (spec_l20Rd_odd x2500 x2501 x2502) (fun (t : Bool × Int) => (dB t.1, [some (.box [dV x2501, dI t.2])])) [] none).run = some (r, H')) : Awp spec_l20Rd_odd_ctx LL (bodyOf Try.f17) spec_l20Rd_odd_an ⟨mkE 15 0 [(0, .ptr 0 0), (1, dI x2500)], [some (.box [dV x2501, dI x2502])]⟩ (Ret (tlook tys) Try.f17.results.toList r H') :=
  ret_of' (spec_l20Rd_odd_n1_l x2500 x2501 x2502) (by unfold spec_l20Rd_odd; kernel_rfl) (by
  intro t
  exact ret_mk [dB t.1] (by kernel_rfl) (by kernel_rfl) (by kernel_rfl) (by kernel_rfl)) h

def F_spec_l20Rd_odd : Fun := fun avs H =>
  match avs, H with
  | [.ptr 0 0, .dat (.int .i64) x2500], [some (.box [.dat (.list (.int .u8)) x2501, .dat (.int .i64) x2502])] => ⟨_, spec_l20Rd_odd x2500 x2501 x2502, fun (t : Bool × Int) => (dB t.1, [some (.box [dV x2501, dI t.2])]), [], none⟩
  | _, _ => Ans.no

theorem spec_l20Rd_odd_sound : Sound Try.prog 17 F_spec_l20Rd_odd := by
  refine fn_sound' (C := spec_l20Rd_odd_ctx) (c := bodyOf Try.f17) (cok_of tys_ok (allc spec_l20Rd_pick_sound alln) (allc Try.call14 alln) (by kernel_rfl)) Try.func17 (by kernel_rfl) LL spec_l20Rd_odd_an ?_
  intro avs H r H' h
  unfold F_spec_l20Rd_odd at h
  split at h
  · refine Awp.cast ?_ ?_ ?_ (spec_l20Rd_odd_e _ _ _ h) <;> kernel_rfl
  · simp [Ans.no, Ans.run] at h


/-! loop.example/headtrees/spec.l20Tree -/

def spec_l20Tree_an : Ann := (.seq (.leaf [0, 1]) (.seq (.leaf [0, 1, 5]) (.seq (.leaf [0, 1, 5, 6]) (.seq (.leaf [0, 1, 5, 6, 7]) (.seq (.leaf [0, 1, 5, 6, 7, 8]) (.seq (.seq (.leaf [0, 1, 5, 6, 7, 8, 9]) (.block (.loop (.seq (.seq (.leaf [0, 1, 5, 6, 7, 8, 9, 23]) (.cond (.leaf [0, 1, 5, 6, 7, 8, 9]) (.leaf [0, 1, 5, 7]))) (.seq (.block (.seq (.leaf [0, 1, 5, 6, 7, 8, 9, 10]) (.seq (.seq (.leaf [0, 1, 5, 6, 7, 8, 9, 10, 35]) (.cond (.leaf [0, 1, 5, 6, 7, 8, 9, 10]) (.leaf [0, 1, 5, 6, 7, 8, 9, 10]))) (.draw [] [0, 1, 2, 3, 4, 5, 6, 7, 8, 9, 10, 11] [] [0, 1, 5, 6, 7, 8, 9])))) (.leaf [0, 1, 5, 6, 7, 8, 9])))))) (.seq (.seq (.leaf [0, 5, 7, 51]) (.cond (.seq (.leaf [0, 5, 7, 53]) (.block (.seq (.leaf [0, 5, 7, 53, 63]) (.cond (.seq (.leaf [4]) (.leaf [4])) (.seq (.leaf [0, 5, 7, 53, 66]) (.cond (.seq (.leaf [4]) (.leaf [4])) (.seq (.leaf [0, 5, 7, 69]) (.cond (.seq (.leaf [7]) (.seq (.leaf [4]) (.leaf [4]))) (.leaf [7]))))))))) (.leaf [7]))) (.seq (.leaf [4]) (.leaf [4])))))))))

noncomputable def spec_l20Tree_ctx : Ctx := ⟨tlook tys, olook [(14, F_spec_l20Rd_pick), (23, F_spec_l20Order), (17, F_spec_l20Rd_odd)], ioF, 1, false, []⟩

theorem spec_l20Tree_n1_l (x1885 : Int) (x1886 : List Int) (x1887 : Int) : Link spec_l20Tree_ctx LL (Code.seq (cq [0] (bodyOf Try.f21)) (Code.seq (cq [0,1] (bodyOf Try.f21)) (Code.seq (cq [0,1,1] (bodyOf Try.f21)) (Code.seq (cq [0,1,1,1] (bodyOf Try.f21)) (cq [0,1,1,1,1] (bodyOf Try.f21)))))) (Ann.seq (aq [0] spec_l20Tree_an) (Ann.seq (aq [0,1] spec_l20Tree_an) (Ann.seq (aq [0,1,1] spec_l20Tree_an) (Ann.seq (aq [0,1,1,1] spec_l20Tree_an) (aq [0,1,1,1,1] spec_l20Tree_an))))) ⟨mkE 80 0 [(0, .ptr 0 0), (1, dI x1885)], [some (.box [dV x1886, dI x1887])]⟩ (spec_l20Tree_n1 x1886 x1887) (fun (t : Int × Int × Int × (List Int) × (List Int)) => (Exit.normal, ⟨mkE 80 0 [(0, .ptr 0 0), (1, dI x1885), (5, dI t.1), (6, .slc 1), (7, .slc 2), (8, dI t.2.1)], [some (.box [dV x1886, dI t.2.2.1]), some (sI t.2.2.2.1), some (sI t.2.2.2.2)]⟩)) := .of fun K h => by
  simp only [spec_l20Tree_n1, wpW] at h
  exact .of (by kernel_rfl) h

theorem spec_l20Tree_n2_l (x1885 : Int) (x2350 : Int) (x2357 : Int) (x1886 : List Int) (x2358 : Int) (x2353 : List Int) (x2355 : List Int) : Link spec_l20Tree_ctx LL (cq [0,0,1,1,1,1,1] (bodyOf Try.f21)) (aq [0,0,1,1,1,1,1] spec_l20Tree_an) ⟨mkE 80 0 [(0, .ptr 0 0), (1, dI x1885), (5, dI x2350), (6, .slc 1), (7, .slc 2), (8, dI x2357)], [some (.box [dV x1886, dI x2358]), some (sI x2353), some (sI x2355)]⟩ (spec_l20Tree_n2) (fun (t : Unit) => (Exit.normal, ⟨mkE 80 0 [(0, .ptr 0 0), (1, dI x1885), (5, dI x2350), (6, .slc 1), (7, .slc 2), (8, dI x2357), (9, dI 1)], [some (.box [dV x1886, dI x2358]), some (sI x2353), some (sI x2355)]⟩)) := .of fun K h => by
  simp only [spec_l20Tree_n2, wpW] at h
  exact .of (by kernel_rfl) h

theorem spec_l20Tree_n3_l (x1885 : Int) (x2350 : Int) (x2357 : Int) (x2428 : Int) (x1886 : List Int) (x2429 : Int) (x2353 : List Int) (x2430 : List Int) : Link spec_l20Tree_ctx LL (cq [0,0,1,0,1,1,1,1,1] (bodyOf Try.f21)) (aq [0,0,1,0,1,1,1,1,1] spec_l20Tree_an) ⟨mkE 80 0 [(0, .ptr 0 0), (1, dI x1885), (5, dI x2350), (6, .slc 1), (7, .slc 2), (8, dI x2357), (9, dI x2428)], [some (.box [dV x1886, dI x2429]), some (sI x2353), some (sI x2430)]⟩ (spec_l20Tree_n3 x2350 x2357 x2428 x1886 x2429 x2353 x2430) (Sum.elim (fun (t : Int × Int × (List Int)) => (Exit.normal, ⟨mkE 80 0 [(0, .ptr 0 0), (1, dI x1885), (5, dI x2350), (6, .slc 1), (7, .slc 2), (8, dI x2357), (9, dI t.1)], [some (.box [dV x1886, dI t.2.1]), some (sI x2353), some (sI t.2.2)]⟩)) (fun (t : Int × (List Int)) => ((Exit.exit 0), ⟨mkE 80 0 [(0, .ptr 0 0), (1, dI x1885), (5, dI x2350), (7, .slc 1)], [some (.box [dV x1886, dI t.1]), some (sI t.2)]⟩))) := .of fun K h => by
  simp only [spec_l20Tree_n3, wpW] at h
  exact .of (by kernel_rfl) h

def spec_l20Tree_n4_l (x1885 : Int) (x2350 : Int) (x2357 : Int) (x1886 : List Int) (x2358 : Int) (x2353 : List Int) (x2355 : List Int) := (link_loop (mk := fun (s : Int × Int × (List Int)) => ⟨mkE 80 0 [(0, .ptr 0 0), (1, dI x1885), (5, dI x2350), (6, .slc 1), (7, .slc 2), (8, dI x2357), (9, dI s.1)], [some (.box [dV x1886, dI s.2.1]), some (sI x2353), some (sI s.2.2)]⟩) (fin := (fun (t : Int × (List Int)) => ((Exit.exit 0), ⟨mkE 80 0 [(0, .ptr 0 0), (1, dI x1885), (5, dI x2350), (7, .slc 1)], [some (.box [dV x1886, dI t.1]), some (sI t.2)]⟩))) (by
  rintro t f K h
  · exact h) (fun s => link_map (spec_l20Tree_n3_l x1885 x2350 x2357 s.1 x1886 s.2.1 x2353 s.2.2) (Sum.elim (fun (t : Int × Int × (List Int)) => Sum.inl (t.1, t.2.1, t.2.2)) (fun (t : Int × (List Int)) => Sum.inr t)) (by
  rintro (t | t)
  · kernel_rfl
  · kernel_rfl)) (1, x2358, x2355))

def spec_l20Tree_n5_l (x1885 : Int) (x2350 : Int) (x2357 : Int) (x1886 : List Int) (x2358 : Int) (x2353 : List Int) (x2355 : List Int) := (link_block (fin2 := (fun (t : Int × (List Int)) => (Exit.normal, ⟨mkE 80 0 [(0, .ptr 0 0), (1, dI x1885), (5, dI x2350), (7, .slc 1)], [some (.box [dV x1886, dI t.1]), some (sI t.2)]⟩))) (id := 0) (spec_l20Tree_n4_l x1885 x2350 x2357 x1886 x2358 x2353 x2355) (fun (t : Int × (List Int)) => (t.1, t.2)) (by
  rintro t K h
  · exact Eq.mp (by kernel_rfl) h))

def spec_l20Tree_n6_l (x1885 : Int) (x2350 : Int) (x2357 : Int) (x1886 : List Int) (x2358 : Int) (x2353 : List Int) (x2355 : List Int) := (link_seq (spec_l20Tree_n2_l x1885 x2350 x2357 x1886 x2358 x2353 x2355) (fun (t : Unit) => (spec_l20Tree_n5_l x1885 x2350 x2357 x1886 x2358 x2353 x2355)))

theorem spec_l20Tree_n7_l (x1885 : Int) (x2350 : Int) (x1886 : List Int) (x2429 : Int) (x2430 : List Int) : Link spec_l20Tree_ctx LL (cq [1,1,1,1,1,1] (bodyOf Try.f21)) (aq [1,1,1,1,1,1] spec_l20Tree_an) ⟨mkE 80 0 [(0, .ptr 0 0), (1, dI x1885), (5, dI x2350), (7, .slc 1)], [some (.box [dV x1886, dI x2429]), some (sI x2430)]⟩ (spec_l20Tree_n7 x1885 x2350 x1886 x2429 x2430) (fun (t : Int × (List Int)) => (Exit.ret, ⟨mkE 80 0 [(4, .slc 1)], [some (.box [dV x1886, dI t.1]), some (sI t.2)]⟩)) := .of fun K h => by
  simp only [spec_l20Tree_n7, wpW] at h
  exact .of (by kernel_rfl) h

def spec_l20Tree_n8_l (x1885 : Int) (x2350 : Int) (x2357 : Int) (x1886 : List Int) (x2358 : Int) (x2353 : List Int) (x2355 : List Int) := (link_seq (spec_l20Tree_n6_l x1885 x2350 x2357 x1886 x2358 x2353 x2355) (fun (t : Int × (List Int)) => (spec_l20Tree_n7_l x1885 x2350 x1886 t.1 t.2)))

def spec_l20Tree_n9_l (x1885 : Int) (x1886 : List Int) (x1887 : Int) := (link_group (c := (cq [0,1,1,1,1] (bodyOf Try.f21))) (a := (aq [0,1,1,1,1] spec_l20Tree_an)) [(cq [0] (bodyOf Try.f21)), (cq [0,1] (bodyOf Try.f21)), (cq [0,1,1] (bodyOf Try.f21)), (cq [0,1,1,1] (bodyOf Try.f21))] [(aq [0] spec_l20Tree_an), (aq [0,1] spec_l20Tree_an), (aq [0,1,1] spec_l20Tree_an), (aq [0,1,1,1] spec_l20Tree_an)] rfl (link_seq (spec_l20Tree_n1_l x1885 x1886 x1887) (fun (t : Int × Int × Int × (List Int) × (List Int)) => (spec_l20Tree_n8_l x1885 t.1 t.2.1 x1886 t.2.2.1 t.2.2.2.1 t.2.2.2.2))))

theorem spec_l20Tree_e (x1885 : Int) (x1886 : List Int) (x1887 : Int) {r : AV} {H' : Heap} (h : (Ans.mk _ (spec_l20Tree x1885 x1886 x1887) (fun (t : Int × (List Int)) => (.slc 1, [some (.box [dV x1886, dI t.1]), some (sI t.2)])) [] none).run = some (r, H')) : Awp spec_l20Tree_ctx LL (bodyOf Try.f21) spec_l20Tree_an ⟨mkE 80 0 [(0, .ptr 0 0), (1, dI x1885)], [some (.box [dV x1886, dI x1887])]⟩ (Ret (tlook tys) Try.f21.results.toList r H') :=
  ret_of' (Link.cast (by kernel_rfl) (by kernel_rfl) (spec_l20Tree_n9_l x1885 x1886 x1887)) (by unfold spec_l20Tree; kernel_rfl) (by
  intro t
  exact ret_mk [.slc 1] (by kernel_rfl) (by kernel_rfl) (by kernel_rfl) (by kernel_rfl)) h

def F_spec_l20Tree : Fun := fun avs H =>
  match avs, H with
  | [.ptr 0 0, .dat (.int .i64) x1885], [some (.box [.dat (.list (.int .u8)) x1886, .dat (.int .i64) x1887])] => ⟨_, spec_l20Tree x1885 x1886 x1887, fun (t : Int × (List Int)) => (.slc 1, [some (.box [dV x1886, dI t.1]), some (sI t.2)]), [], none⟩
  | _, _ => Ans.no

theorem spec_l20Tree_sound : Sound Try.prog 21 F_spec_l20Tree := by
  refine fn_sound' (C := spec_l20Tree_ctx) (c := bodyOf Try.f21) (cok_of tys_ok (allc spec_l20Rd_pick_sound (allc spec_l20Order_sound (allc spec_l20Rd_odd_sound alln))) (allc Try.call14 (allc Try.call23 (allc Try.call17 alln))) (by kernel_rfl)) Try.func21 (by kernel_rfl) LL spec_l20Tree_an ?_
  intro avs H r H' h
  unfold F_spec_l20Tree at h
  split at h
  · refine Awp.cast ?_ ?_ ?_ (spec_l20Tree_e _ _ _ h) <;> kernel_rfl
  · simp [Ans.no, Ans.run] at h


/-! loop.example/headtrees/spec.l1In -/

def spec_l1In_an : Ann := (.seq (.leaf [0, 1, 2]) (.seq (.leaf [6]) (.leaf [6])))

noncomputable def spec_l1In_ctx : Ctx := ⟨tlook tys, olook [], ioF, 0, false, []⟩

theorem spec_l1In_n1_l (x2616 : Int) (x2617 : Int) (x2618 : Int) : Link spec_l1In_ctx LL (bodyOf Try.f20) spec_l1In_an ⟨mkE 15 0 [(0, dI x2616), (1, dI x2617), (2, dI x2618)], []⟩ (spec_l1In_n1 x2616 x2617 x2618) (fun (t : Bool) => (Exit.ret, ⟨mkE 15 0 [(6, dB t)], []⟩)) := .of fun K h => by
  simp only [spec_l1In_n1, wpW] at h
  exact .of (by kernel_rfl) h

theorem spec_l1In_e (x2616 : Int) (x2617 : Int) (x2618 : Int) {r : AV} {H' : Heap} (h : (Ans.mk _ (spec_l1In x2616 x2617 x2618) (fun (t : Bool) => (dB t, [])) [] none).run = some (r, H')) : Awp spec_l1In_ctx LL (bodyOf Try.f20) spec_l1In_an ⟨mkE 15 0 [(0, dI x2616), (1, dI x2617), (2, dI x2618)], []⟩ (Ret (tlook tys) Try.f20.results.toList r H') :=
  ret_of' (spec_l1In_n1_l x2616 x2617 x2618) (by unfold spec_l1In; kernel_rfl) (by
  intro t
  exact ret_mk [dB t] (by kernel_rfl) (by kernel_rfl) (by kernel_rfl) (by kernel_rfl)) h

def F_spec_l1In : Fun := fun avs H =>
  match avs, H with
  | [.dat (.int .i64) x2616, .dat (.int .i64) x2617, .dat (.int .i64) x2618], [] => ⟨_, spec_l1In x2616 x2617 x2618, fun (t : Bool) => (dB t, []), [], none⟩
  | _, _ => Ans.no

theorem spec_l1In_sound : Sound Try.prog 20 F_spec_l1In := by
  refine fn_sound' (C := spec_l1In_ctx) (c := bodyOf Try.f20) (cok_of tys_ok (alln) (alln) (by kernel_rfl)) Try.func20 (by kernel_rfl) LL spec_l1In_an ?_
  intro avs H r H' h
  unfold F_spec_l1In at h
  split at h
  · refine Awp.cast ?_ ?_ ?_ (spec_l1In_e _ _ _ h) <;> kernel_rfl
  · simp [Ans.no, Ans.run] at h


/-! loop.example/headtrees/spec.TreeOk -/

def spec_TreeOk_an : Ann := (.seq (.leaf [0]) (.seq (.leaf [0, 3]) (.seq (.seq (.leaf [0, 3, 12]) (.cond (.seq (.leaf [2]) (.leaf [2])) (.leaf [0, 3]))) (.seq (.leaf [0, 3, 4]) (.seq (.seq (.leaf [0, 3, 4, 5]) (.block (.loop (.seq (.seq (.leaf [0, 3, 4, 5, 15]) (.cond (.leaf [0, 3, 4, 5]) (.leaf [4]))) (.seq (.block (.seq (.seq (.leaf [0, 3, 4, 5, 33]) (.cond (.seq (.leaf [2]) (.leaf [2])) (.leaf [0, 3, 4, 5]))) (.seq (.seq (.leaf [0, 3, 4, 5, 38]) (.cond (.leaf [0, 3, 4, 5]) (.leaf [0, 3, 4, 5]))) (.seq (.leaf [0, 3, 4, 5, 6]) (.seq (.seq (.leaf [0, 3, 4, 5, 6, 7]) (.block (.loop (.seq (.seq (.leaf [0, 3, 4, 5, 6, 7, 49]) (.cond (.leaf [0, 3, 4, 5, 6, 7]) (.leaf [0, 3, 4, 5, 6]))) (.seq (.block (.seq (.leaf [0, 3, 4, 5, 6, 7]) (.seq (.leaf [0, 3, 4, 5, 6, 7, 60]) (.cond (.seq (.leaf [2]) (.leaf [2])) (.leaf [0, 3, 4, 5, 6, 7]))))) (.leaf [0, 3, 4, 5, 6, 7])))))) (.seq (.leaf [0, 3, 4, 5, 62]) (.cond (.seq (.leaf [2]) (.leaf [2])) (.leaf [0, 3, 4, 5])))))))) (.leaf [0, 3, 4, 5])))))) (.seq (.leaf [2]) (.leaf [2])))))))

noncomputable def spec_TreeOk_ctx : Ctx := ⟨tlook tys, olook [(20, F_spec_l1In)], ioF, 0, false, []⟩

theorem spec_TreeOk_n1_l (x2613 : List Int) : Link spec_TreeOk_ctx LL (Code.seq (cq [0] (bodyOf Try.f11)) (Code.seq (cq [0,1] (bodyOf Try.f11)) (Code.seq (cq [0,1,1] (bodyOf Try.f11)) (cq [0,1,1,1] (bodyOf Try.f11))))) (Ann.seq (aq [0] spec_TreeOk_an) (Ann.seq (aq [0,1] spec_TreeOk_an) (Ann.seq (aq [0,1,1] spec_TreeOk_an) (aq [0,1,1,1] spec_TreeOk_an)))) ⟨mkE 65 0 [(0, dL x2613)], []⟩ (spec_TreeOk_n1 x2613) (Sum.elim (fun (t : Int) => (Exit.normal, ⟨mkE 65 0 [(0, dL x2613), (3, dI t), (4, dI 0)], []⟩)) (fun (t : Bool) => (Exit.ret, ⟨mkE 65 0 [(2, dB t)], []⟩))) := .of fun K h => by
  simp only [spec_TreeOk_n1, wpW] at h
  exact .of (by kernel_rfl) h

theorem spec_TreeOk_n2_l (x2613 : List Int) (x2626 : Int) : Link spec_TreeOk_ctx LL (cq [0,0,1,1,1,1] (bodyOf Try.f11)) (aq [0,0,1,1,1,1] spec_TreeOk_an) ⟨mkE 65 0 [(0, dL x2613), (3, dI x2626), (4, dI 0)], []⟩ (spec_TreeOk_n2) (fun (t : Unit) => (Exit.normal, ⟨mkE 65 0 [(0, dL x2613), (3, dI x2626), (4, dI 0), (5, dI 0)], []⟩)) := .of fun K h => by
  simp only [spec_TreeOk_n2, wpW] at h
  exact .of (by kernel_rfl) h

theorem spec_TreeOk_n3_l (x2613 : List Int) (x2626 : Int) (x2693 : Int) (x2694 : Int) : Link spec_TreeOk_ctx LL (cq [0,0,0,1,0,1,1,1,1] (bodyOf Try.f11)) (aq [0,0,0,1,0,1,1,1,1] spec_TreeOk_an) ⟨mkE 65 0 [(0, dL x2613), (3, dI x2626), (4, dI x2693), (5, dI x2694)], []⟩ (spec_TreeOk_n3 x2626 x2693 x2694) (Sum.elim (fun (t : Unit) => (Exit.normal, ⟨mkE 65 0 [(0, dL x2613), (3, dI x2626), (4, dI x2693), (5, dI x2694)], []⟩)) (fun (t : Int) => ((Exit.exit 0), ⟨mkE 65 0 [(4, dI t)], []⟩))) := .of fun K h => by
  simp only [spec_TreeOk_n3, wpW] at h
  exact .of (by kernel_rfl) h

theorem spec_TreeOk_n4_l (x2613 : List Int) (x2626 : Int) (x2693 : Int) (x2694 : Int) : Link spec_TreeOk_ctx LL (Code.seq (cq [0,0,0,1,0,0,1,0,1,1,1,1] (bodyOf Try.f11)) (Code.seq (cq [0,1,0,0,1,0,0,1,0,1,1,1,1] (bodyOf Try.f11)) (cq [0,1,1,0,0,1,0,0,1,0,1,1,1,1] (bodyOf Try.f11)))) (Ann.seq (aq [0,0,0,1,0,0,1,0,1,1,1,1] spec_TreeOk_an) (Ann.seq (aq [0,1,0,0,1,0,0,1,0,1,1,1,1] spec_TreeOk_an) (aq [0,1,1,0,0,1,0,0,1,0,1,1,1,1] spec_TreeOk_an))) ⟨mkE 65 0 [(0, dL x2613), (3, dI x2626), (4, dI x2693), (5, dI x2694)], []⟩ (spec_TreeOk_n4 x2613 x2626 x2693 x2694) (Sum.elim (fun (t : Int × Int) => (Exit.normal, ⟨mkE 65 0 [(0, dL x2613), (3, dI x2626), (4, dI t.1), (5, dI x2694), (6, dI t.2)], []⟩)) (fun (t : Bool) => (Exit.ret, ⟨mkE 65 0 [(2, dB t)], []⟩))) := .of fun K h => by
  simp only [spec_TreeOk_n4, wpW] at h
  exact .of (by kernel_rfl) h

theorem spec_TreeOk_n5_l (x2613 : List Int) (x2626 : Int) (x2722 : Int) (x2694 : Int) (x2723 : Int) : Link spec_TreeOk_ctx LL (cq [0,0,1,1,1,0,0,1,0,0,1,0,1,1,1,1] (bodyOf Try.f11)) (aq [0,0,1,1,1,0,0,1,0,0,1,0,1,1,1,1] spec_TreeOk_an) ⟨mkE 65 0 [(0, dL x2613), (3, dI x2626), (4, dI x2722), (5, dI x2694), (6, dI x2723)], []⟩ (spec_TreeOk_n5) (fun (t : Unit) => (Exit.normal, ⟨mkE 65 0 [(0, dL x2613), (3, dI x2626), (4, dI x2722), (5, dI x2694), (6, dI x2723), (7, dI 0)], []⟩)) := .of fun K h => by
  simp only [spec_TreeOk_n5, wpW] at h
  exact .of (by kernel_rfl) h

theorem spec_TreeOk_n6_l (x2613 : List Int) (x2626 : Int) (x2722 : Int) (x2694 : Int) (x2739 : Int) (x2740 : Int) : Link spec_TreeOk_ctx LL (cq [0,0,1,0,1,1,1,0,0,1,0,0,1,0,1,1,1,1] (bodyOf Try.f11)) (aq [0,0,1,0,1,1,1,0,0,1,0,0,1,0,1,1,1,1] spec_TreeOk_an) ⟨mkE 65 0 [(0, dL x2613), (3, dI x2626), (4, dI x2722), (5, dI x2694), (6, dI x2739), (7, dI x2740)], []⟩ (spec_TreeOk_n6 x2613 x2626 x2739 x2740) (Sum.elim (fun (t : Int × Int) => (Exit.normal, ⟨mkE 65 0 [(0, dL x2613), (3, dI x2626), (4, dI x2722), (5, dI x2694), (6, dI t.1), (7, dI t.2)], []⟩)) (Sum.elim (fun (t : Bool) => (Exit.ret, ⟨mkE 65 0 [(2, dB t)], []⟩)) (fun (t : Int) => ((Exit.exit 2), ⟨mkE 65 0 [(0, dL x2613), (3, dI x2626), (4, dI x2722), (5, dI x2694), (6, dI t)], []⟩)))) := .of fun K h => by
  simp only [spec_TreeOk_n6, wpW] at h
  exact .of (by kernel_rfl) h

def spec_TreeOk_n7_l (x2613 : List Int) (x2626 : Int) (x2722 : Int) (x2694 : Int) (x2723 : Int) := (link_loop (mk := fun (s : Int × Int) => ⟨mkE 65 0 [(0, dL x2613), (3, dI x2626), (4, dI x2722), (5, dI x2694), (6, dI s.1), (7, dI s.2)], []⟩) (fin := (Sum.elim (fun (t : Bool) => (Exit.ret, ⟨mkE 65 0 [(2, dB t)], []⟩)) (fun (t : Int) => ((Exit.exit 2), ⟨mkE 65 0 [(0, dL x2613), (3, dI x2626), (4, dI x2722), (5, dI x2694), (6, dI t)], []⟩)))) (by
  rintro (t | t) f K h
  · exact h
  · exact h) (fun s => link_map (spec_TreeOk_n6_l x2613 x2626 x2722 x2694 s.1 s.2) (Sum.elim (fun (t : Int × Int) => Sum.inl (t.1, t.2)) (Sum.elim (fun (t : Bool) => Sum.inr (Sum.inl t)) (fun (t : Int) => Sum.inr (Sum.inr t)))) (by
  rintro (t | t | t)
  · kernel_rfl
  · kernel_rfl
  · kernel_rfl)) (x2723, 0))

def spec_TreeOk_n8_l (x2613 : List Int) (x2626 : Int) (x2722 : Int) (x2694 : Int) (x2723 : Int) := (link_block (fin2 := (Sum.elim (fun (t : Int) => (Exit.normal, ⟨mkE 65 0 [(0, dL x2613), (3, dI x2626), (4, dI x2722), (5, dI x2694), (6, dI t)], []⟩)) (fun (t : Bool) => (Exit.ret, ⟨mkE 65 0 [(2, dB t)], []⟩)))) (id := 2) (spec_TreeOk_n7_l x2613 x2626 x2722 x2694 x2723) (Sum.elim (fun (t : Bool) => (Sum.inr t)) (fun (t : Int) => (Sum.inl t))) (by
  rintro (t | t) K h
  · exact Eq.mp (by kernel_rfl) h
  · exact Eq.mp (by kernel_rfl) h))

def spec_TreeOk_n9_l (x2613 : List Int) (x2626 : Int) (x2722 : Int) (x2694 : Int) (x2723 : Int) := (link_seq (spec_TreeOk_n5_l x2613 x2626 x2722 x2694 x2723) (fun (t : Unit) => (spec_TreeOk_n8_l x2613 x2626 x2722 x2694 x2723)))

theorem spec_TreeOk_n10_l (x2613 : List Int) (x2626 : Int) (x2722 : Int) (x2694 : Int) (x2739 : Int) : Link spec_TreeOk_ctx LL (cq [1,1,1,1,0,0,1,0,0,1,0,1,1,1,1] (bodyOf Try.f11)) (aq [1,1,1,1,0,0,1,0,0,1,0,1,1,1,1] spec_TreeOk_an) ⟨mkE 65 0 [(0, dL x2613), (3, dI x2626), (4, dI x2722), (5, dI x2694), (6, dI x2739)], []⟩ (spec_TreeOk_n10 x2739) (Sum.elim (fun (t : Unit) => (Exit.normal, ⟨mkE 65 0 [(0, dL x2613), (3, dI x2626), (4, dI x2722), (5, dI x2694)], []⟩)) (fun (t : Bool) => (Exit.ret, ⟨mkE 65 0 [(2, dB t)], []⟩))) := .of fun K h => by
  simp only [spec_TreeOk_n10, wpW] at h
  exact .of (by kernel_rfl) h

def spec_TreeOk_n11_l (x2613 : List Int) (x2626 : Int) (x2722 : Int) (x2694 : Int) (x2723 : Int) := (link_seq2 (spec_TreeOk_n9_l x2613 x2626 x2722 x2694 x2723) (fun (t : Int) => (spec_TreeOk_n10_l x2613 x2626 x2722 x2694 t)) (fun (t : Bool) => (Sum.inr t)) (by
  rintro t
  · kernel_rfl) (by
  rintro t f K h
  · exact h))

def spec_TreeOk_n12_l (x2613 : List Int) (x2626 : Int) (x2693 : Int) (x2694 : Int) := (link_group (c := (cq [0,1,1,0,0,1,0,0,1,0,1,1,1,1] (bodyOf Try.f11))) (a := (aq [0,1,1,0,0,1,0,0,1,0,1,1,1,1] spec_TreeOk_an)) [(cq [0,0,0,1,0,0,1,0,1,1,1,1] (bodyOf Try.f11)), (cq [0,1,0,0,1,0,0,1,0,1,1,1,1] (bodyOf Try.f11))] [(aq [0,0,0,1,0,0,1,0,1,1,1,1] spec_TreeOk_an), (aq [0,1,0,0,1,0,0,1,0,1,1,1,1] spec_TreeOk_an)] rfl (link_seq2 (spec_TreeOk_n4_l x2613 x2626 x2693 x2694) (fun (t : Int × Int) => (link_map (fin2 := (Sum.elim (fun (t : Int) => (Exit.normal, ⟨mkE 65 0 [(0, dL x2613), (3, dI x2626), (4, dI t), (5, dI x2694)], []⟩)) (fun (t : Bool) => (Exit.ret, ⟨mkE 65 0 [(2, dB t)], []⟩)))) (spec_TreeOk_n11_l x2613 x2626 t.1 x2694 t.2) (Sum.elim (fun (u : Unit) => (Sum.inl t.1)) (fun (u : Bool) => (Sum.inr u))) (by
  rintro (t | t)
  · kernel_rfl
  · kernel_rfl))) (fun (t : Bool) => (Sum.inr t)) (by
  rintro t
  · kernel_rfl) (by
  rintro t f K h
  · exact h)))

def spec_TreeOk_n13_l (x2613 : List Int) (x2626 : Int) (x2693 : Int) (x2694 : Int) := (link_block (fin2 := (Sum.elim (fun (t : Int) => (Exit.normal, ⟨mkE 65 0 [(0, dL x2613), (3, dI x2626), (4, dI t), (5, dI x2694)], []⟩)) (fun (t : Bool) => (Exit.ret, ⟨mkE 65 0 [(2, dB t)], []⟩)))) (id := 1) (spec_TreeOk_n12_l x2613 x2626 x2693 x2694) (Sum.elim (fun (t : Int) => (Sum.inl t)) (fun (t : Bool) => (Sum.inr t))) (by
  rintro (t | t) K h
  · exact Eq.mp (by kernel_rfl) h
  · exact Eq.mp (by kernel_rfl) h))

theorem spec_TreeOk_n14_l (x2613 : List Int) (x2626 : Int) (x2722 : Int) (x2694 : Int) : Link spec_TreeOk_ctx LL (cq [1,1,0,0,1,0,1,1,1,1] (bodyOf Try.f11)) (aq [1,1,0,0,1,0,1,1,1,1] spec_TreeOk_an) ⟨mkE 65 0 [(0, dL x2613), (3, dI x2626), (4, dI x2722), (5, dI x2694)], []⟩ (spec_TreeOk_n14 x2694) (fun (t : Int) => (Exit.normal, ⟨mkE 65 0 [(0, dL x2613), (3, dI x2626), (4, dI x2722), (5, dI t)], []⟩)) := .of fun K h => by
  simp only [spec_TreeOk_n14, wpW] at h
  exact .of (by kernel_rfl) h

def spec_TreeOk_n15_l (x2613 : List Int) (x2626 : Int) (x2693 : Int) (x2694 : Int) := (link_seq2 (spec_TreeOk_n13_l x2613 x2626 x2693 x2694) (fun (t : Int) => (link_map (fin2 := (Sum.elim (fun (t : Int × Int) => (Exit.normal, ⟨mkE 65 0 [(0, dL x2613), (3, dI x2626), (4, dI t.1), (5, dI t.2)], []⟩)) (fun (t : Bool) => (Exit.ret, ⟨mkE 65 0 [(2, dB t)], []⟩)))) (spec_TreeOk_n14_l x2613 x2626 t x2694) (fun (u : Int) => (Sum.inl (t, u))) (by
  rintro t
  · kernel_rfl))) (fun (t : Bool) => (Sum.inr t)) (by
  rintro t
  · kernel_rfl) (by
  rintro t f K h
  · exact h))

def spec_TreeOk_n16_l (x2613 : List Int) (x2626 : Int) (x2693 : Int) (x2694 : Int) := (link_seq2 (spec_TreeOk_n3_l x2613 x2626 x2693 x2694) (fun (t : Unit) => (link_map (fin2 := (Sum.elim (fun (t : Int × Int) => (Exit.normal, ⟨mkE 65 0 [(0, dL x2613), (3, dI x2626), (4, dI t.1), (5, dI t.2)], []⟩)) (Sum.elim (fun (t : Bool) => (Exit.ret, ⟨mkE 65 0 [(2, dB t)], []⟩)) (fun (t : Int) => ((Exit.exit 0), ⟨mkE 65 0 [(4, dI t)], []⟩))))) (spec_TreeOk_n15_l x2613 x2626 x2693 x2694) (Sum.elim (fun (t : Int × Int) => (Sum.inl (t.1, t.2))) (fun (t : Bool) => (Sum.inr (Sum.inl t)))) (by
  rintro (t | t)
  · kernel_rfl
  · kernel_rfl))) (fun (t : Int) => (Sum.inr (Sum.inr t))) (by
  rintro t
  · kernel_rfl) (by
  rintro t f K h
  · exact h))

def spec_TreeOk_n17_l (x2613 : List Int) (x2626 : Int) := (link_loop (mk := fun (s : Int × Int) => ⟨mkE 65 0 [(0, dL x2613), (3, dI x2626), (4, dI s.1), (5, dI s.2)], []⟩) (fin := (Sum.elim (fun (t : Bool) => (Exit.ret, ⟨mkE 65 0 [(2, dB t)], []⟩)) (fun (t : Int) => ((Exit.exit 0), ⟨mkE 65 0 [(4, dI t)], []⟩)))) (by
  rintro (t | t) f K h
  · exact h
  · exact h) (fun s => link_map (spec_TreeOk_n16_l x2613 x2626 s.1 s.2) (Sum.elim (fun (t : Int × Int) => Sum.inl (t.1, t.2)) (Sum.elim (fun (t : Bool) => Sum.inr (Sum.inl t)) (fun (t : Int) => Sum.inr (Sum.inr t)))) (by
  rintro (t | t | t)
  · kernel_rfl
  · kernel_rfl
  · kernel_rfl)) (0, 0))

def spec_TreeOk_n18_l (x2613 : List Int) (x2626 : Int) := (link_block (fin2 := (Sum.elim (fun (t : Int) => (Exit.normal, ⟨mkE 65 0 [(4, dI t)], []⟩)) (fun (t : Bool) => (Exit.ret, ⟨mkE 65 0 [(2, dB t)], []⟩)))) (id := 0) (spec_TreeOk_n17_l x2613 x2626) (Sum.elim (fun (t : Bool) => (Sum.inr t)) (fun (t : Int) => (Sum.inl t))) (by
  rintro (t | t) K h
  · exact Eq.mp (by kernel_rfl) h
  · exact Eq.mp (by kernel_rfl) h))

def spec_TreeOk_n19_l (x2613 : List Int) (x2626 : Int) := (link_seq (spec_TreeOk_n2_l x2613 x2626) (fun (t : Unit) => (spec_TreeOk_n18_l x2613 x2626)))

theorem spec_TreeOk_n20_l (x2693 : Int) : Link spec_TreeOk_ctx LL (cq [1,1,1,1,1] (bodyOf Try.f11)) (aq [1,1,1,1,1] spec_TreeOk_an) ⟨mkE 65 0 [(4, dI x2693)], []⟩ (spec_TreeOk_n20 x2693) (fun (t : Bool) => (Exit.ret, ⟨mkE 65 0 [(2, dB t)], []⟩)) := .of fun K h => by
  simp only [spec_TreeOk_n20, wpW] at h
  exact .of (by kernel_rfl) h

def spec_TreeOk_n21_l (x2613 : List Int) (x2626 : Int) := (link_seq2 (spec_TreeOk_n19_l x2613 x2626) (fun (t : Int) => (spec_TreeOk_n20_l t)) (fun (t : Bool) => t) (by
  rintro t
  · kernel_rfl) (by
  rintro t f K h
  · exact h))

def spec_TreeOk_n22_l (x2613 : List Int) := (link_group (c := (cq [0,1,1,1] (bodyOf Try.f11))) (a := (aq [0,1,1,1] spec_TreeOk_an)) [(cq [0] (bodyOf Try.f11)), (cq [0,1] (bodyOf Try.f11)), (cq [0,1,1] (bodyOf Try.f11))] [(aq [0] spec_TreeOk_an), (aq [0,1] spec_TreeOk_an), (aq [0,1,1] spec_TreeOk_an)] rfl (link_seq2 (spec_TreeOk_n1_l x2613) (fun (t : Int) => (spec_TreeOk_n21_l x2613 t)) (fun (t : Bool) => t) (by
  rintro t
  · kernel_rfl) (by
  rintro t f K h
  · exact h)))

theorem spec_TreeOk_e (x2613 : List Int) {r : AV} {H' : Heap} (h : (Ans.mk _ (spec_TreeOk x2613) (fun (t : Bool) => (dB t, [])) [] none).run = some (r, H')) : Awp spec_TreeOk_ctx LL (bodyOf Try.f11) spec_TreeOk_an ⟨mkE 65 0 [(0, dL x2613)], []⟩ (Ret (tlook tys) Try.f11.results.toList r H') :=
  ret_of' (Link.cast (by kernel_rfl) (by kernel_rfl) (spec_TreeOk_n22_l x2613)) (by unfold spec_TreeOk; kernel_rfl) (by
  intro t
  exact ret_mk [dB t] (by kernel_rfl) (by kernel_rfl) (by kernel_rfl) (by kernel_rfl)) h

def F_spec_TreeOk : Fun := fun avs H =>
  match avs, H with
  | [.dat (.list (.int .i64)) x2613], [] => ⟨_, spec_TreeOk x2613, fun (t : Bool) => (dB t, []), [], none⟩
  | _, _ => Ans.no

theorem spec_TreeOk_sound : Sound Try.prog 11 F_spec_TreeOk := by
  refine fn_sound' (C := spec_TreeOk_ctx) (c := bodyOf Try.f11) (cok_of tys_ok (allc spec_l1In_sound alln) (allc Try.call20 alln) (by kernel_rfl)) Try.func11 (by kernel_rfl) LL spec_TreeOk_an ?_
  intro avs H r H' h
  unfold F_spec_TreeOk at h
  split at h
  · refine Awp.cast ?_ ?_ ?_ (spec_TreeOk_e _ h) <;> kernel_rfl
  · simp [Ans.no, Ans.run] at h


/-! loop.example/headtrees/spec.OrderOk -/

def spec_OrderOk_an : Ann := (.seq (.leaf [0, 1]) (.seq (.seq (.leaf [0, 1, 5]) (.block (.loop (.seq (.seq (.leaf [0, 1, 5, 10]) (.cond (.leaf [0, 1, 5]) (.leaf [0, 1]))) (.seq (.block (.seq (.seq (.leaf [0, 1, 5, 19]) (.cond (.seq (.leaf [4]) (.leaf [4])) (.leaf [0, 1, 5]))) (.seq (.leaf [0, 1, 5, 6]) (.block (.loop (.seq (.seq (.leaf [0, 1, 5, 6, 22]) (.cond (.leaf [0, 1, 5, 6]) (.leaf [0, 1, 5]))) (.seq (.block (.seq (.draw [] [0, 1, 2, 3, 4, 5, 6, 7, 8] [] [0, 1, 5, 6, 33]) (.cond (.seq (.leaf [4]) (.leaf [4])) (.leaf [0, 1, 5, 6])))) (.leaf [0, 1, 5, 6])))))))) (.leaf [0, 1, 5])))))) (.seq (.leaf [4]) (.leaf [4]))))

noncomputable def spec_OrderOk_ctx : Ctx := ⟨tlook tys, olook [(20, F_spec_l1In)], ioF, 0, false, []⟩

theorem spec_OrderOk_n1_l (x2772 : List Int) (x2773 : Int) : Link spec_OrderOk_ctx LL (cq [0] (bodyOf Try.f28)) (aq [0] spec_OrderOk_an) ⟨mkE 42 0 [(0, dL x2772), (1, dI x2773)], []⟩ (spec_OrderOk_n1) (fun (t : Unit) => (Exit.normal, ⟨mkE 42 0 [(0, dL x2772), (1, dI x2773)], []⟩)) := .of fun K h => by
  simp only [spec_OrderOk_n1, wpW] at h
  exact .of (by kernel_rfl) h

theorem spec_OrderOk_n2_l (x2772 : List Int) (x2773 : Int) : Link spec_OrderOk_ctx LL (cq [0,0,1] (bodyOf Try.f28)) (aq [0,0,1] spec_OrderOk_an) ⟨mkE 42 0 [(0, dL x2772), (1, dI x2773)], []⟩ (spec_OrderOk_n2) (fun (t : Unit) => (Exit.normal, ⟨mkE 42 0 [(0, dL x2772), (1, dI x2773), (5, dI 0)], []⟩)) := .of fun K h => by
  simp only [spec_OrderOk_n2, wpW] at h
  exact .of (by kernel_rfl) h

theorem spec_OrderOk_n3_l (x2772 : List Int) (x2773 : Int) (x2804 : Int) : Link spec_OrderOk_ctx LL (cq [0,0,0,1,0,1] (bodyOf Try.f28)) (aq [0,0,0,1,0,1] spec_OrderOk_an) ⟨mkE 42 0 [(0, dL x2772), (1, dI x2773), (5, dI x2804)], []⟩ (spec_OrderOk_n3 x2772 x2804) (Sum.elim (fun (t : Unit) => (Exit.normal, ⟨mkE 42 0 [(0, dL x2772), (1, dI x2773), (5, dI x2804)], []⟩)) (fun (t : Unit) => ((Exit.exit 0), ⟨mkE 42 0 [(0, dL x2772), (1, dI x2773)], []⟩))) := .of fun K h => by
  simp only [spec_OrderOk_n3, wpW] at h
  exact .of (by kernel_rfl) h

theorem spec_OrderOk_n4_l (x2772 : List Int) (x2773 : Int) (x2804 : Int) : Link spec_OrderOk_ctx LL (Code.seq (cq [0,0,0,1,0,0,1,0,1] (bodyOf Try.f28)) (cq [0,1,0,0,1,0,0,1,0,1] (bodyOf Try.f28))) (Ann.seq (aq [0,0,0,1,0,0,1,0,1] spec_OrderOk_an) (aq [0,1,0,0,1,0,0,1,0,1] spec_OrderOk_an)) ⟨mkE 42 0 [(0, dL x2772), (1, dI x2773), (5, dI x2804)], []⟩ (spec_OrderOk_n4 x2772 x2773 x2804) (Sum.elim (fun (t : Unit) => (Exit.normal, ⟨mkE 42 0 [(0, dL x2772), (1, dI x2773), (5, dI x2804), (6, dI 0)], []⟩)) (fun (t : Bool) => (Exit.ret, ⟨mkE 42 0 [(4, dB t)], []⟩))) := .of fun K h => by
  simp only [spec_OrderOk_n4, wpW] at h
  exact .of (by kernel_rfl) h

theorem spec_OrderOk_n5_l (x2772 : List Int) (x2773 : Int) (x2804 : Int) (x2823 : Int) : Link spec_OrderOk_ctx LL (cq [0,0,1,1,0,0,1,0,0,1,0,1] (bodyOf Try.f28)) (aq [0,0,1,1,0,0,1,0,0,1,0,1] spec_OrderOk_an) ⟨mkE 42 0 [(0, dL x2772), (1, dI x2773), (5, dI x2804), (6, dI x2823)], []⟩ (spec_OrderOk_n5 x2772 x2804 x2823) (Sum.elim (fun (t : Int) => (Exit.normal, ⟨mkE 42 0 [(0, dL x2772), (1, dI x2773), (5, dI x2804), (6, dI t)], []⟩)) (Sum.elim (fun (t : Bool) => (Exit.ret, ⟨mkE 42 0 [(4, dB t)], []⟩)) (fun (t : Unit) => ((Exit.exit 2), ⟨mkE 42 0 [(0, dL x2772), (1, dI x2773), (5, dI x2804)], []⟩)))) := .of fun K h => by
  simp only [spec_OrderOk_n5, wpW] at h
  exact .of (by kernel_rfl) h

def spec_OrderOk_n6_l (x2772 : List Int) (x2773 : Int) (x2804 : Int) := (link_loop (mk := fun (s : Int) => ⟨mkE 42 0 [(0, dL x2772), (1, dI x2773), (5, dI x2804), (6, dI s)], []⟩) (fin := (Sum.elim (fun (t : Bool) => (Exit.ret, ⟨mkE 42 0 [(4, dB t)], []⟩)) (fun (t : Unit) => ((Exit.exit 2), ⟨mkE 42 0 [(0, dL x2772), (1, dI x2773), (5, dI x2804)], []⟩)))) (by
  rintro (t | t) f K h
  · exact h
  · exact h) (fun s => link_map (spec_OrderOk_n5_l x2772 x2773 x2804 s) (Sum.elim (fun (t : Int) => Sum.inl t) (Sum.elim (fun (t : Bool) => Sum.inr (Sum.inl t)) (fun (t : Unit) => Sum.inr (Sum.inr t)))) (by
  rintro (t | t | t)
  · kernel_rfl
  · kernel_rfl
  · kernel_rfl)) 0)

def spec_OrderOk_n7_l (x2772 : List Int) (x2773 : Int) (x2804 : Int) := (link_block (fin2 := (Sum.elim (fun (t : Unit) => (Exit.normal, ⟨mkE 42 0 [(0, dL x2772), (1, dI x2773), (5, dI x2804)], []⟩)) (fun (t : Bool) => (Exit.ret, ⟨mkE 42 0 [(4, dB t)], []⟩)))) (id := 2) (spec_OrderOk_n6_l x2772 x2773 x2804) (Sum.elim (fun (t : Bool) => (Sum.inr t)) (fun (t : Unit) => (Sum.inl ()))) (by
  rintro (t | t) K h
  · exact Eq.mp (by kernel_rfl) h
  · exact Eq.mp (by kernel_rfl) h))

def spec_OrderOk_n8_l (x2772 : List Int) (x2773 : Int) (x2804 : Int) := (link_group (c := (cq [0,1,0,0,1,0,0,1,0,1] (bodyOf Try.f28))) (a := (aq [0,1,0,0,1,0,0,1,0,1] spec_OrderOk_an)) [(cq [0,0,0,1,0,0,1,0,1] (bodyOf Try.f28))] [(aq [0,0,0,1,0,0,1,0,1] spec_OrderOk_an)] rfl (link_seq2 (spec_OrderOk_n4_l x2772 x2773 x2804) (fun (t : Unit) => (spec_OrderOk_n7_l x2772 x2773 x2804)) (fun (t : Bool) => (Sum.inr t)) (by
  rintro t
  · kernel_rfl) (by
  rintro t f K h
  · exact h)))

def spec_OrderOk_n9_l (x2772 : List Int) (x2773 : Int) (x2804 : Int) := (link_block (fin2 := (Sum.elim (fun (t : Unit) => (Exit.normal, ⟨mkE 42 0 [(0, dL x2772), (1, dI x2773), (5, dI x2804)], []⟩)) (fun (t : Bool) => (Exit.ret, ⟨mkE 42 0 [(4, dB t)], []⟩)))) (id := 1) (spec_OrderOk_n8_l x2772 x2773 x2804) (Sum.elim (fun (t : Unit) => (Sum.inl ())) (fun (t : Bool) => (Sum.inr t))) (by
  rintro (t | t) K h
  · exact Eq.mp (by kernel_rfl) h
  · exact Eq.mp (by kernel_rfl) h))

theorem spec_OrderOk_n10_l (x2772 : List Int) (x2773 : Int) (x2804 : Int) : Link spec_OrderOk_ctx LL (cq [1,1,0,0,1,0,1] (bodyOf Try.f28)) (aq [1,1,0,0,1,0,1] spec_OrderOk_an) ⟨mkE 42 0 [(0, dL x2772), (1, dI x2773), (5, dI x2804)], []⟩ (spec_OrderOk_n10 x2804) (fun (t : Int) => (Exit.normal, ⟨mkE 42 0 [(0, dL x2772), (1, dI x2773), (5, dI t)], []⟩)) := .of fun K h => by
  simp only [spec_OrderOk_n10, wpW] at h
  exact .of (by kernel_rfl) h

def spec_OrderOk_n11_l (x2772 : List Int) (x2773 : Int) (x2804 : Int) := (link_seq2 (spec_OrderOk_n9_l x2772 x2773 x2804) (fun (t : Unit) => (link_map (fin2 := (Sum.elim (fun (t : Int) => (Exit.normal, ⟨mkE 42 0 [(0, dL x2772), (1, dI x2773), (5, dI t)], []⟩)) (fun (t : Bool) => (Exit.ret, ⟨mkE 42 0 [(4, dB t)], []⟩)))) (spec_OrderOk_n10_l x2772 x2773 x2804) (fun (t : Int) => (Sum.inl t)) (by
  rintro t
  · kernel_rfl))) (fun (t : Bool) => (Sum.inr t)) (by
  rintro t
  · kernel_rfl) (by
  rintro t f K h
  · exact h))

def spec_OrderOk_n12_l (x2772 : List Int) (x2773 : Int) (x2804 : Int) := (link_seq2 (spec_OrderOk_n3_l x2772 x2773 x2804) (fun (t : Unit) => (link_map (fin2 := (Sum.elim (fun (t : Int) => (Exit.normal, ⟨mkE 42 0 [(0, dL x2772), (1, dI x2773), (5, dI t)], []⟩)) (Sum.elim (fun (t : Bool) => (Exit.ret, ⟨mkE 42 0 [(4, dB t)], []⟩)) (fun (t : Unit) => ((Exit.exit 0), ⟨mkE 42 0 [(0, dL x2772), (1, dI x2773)], []⟩))))) (spec_OrderOk_n11_l x2772 x2773 x2804) (Sum.elim (fun (t : Int) => (Sum.inl t)) (fun (t : Bool) => (Sum.inr (Sum.inl t)))) (by
  rintro (t | t)
  · kernel_rfl
  · kernel_rfl))) (fun (t : Unit) => (Sum.inr (Sum.inr t))) (by
  rintro t
  · kernel_rfl) (by
  rintro t f K h
  · exact h))

def spec_OrderOk_n13_l (x2772 : List Int) (x2773 : Int) := (link_loop (mk := fun (s : Int) => ⟨mkE 42 0 [(0, dL x2772), (1, dI x2773), (5, dI s)], []⟩) (fin := (Sum.elim (fun (t : Bool) => (Exit.ret, ⟨mkE 42 0 [(4, dB t)], []⟩)) (fun (t : Unit) => ((Exit.exit 0), ⟨mkE 42 0 [(0, dL x2772), (1, dI x2773)], []⟩)))) (by
  rintro (t | t) f K h
  · exact h
  · exact h) (fun s => link_map (spec_OrderOk_n12_l x2772 x2773 s) (Sum.elim (fun (t : Int) => Sum.inl t) (Sum.elim (fun (t : Bool) => Sum.inr (Sum.inl t)) (fun (t : Unit) => Sum.inr (Sum.inr t)))) (by
  rintro (t | t | t)
  · kernel_rfl
  · kernel_rfl
  · kernel_rfl)) 0)

def spec_OrderOk_n14_l (x2772 : List Int) (x2773 : Int) := (link_block (fin2 := (Sum.elim (fun (t : Unit) => (Exit.normal, ⟨mkE 42 0 [(0, dL x2772), (1, dI x2773)], []⟩)) (fun (t : Bool) => (Exit.ret, ⟨mkE 42 0 [(4, dB t)], []⟩)))) (id := 0) (spec_OrderOk_n13_l x2772 x2773) (Sum.elim (fun (t : Bool) => (Sum.inr t)) (fun (t : Unit) => (Sum.inl ()))) (by
  rintro (t | t) K h
  · exact Eq.mp (by kernel_rfl) h
  · exact Eq.mp (by kernel_rfl) h))

def spec_OrderOk_n15_l (x2772 : List Int) (x2773 : Int) := (link_seq (spec_OrderOk_n2_l x2772 x2773) (fun (t : Unit) => (spec_OrderOk_n14_l x2772 x2773)))

theorem spec_OrderOk_n16_l (x2772 : List Int) (x2773 : Int) : Link spec_OrderOk_ctx LL (cq [1,1] (bodyOf Try.f28)) (aq [1,1] spec_OrderOk_an) ⟨mkE 42 0 [(0, dL x2772), (1, dI x2773)], []⟩ (spec_OrderOk_n16 x2772 x2773) (fun (t : Bool) => (Exit.ret, ⟨mkE 42 0 [(4, dB t)], []⟩)) := .of fun K h => by
  simp only [spec_OrderOk_n16, wpW] at h
  exact .of (by kernel_rfl) h

def spec_OrderOk_n17_l (x2772 : List Int) (x2773 : Int) := (link_seq2 (spec_OrderOk_n15_l x2772 x2773) (fun (t : Unit) => (spec_OrderOk_n16_l x2772 x2773)) (fun (t : Bool) => t) (by
  rintro t
  · kernel_rfl) (by
  rintro t f K h
  · exact h))

def spec_OrderOk_n18_l (x2772 : List Int) (x2773 : Int) := (link_seq (spec_OrderOk_n1_l x2772 x2773) (fun (t : Unit) => (spec_OrderOk_n17_l x2772 x2773)))

theorem spec_OrderOk_e (x2772 : List Int) (x2773 : Int) {r : AV} {H' : Heap} (h : (Ans.mk _ (spec_OrderOk x2772 x2773) (fun (t : Bool) => (dB t, [])) [] none).run = some (r, H')) : Awp spec_OrderOk_ctx LL (bodyOf Try.f28) spec_OrderOk_an ⟨mkE 42 0 [(0, dL x2772), (1, dI x2773)], []⟩ (Ret (tlook tys) Try.f28.results.toList r H') :=
  ret_of' (Link.cast (by kernel_rfl) (by kernel_rfl) (spec_OrderOk_n18_l x2772 x2773)) (by unfold spec_OrderOk; kernel_rfl) (by
  intro t
  exact ret_mk [dB t] (by kernel_rfl) (by kernel_rfl) (by kernel_rfl) (by kernel_rfl)) h

def F_spec_OrderOk : Fun := fun avs H =>
  match avs, H with
  | [.dat (.list (.int .i64)) x2772, .dat (.int .i64) x2773], [] => ⟨_, spec_OrderOk x2772 x2773, fun (t : Bool) => (dB t, []), [], none⟩
  | _, _ => Ans.no

theorem spec_OrderOk_sound : Sound Try.prog 28 F_spec_OrderOk := by
  refine fn_sound' (C := spec_OrderOk_ctx) (c := bodyOf Try.f28) (cok_of tys_ok (allc spec_l1In_sound alln) (allc Try.call20 alln) (by kernel_rfl)) Try.func28 (by kernel_rfl) LL spec_OrderOk_an ?_
  intro avs H r H' h
  unfold F_spec_OrderOk at h
  split at h
  · refine Awp.cast ?_ ?_ ?_ (spec_OrderOk_e _ _ h) <;> kernel_rfl
  · simp [Ans.no, Ans.run] at h


/-! loop.example/headtrees/spec.PutInOrder -/

def spec_PutInOrder_an : Ann := (.seq (.leaf [0, 1]) (.seq (.seq (.leaf [0, 1, 19]) (.cond (.seq (.leaf [4, 5]) (.leaf [4, 5])) (.leaf [0, 1]))) (.seq (.leaf [0, 1, 6]) (.seq (.seq (.leaf [0, 1, 6, 7]) (.block (.loop (.seq (.seq (.leaf [0, 1, 6, 7, 28]) (.cond (.leaf [0, 1, 6, 7]) (.leaf [0, 1, 6]))) (.seq (.block (.leaf [0, 1, 6, 7])) (.leaf [0, 1, 6, 7])))))) (.seq (.leaf [0, 1, 6, 8]) (.seq (.seq (.leaf [0, 1, 6, 8, 9]) (.block (.loop (.seq (.seq (.leaf [0, 1, 6, 8, 9, 43]) (.cond (.leaf [0, 1, 6, 8, 9]) (.leaf [8]))) (.seq (.block (.leaf [0, 1, 6, 8, 9])) (.leaf [0, 1, 6, 8, 9])))))) (.seq (.leaf [4, 5]) (.leaf [4, 5]))))))))

noncomputable def spec_PutInOrder_ctx : Ctx := ⟨tlook tys, olook [(11, F_spec_TreeOk), (28, F_spec_OrderOk)], ioF, 0, false, []⟩

theorem spec_PutInOrder_n1_l (x2767 : List Int) (x2768 : List Int) : Link spec_PutInOrder_ctx LL (Code.seq (cq [0] (bodyOf Try.f22)) (Code.seq (cq [0,1] (bodyOf Try.f22)) (cq [0,1,1] (bodyOf Try.f22)))) (Ann.seq (aq [0] spec_PutInOrder_an) (Ann.seq (aq [0,1] spec_PutInOrder_an) (aq [0,1,1] spec_PutInOrder_an))) ⟨mkE 61 0 [(0, dL x2767), (1, dL x2768)], []⟩ (spec_PutInOrder_n1 x2767 x2768) (Sum.elim (fun (t : (List Int)) => (Exit.normal, ⟨mkE 61 0 [(0, dL x2767), (1, dL x2768), (6, .slc 0)], [some (sI t)]⟩)) (fun (t : Bool × (List Int)) => (Exit.ret, ⟨mkE 61 0 [(4, .slc 0), (5, dB t.1)], [some (sI t.2)]⟩))) := .of fun K h => by
  simp only [spec_PutInOrder_n1, wpW] at h
  exact .of (by kernel_rfl) h

theorem spec_PutInOrder_n2_l (x2767 : List Int) (x2768 : List Int) (x2852 : List Int) : Link spec_PutInOrder_ctx LL (cq [0,0,1,1,1] (bodyOf Try.f22)) (aq [0,0,1,1,1] spec_PutInOrder_an) ⟨mkE 61 0 [(0, dL x2767), (1, dL x2768), (6, .slc 0)], [some (sI x2852)]⟩ (spec_PutInOrder_n2) (fun (t : Unit) => (Exit.normal, ⟨mkE 61 0 [(0, dL x2767), (1, dL x2768), (6, .slc 0), (7, dI 0)], [some (sI x2852)]⟩)) := .of fun K h => by
  simp only [spec_PutInOrder_n2, wpW] at h
  exact .of (by kernel_rfl) h

theorem spec_PutInOrder_n3_l (x2767 : List Int) (x2768 : List Int) (x2868 : Int) (x2869 : List Int) : Link spec_PutInOrder_ctx LL (cq [0,0,1,0,1,1,1] (bodyOf Try.f22)) (aq [0,0,1,0,1,1,1] spec_PutInOrder_an) ⟨mkE 61 0 [(0, dL x2767), (1, dL x2768), (6, .slc 0), (7, dI x2868)], [some (sI x2869)]⟩ (spec_PutInOrder_n3 x2768 x2868 x2869) (Sum.elim (fun (t : Int × (List Int)) => (Exit.normal, ⟨mkE 61 0 [(0, dL x2767), (1, dL x2768), (6, .slc 0), (7, dI t.1)], [some (sI t.2)]⟩)) (fun (t : (List Int)) => ((Exit.exit 0), ⟨mkE 61 0 [(0, dL x2767), (1, dL x2768), (6, .slc 0)], [some (sI t)]⟩))) := .of fun K h => by
  simp only [spec_PutInOrder_n3, wpW] at h
  exact .of (by kernel_rfl) h

def spec_PutInOrder_n4_l (x2767 : List Int) (x2768 : List Int) (x2852 : List Int) := (link_loop (mk := fun (s : Int × (List Int)) => ⟨mkE 61 0 [(0, dL x2767), (1, dL x2768), (6, .slc 0), (7, dI s.1)], [some (sI s.2)]⟩) (fin := (fun (t : (List Int)) => ((Exit.exit 0), ⟨mkE 61 0 [(0, dL x2767), (1, dL x2768), (6, .slc 0)], [some (sI t)]⟩))) (by
  rintro t f K h
  · exact h) (fun s => link_map (spec_PutInOrder_n3_l x2767 x2768 s.1 s.2) (Sum.elim (fun (t : Int × (List Int)) => Sum.inl (t.1, t.2)) (fun (t : (List Int)) => Sum.inr t)) (by
  rintro (t | t)
  · kernel_rfl
  · kernel_rfl)) (0, x2852))

def spec_PutInOrder_n5_l (x2767 : List Int) (x2768 : List Int) (x2852 : List Int) := (link_block (fin2 := (fun (t : (List Int)) => (Exit.normal, ⟨mkE 61 0 [(0, dL x2767), (1, dL x2768), (6, .slc 0)], [some (sI t)]⟩))) (id := 0) (spec_PutInOrder_n4_l x2767 x2768 x2852) (fun (t : (List Int)) => t) (by
  rintro t K h
  · exact Eq.mp (by kernel_rfl) h))

def spec_PutInOrder_n6_l (x2767 : List Int) (x2768 : List Int) (x2852 : List Int) := (link_seq (spec_PutInOrder_n2_l x2767 x2768 x2852) (fun (t : Unit) => (spec_PutInOrder_n5_l x2767 x2768 x2852)))

theorem spec_PutInOrder_n7_l (x2767 : List Int) (x2768 : List Int) (x2869 : List Int) : Link spec_PutInOrder_ctx LL (cq [0,1,1,1,1] (bodyOf Try.f22)) (aq [0,1,1,1,1] spec_PutInOrder_an) ⟨mkE 61 0 [(0, dL x2767), (1, dL x2768), (6, .slc 0)], [some (sI x2869)]⟩ (spec_PutInOrder_n7) (fun (t : Unit) => (Exit.normal, ⟨mkE 61 0 [(0, dL x2767), (1, dL x2768), (6, .slc 0), (8, .slc 1)], [some (sI x2869), some (sI ([] : List Int))]⟩)) := .of fun K h => by
  simp only [spec_PutInOrder_n7, wpW] at h
  exact .of (by kernel_rfl) h

theorem spec_PutInOrder_n8_l (x2767 : List Int) (x2768 : List Int) (x2869 : List Int) : Link spec_PutInOrder_ctx LL (cq [0,0,1,1,1,1,1] (bodyOf Try.f22)) (aq [0,0,1,1,1,1,1] spec_PutInOrder_an) ⟨mkE 61 0 [(0, dL x2767), (1, dL x2768), (6, .slc 0), (8, .slc 1)], [some (sI x2869), some (sI ([] : List Int))]⟩ (spec_PutInOrder_n8) (fun (t : Unit) => (Exit.normal, ⟨mkE 61 0 [(0, dL x2767), (1, dL x2768), (6, .slc 0), (8, .slc 1), (9, dI 0)], [some (sI x2869), some (sI ([] : List Int))]⟩)) := .of fun K h => by
  simp only [spec_PutInOrder_n8, wpW] at h
  exact .of (by kernel_rfl) h

theorem spec_PutInOrder_n9_l (x2767 : List Int) (x2768 : List Int) (x2910 : Int) (x2869 : List Int) (x2911 : List Int) : Link spec_PutInOrder_ctx LL (cq [0,0,1,0,1,1,1,1,1] (bodyOf Try.f22)) (aq [0,0,1,0,1,1,1,1,1] spec_PutInOrder_an) ⟨mkE 61 0 [(0, dL x2767), (1, dL x2768), (6, .slc 0), (8, .slc 1), (9, dI x2910)], [some (sI x2869), some (sI x2911)]⟩ (spec_PutInOrder_n9 x2767 x2768 x2910 x2869 x2911) (Sum.elim (fun (t : Int × (List Int)) => (Exit.normal, ⟨mkE 61 0 [(0, dL x2767), (1, dL x2768), (6, .slc 0), (8, .slc 1), (9, dI t.1)], [some (sI x2869), some (sI t.2)]⟩)) (fun (t : (List Int)) => ((Exit.exit 2), ⟨mkE 61 0 [(8, .slc 0)], [some (sI t)]⟩))) := .of fun K h => by
  simp only [spec_PutInOrder_n9, wpW] at h
  exact .of (by kernel_rfl) h

def spec_PutInOrder_n10_l (x2767 : List Int) (x2768 : List Int) (x2869 : List Int) := (link_loop (mk := fun (s : Int × (List Int)) => ⟨mkE 61 0 [(0, dL x2767), (1, dL x2768), (6, .slc 0), (8, .slc 1), (9, dI s.1)], [some (sI x2869), some (sI s.2)]⟩) (fin := (fun (t : (List Int)) => ((Exit.exit 2), ⟨mkE 61 0 [(8, .slc 0)], [some (sI t)]⟩))) (by
  rintro t f K h
  · exact h) (fun s => link_map (spec_PutInOrder_n9_l x2767 x2768 s.1 x2869 s.2) (Sum.elim (fun (t : Int × (List Int)) => Sum.inl (t.1, t.2)) (fun (t : (List Int)) => Sum.inr t)) (by
  rintro (t | t)
  · kernel_rfl
  · kernel_rfl)) (0, ([] : List Int)))

def spec_PutInOrder_n11_l (x2767 : List Int) (x2768 : List Int) (x2869 : List Int) := (link_block (fin2 := (fun (t : (List Int)) => (Exit.normal, ⟨mkE 61 0 [(8, .slc 0)], [some (sI t)]⟩))) (id := 2) (spec_PutInOrder_n10_l x2767 x2768 x2869) (fun (t : (List Int)) => t) (by
  rintro t K h
  · exact Eq.mp (by kernel_rfl) h))

def spec_PutInOrder_n12_l (x2767 : List Int) (x2768 : List Int) (x2869 : List Int) := (link_seq (spec_PutInOrder_n8_l x2767 x2768 x2869) (fun (t : Unit) => (spec_PutInOrder_n11_l x2767 x2768 x2869)))

theorem spec_PutInOrder_n13_l (x2911 : List Int) : Link spec_PutInOrder_ctx LL (cq [1,1,1,1,1,1] (bodyOf Try.f22)) (aq [1,1,1,1,1,1] spec_PutInOrder_an) ⟨mkE 61 0 [(8, .slc 0)], [some (sI x2911)]⟩ (spec_PutInOrder_n13 x2911) (fun (t : Bool × (List Int)) => (Exit.ret, ⟨mkE 61 0 [(4, .slc 0), (5, dB t.1)], [some (sI t.2)]⟩)) := .of fun K h => by
  simp only [spec_PutInOrder_n13, wpW] at h
  exact .of (by kernel_rfl) h

def spec_PutInOrder_n14_l (x2767 : List Int) (x2768 : List Int) (x2869 : List Int) := (link_seq (spec_PutInOrder_n12_l x2767 x2768 x2869) (fun (t : (List Int)) => (spec_PutInOrder_n13_l t)))

def spec_PutInOrder_n15_l (x2767 : List Int) (x2768 : List Int) (x2869 : List Int) := (link_seq (spec_PutInOrder_n7_l x2767 x2768 x2869) (fun (t : Unit) => (spec_PutInOrder_n14_l x2767 x2768 x2869)))

def spec_PutInOrder_n16_l (x2767 : List Int) (x2768 : List Int) (x2852 : List Int) := (link_seq (spec_PutInOrder_n6_l x2767 x2768 x2852) (fun (t : (List Int)) => (spec_PutInOrder_n15_l x2767 x2768 t)))

def spec_PutInOrder_n17_l (x2767 : List Int) (x2768 : List Int) := (link_group (c := (cq [0,1,1] (bodyOf Try.f22))) (a := (aq [0,1,1] spec_PutInOrder_an)) [(cq [0] (bodyOf Try.f22)), (cq [0,1] (bodyOf Try.f22))] [(aq [0] spec_PutInOrder_an), (aq [0,1] spec_PutInOrder_an)] rfl (link_seq2 (spec_PutInOrder_n1_l x2767 x2768) (fun (t : (List Int)) => (spec_PutInOrder_n16_l x2767 x2768 t)) (fun (t : Bool × (List Int)) => t) (by
  rintro t
  · kernel_rfl) (by
  rintro t f K h
  · exact h)))

theorem spec_PutInOrder_e (x2767 : List Int) (x2768 : List Int) {r : AV} {H' : Heap} (h : (Ans.mk _ (spec_PutInOrder x2767 x2768) (fun (t : Bool × (List Int)) => (.tup [.slc 0, dB t.1], [some (sI t.2)])) [] none).run = some (r, H')) : Awp spec_PutInOrder_ctx LL (bodyOf Try.f22) spec_PutInOrder_an ⟨mkE 61 0 [(0, dL x2767), (1, dL x2768)], []⟩ (Ret (tlook tys) Try.f22.results.toList r H') :=
  ret_of' (Link.cast (by kernel_rfl) (by kernel_rfl) (spec_PutInOrder_n17_l x2767 x2768)) (by unfold spec_PutInOrder; kernel_rfl) (by
  intro t
  exact ret_mk [.slc 0, dB t.1] (by kernel_rfl) (by kernel_rfl) (by kernel_rfl) (by kernel_rfl)) h

def F_spec_PutInOrder : Fun := fun avs H =>
  match avs, H with
  | [.dat (.list (.int .i64)) x2767, .dat (.list (.int .i64)) x2768], [] => ⟨_, spec_PutInOrder x2767 x2768, fun (t : Bool × (List Int)) => (.tup [.slc 0, dB t.1], [some (sI t.2)]), [], none⟩
  | _, _ => Ans.no

theorem spec_PutInOrder_sound : Sound Try.prog 22 F_spec_PutInOrder := by
  refine fn_sound' (C := spec_PutInOrder_ctx) (c := bodyOf Try.f22) (cok_of tys_ok (allc spec_TreeOk_sound (allc spec_OrderOk_sound alln)) (allc Try.call11 (allc Try.call28 alln)) (by kernel_rfl)) Try.func22 (by kernel_rfl) LL spec_PutInOrder_an ?_
  intro avs H r H' h
  unfold F_spec_PutInOrder at h
  split at h
  · refine Awp.cast ?_ ?_ ?_ (spec_PutInOrder_e _ _ h) <;> kernel_rfl
  · simp [Ans.no, Ans.run] at h


/-! loop.example/headtrees/spec.l20Fill -/

def spec_l20Fill_an : Ann := (.seq (.seq (.leaf [0, 1, 2, 3, 4, 16]) (.cond (.leaf []) (.leaf [0, 1, 2, 3, 4]))) (.seq (.leaf [0, 1, 2, 3, 4, 10]) (.seq (.leaf [0, 1, 2, 3, 10]) (.seq (.leaf [0, 1, 3, 10, 11]) (.seq (.block (.loop (.seq (.seq (.leaf [0, 1, 3, 10, 11, 33]) (.cond (.leaf [0, 1, 3, 10, 11]) (.leaf [0, 1, 3, 10]))) (.block (.seq (.leaf [0, 1, 3, 10, 11, 12]) (.seq (.leaf [0, 1, 3, 10, 12]) (.leaf [0, 1, 3, 10, 11]))))))) (.seq (.leaf [0, 1, 3, 10, 11]) (.block (.loop (.seq (.seq (.leaf [0, 1, 3, 10, 11, 53]) (.cond (.leaf [0, 1, 3, 10, 11]) (.leaf []))) (.block (.seq (.leaf [0, 1, 3, 10, 11, 13]) (.seq (.leaf [0, 1, 3, 10, 13]) (.leaf [0, 1, 3, 10, 11])))))))))))))

def F_spec_l20Fill_fuel (n : Nat) : Fun := fun avs H =>
  match avs, H with
  | [.ptr 0 0, .slc 1, .dat (.int .i64) x3008, .dat (.int .i64) x3009, .dat (.int .i64) x3010], [some (.box [.dat (.list (.int .u8)) x3011, .dat (.int .i64) x3012]), some (.seq (.int .i64) x3013)] => ⟨_, spec_l20Fill_fuel n x3008 x3009 x3010 x3011 x3012 x3013, fun (t : Int × (List Int)) => (.tup [], [some (.box [dV x3011, dI t.1]), some (sI t.2)]), [], none⟩
  | _, _ => Ans.no

noncomputable def spec_l20Fill_ctx (n : Nat) : Ctx := ⟨tlook tys, olook [(14, F_spec_l20Rd_pick), (29, F_spec_l20Fill_fuel n)], ioF, 2, false, []⟩

theorem spec_l20Fill_n1_l (n : Nat) (x3008 : Int) (x3009 : Int) (x3010 : Int) (x3011 : List Int) (x3012 : Int) (x3013 : List Int) : Link (spec_l20Fill_ctx n) LL (Code.seq (cq [0] (bodyOf Try.f29)) (Code.seq (cq [0,1] (bodyOf Try.f29)) (Code.seq (cq [0,1,1] (bodyOf Try.f29)) (cq [0,1,1,1] (bodyOf Try.f29))))) (Ann.seq (aq [0] spec_l20Fill_an) (Ann.seq (aq [0,1] spec_l20Fill_an) (Ann.seq (aq [0,1,1] spec_l20Fill_an) (aq [0,1,1,1] spec_l20Fill_an)))) ⟨mkE 70 0 [(0, .ptr 0 0), (1, .slc 1), (2, dI x3008), (3, dI x3009), (4, dI x3010)], [some (.box [dV x3011, dI x3012]), some (sI x3013)]⟩ (spec_l20Fill_n1 (spec_l20Fill_fuel n) x3008 x3009 x3010 x3011 x3012 x3013) (Sum.elim (fun (t : Int × Int × (List Int)) => (Exit.normal, ⟨mkE 70 0 [(0, .ptr 0 0), (1, .slc 1), (3, dI x3009), (10, dI t.1), (11, dI x3008)], [some (.box [dV x3011, dI t.2.1]), some (sI t.2.2)]⟩)) (fun (t : Int × (List Int)) => (Exit.ret, ⟨mkE 70 0 [], [some (.box [dV x3011, dI t.1]), some (sI t.2)]⟩))) := .of fun K h => by
  simp only [spec_l20Fill_n1, wpW] at h
  exact .of (by kernel_rfl) h

theorem spec_l20Fill_n2_l (n : Nat) (x3009 : Int) (x3084 : Int) (x3099 : Int) (x3011 : List Int) (x3100 : Int) (x3101 : List Int) : Link (spec_l20Fill_ctx n) LL (cq [0,0,0,1,1,1,1] (bodyOf Try.f29)) (aq [0,0,0,1,1,1,1] spec_l20Fill_an) ⟨mkE 70 0 [(0, .ptr 0 0), (1, .slc 1), (3, dI x3009), (10, dI x3084), (11, dI x3099)], [some (.box [dV x3011, dI x3100]), some (sI x3101)]⟩ (spec_l20Fill_n2 (spec_l20Fill_fuel n) x3084 x3099 x3011 x3100 x3101) (Sum.elim (fun (t : Int × Int × (List Int)) => (Exit.normal, ⟨mkE 70 0 [(0, .ptr 0 0), (1, .slc 1), (3, dI x3009), (10, dI x3084), (11, dI t.1)], [some (.box [dV x3011, dI t.2.1]), some (sI t.2.2)]⟩)) (fun (t : Int × (List Int)) => ((Exit.exit 0), ⟨mkE 70 0 [(0, .ptr 0 0), (1, .slc 1), (3, dI x3009), (10, dI x3084)], [some (.box [dV x3011, dI t.1]), some (sI t.2)]⟩))) := .of fun K h => by
  simp only [spec_l20Fill_n2, wpW] at h
  exact .of (by kernel_rfl) h

def spec_l20Fill_n3_l (n : Nat) (x3009 : Int) (x3084 : Int) (x3008 : Int) (x3011 : List Int) (x3083 : Int) (x3087 : List Int) := (link_loop (mk := fun (s : Int × Int × (List Int)) => ⟨mkE 70 0 [(0, .ptr 0 0), (1, .slc 1), (3, dI x3009), (10, dI x3084), (11, dI s.1)], [some (.box [dV x3011, dI s.2.1]), some (sI s.2.2)]⟩) (fin := (fun (t : Int × (List Int)) => ((Exit.exit 0), ⟨mkE 70 0 [(0, .ptr 0 0), (1, .slc 1), (3, dI x3009), (10, dI x3084)], [some (.box [dV x3011, dI t.1]), some (sI t.2)]⟩))) (by
  rintro t f K h
  · exact h) (fun s => link_map (spec_l20Fill_n2_l n x3009 x3084 s.1 x3011 s.2.1 s.2.2) (Sum.elim (fun (t : Int × Int × (List Int)) => Sum.inl (t.1, t.2.1, t.2.2)) (fun (t : Int × (List Int)) => Sum.inr t)) (by
  rintro (t | t)
  · kernel_rfl
  · kernel_rfl)) (x3008, x3083, x3087))

def spec_l20Fill_n4_l (n : Nat) (x3009 : Int) (x3084 : Int) (x3008 : Int) (x3011 : List Int) (x3083 : Int) (x3087 : List Int) := (link_block (fin2 := (fun (t : Int × (List Int)) => (Exit.normal, ⟨mkE 70 0 [(0, .ptr 0 0), (1, .slc 1), (3, dI x3009), (10, dI x3084)], [some (.box [dV x3011, dI t.1]), some (sI t.2)]⟩))) (id := 0) (spec_l20Fill_n3_l n x3009 x3084 x3008 x3011 x3083 x3087) (fun (t : Int × (List Int)) => (t.1, t.2)) (by
  rintro t K h
  · exact Eq.mp (by kernel_rfl) h))

theorem spec_l20Fill_n5_l (n : Nat) (x3009 : Int) (x3084 : Int) (x3011 : List Int) (x3100 : Int) (x3101 : List Int) : Link (spec_l20Fill_ctx n) LL (cq [0,1,1,1,1,1] (bodyOf Try.f29)) (aq [0,1,1,1,1,1] spec_l20Fill_an) ⟨mkE 70 0 [(0, .ptr 0 0), (1, .slc 1), (3, dI x3009), (10, dI x3084)], [some (.box [dV x3011, dI x3100]), some (sI x3101)]⟩ (spec_l20Fill_n5 (spec_l20Fill_fuel n) x3084) (fun (t : Int) => (Exit.normal, ⟨mkE 70 0 [(0, .ptr 0 0), (1, .slc 1), (3, dI x3009), (10, dI x3084), (11, dI t)], [some (.box [dV x3011, dI x3100]), some (sI x3101)]⟩)) := .of fun K h => by
  simp only [spec_l20Fill_n5, wpW] at h
  exact .of (by kernel_rfl) h

theorem spec_l20Fill_n6_l (n : Nat) (x3009 : Int) (x3084 : Int) (x3126 : Int) (x3011 : List Int) (x3127 : Int) (x3128 : List Int) : Link (spec_l20Fill_ctx n) LL (cq [0,0,1,1,1,1,1,1] (bodyOf Try.f29)) (aq [0,0,1,1,1,1,1,1] spec_l20Fill_an) ⟨mkE 70 0 [(0, .ptr 0 0), (1, .slc 1), (3, dI x3009), (10, dI x3084), (11, dI x3126)], [some (.box [dV x3011, dI x3127]), some (sI x3128)]⟩ (spec_l20Fill_n6 (spec_l20Fill_fuel n) x3009 x3084 x3126 x3011 x3127 x3128) (Sum.elim (fun (t : Int × Int × (List Int)) => (Exit.normal, ⟨mkE 70 0 [(0, .ptr 0 0), (1, .slc 1), (3, dI x3009), (10, dI x3084), (11, dI t.1)], [some (.box [dV x3011, dI t.2.1]), some (sI t.2.2)]⟩)) (fun (t : Int × (List Int)) => ((Exit.exit 2), ⟨mkE 70 0 [], [some (.box [dV x3011, dI t.1]), some (sI t.2)]⟩))) := .of fun K h => by
  simp only [spec_l20Fill_n6, wpW] at h
  exact .of (by kernel_rfl) h

def spec_l20Fill_n7_l (n : Nat) (x3009 : Int) (x3084 : Int) (x3113 : Int) (x3011 : List Int) (x3100 : Int) (x3101 : List Int) := (link_loop (mk := fun (s : Int × Int × (List Int)) => ⟨mkE 70 0 [(0, .ptr 0 0), (1, .slc 1), (3, dI x3009), (10, dI x3084), (11, dI s.1)], [some (.box [dV x3011, dI s.2.1]), some (sI s.2.2)]⟩) (fin := (fun (t : Int × (List Int)) => ((Exit.exit 2), ⟨mkE 70 0 [], [some (.box [dV x3011, dI t.1]), some (sI t.2)]⟩))) (by
  rintro t f K h
  · exact h) (fun s => link_map (spec_l20Fill_n6_l n x3009 x3084 s.1 x3011 s.2.1 s.2.2) (Sum.elim (fun (t : Int × Int × (List Int)) => Sum.inl (t.1, t.2.1, t.2.2)) (fun (t : Int × (List Int)) => Sum.inr t)) (by
  rintro (t | t)
  · kernel_rfl
  · kernel_rfl)) (x3113, x3100, x3101))

def spec_l20Fill_n8_l (n : Nat) (x3009 : Int) (x3084 : Int) (x3113 : Int) (x3011 : List Int) (x3100 : Int) (x3101 : List Int) := (link_block (fin2 := (fun (t : Int × (List Int)) => (Exit.normal, ⟨mkE 70 0 [], [some (.box [dV x3011, dI t.1]), some (sI t.2)]⟩))) (id := 2) (spec_l20Fill_n7_l n x3009 x3084 x3113 x3011 x3100 x3101) (fun (t : Int × (List Int)) => (t.1, t.2)) (by
  rintro t K h
  · exact Eq.mp (by kernel_rfl) h))

def spec_l20Fill_n9_l (n : Nat) (x3009 : Int) (x3084 : Int) (x3011 : List Int) (x3100 : Int) (x3101 : List Int) := (link_seq (spec_l20Fill_n5_l n x3009 x3084 x3011 x3100 x3101) (fun (t : Int) => (spec_l20Fill_n8_l n x3009 x3084 t x3011 x3100 x3101)))

def spec_l20Fill_n10_l (n : Nat) (x3009 : Int) (x3084 : Int) (x3008 : Int) (x3011 : List Int) (x3083 : Int) (x3087 : List Int) := (link_seq (spec_l20Fill_n4_l n x3009 x3084 x3008 x3011 x3083 x3087) (fun (t : Int × (List Int)) => (spec_l20Fill_n9_l n x3009 x3084 x3011 t.1 t.2)))

def spec_l20Fill_n11_l (n : Nat) (x3008 : Int) (x3009 : Int) (x3010 : Int) (x3011 : List Int) (x3012 : Int) (x3013 : List Int) := (link_group (c := (cq [0,1,1,1] (bodyOf Try.f29))) (a := (aq [0,1,1,1] spec_l20Fill_an)) [(cq [0] (bodyOf Try.f29)), (cq [0,1] (bodyOf Try.f29)), (cq [0,1,1] (bodyOf Try.f29))] [(aq [0] spec_l20Fill_an), (aq [0,1] spec_l20Fill_an), (aq [0,1,1] spec_l20Fill_an)] rfl (link_seq2 (spec_l20Fill_n1_l n x3008 x3009 x3010 x3011 x3012 x3013) (fun (t : Int × Int × (List Int)) => (link_map (fin2 := (Sum.elim (fun (t : Int × (List Int)) => (Exit.normal, ⟨mkE 70 0 [], [some (.box [dV x3011, dI t.1]), some (sI t.2)]⟩)) (fun (t : Int × (List Int)) => (Exit.ret, ⟨mkE 70 0 [], [some (.box [dV x3011, dI t.1]), some (sI t.2)]⟩)))) (spec_l20Fill_n10_l n x3009 t.1 x3008 x3011 t.2.1 t.2.2) (fun (u : Int × (List Int)) => (Sum.inl (u.1, u.2))) (by
  rintro t
  · kernel_rfl))) (fun (t : Int × (List Int)) => (Sum.inr t)) (by
  rintro t
  · kernel_rfl) (by
  rintro t f K h
  · exact h)))

theorem spec_l20Fill_e (n : Nat) (x3008 : Int) (x3009 : Int) (x3010 : Int) (x3011 : List Int) (x3012 : Int) (x3013 : List Int) {r : AV} {H' : Heap} (h : (Ans.mk _ (spec_l20Fill_fuel (n + 1) x3008 x3009 x3010 x3011 x3012 x3013) (fun (t : Int × (List Int)) => (.tup [], [some (.box [dV x3011, dI t.1]), some (sI t.2)])) [] none).run = some (r, H')) : Awp (spec_l20Fill_ctx n) LL (bodyOf Try.f29) spec_l20Fill_an ⟨mkE 70 0 [(0, .ptr 0 0), (1, .slc 1), (2, dI x3008), (3, dI x3009), (4, dI x3010)], [some (.box [dV x3011, dI x3012]), some (sI x3013)]⟩ (Ret (tlook tys) Try.f29.results.toList r H') :=
  ret_of (Link.cast (by kernel_rfl) (by kernel_rfl) (spec_l20Fill_n11_l n x3008 x3009 x3010 x3011 x3012 x3013)) (Sum.elim (fun (t : Int × (List Int)) => (t.1, t.2)) (fun (t : Int × (List Int)) => t)) (by (show _ = _); kernel_rfl) (by
  rintro (t | t)
  · exact ret_mk [] (by kernel_rfl) (by kernel_rfl) (by kernel_rfl) (by kernel_rfl)
  · exact ret_mk [] (by kernel_rfl) (by kernel_rfl) (by kernel_rfl) (by kernel_rfl)) h

theorem spec_l20Fill_step (n : Nat) (h29 : Sound Try.prog 29 (F_spec_l20Fill_fuel n)) : Sound Try.prog 29 (F_spec_l20Fill_fuel (n + 1)) := by
  refine fn_sound' (C := spec_l20Fill_ctx n) (c := bodyOf Try.f29) (cok_of tys_ok (allc spec_l20Rd_pick_sound (allc h29 alln)) (allc Try.call14 (allc Try.call29 alln)) (by kernel_rfl)) Try.func29 (by kernel_rfl) LL spec_l20Fill_an ?_
  intro avs H r H' h
  unfold F_spec_l20Fill_fuel at h
  split at h
  · refine Awp.cast ?_ ?_ ?_ (spec_l20Fill_e n _ _ _ _ _ _ h) <;> kernel_rfl
  · simp [Ans.no, Ans.run] at h

theorem spec_l20Fill_null : Sound Try.prog 29 (F_spec_l20Fill_fuel 0) := by
  intro avs H r H' h
  unfold F_spec_l20Fill_fuel at h
  split at h
  · simp [spec_l20Fill_fuel, spec_l20Fill_knot, Ans.run] at h
  · simp [Ans.no, Ans.run] at h

theorem spec_l20Fill_knot_all : ∀ n, Sound Try.prog 29 (F_spec_l20Fill_fuel n)
  | 0 => spec_l20Fill_null
  | n + 1 => by
    have h29 := spec_l20Fill_knot_all n
    exact spec_l20Fill_step n h29

def F_spec_l20Fill : Fun := fun avs H =>
  match avs, H with
  | [.ptr 0 0, .slc 1, .dat (.int .i64) x3008, .dat (.int .i64) x3009, .dat (.int .i64) x3010], [some (.box [.dat (.list (.int .u8)) x3011, .dat (.int .i64) x3012]), some (.seq (.int .i64) x3013)] => ⟨_, spec_l20Fill x3008 x3009 x3010 x3011 x3012 x3013, fun (t : Int × (List Int)) => (.tup [], [some (.box [dV x3011, dI t.1]), some (sI t.2)]), [], none⟩
  | _, _ => Ans.no

theorem spec_l20Fill_sound : Sound Try.prog 29 F_spec_l20Fill := by
  have e : F_spec_l20Fill = F_spec_l20Fill_fuel RR := by
    funext avs H
    unfold F_spec_l20Fill F_spec_l20Fill_fuel
    split <;> first | rfl | (simp only [spec_l20Fill])
  rw [e]
  exact (spec_l20Fill_knot_all RR)


/-! loop.example/headtrees/spec.l20Flat -/

def spec_l20Flat_an : Ann := (.seq (.leaf [0, 1]) (.seq (.seq (.leaf [0, 1, 9]) (.cond (.seq (.leaf [4]) (.leaf [4])) (.leaf [0]))) (.seq (.leaf [0, 5]) (.seq (.leaf [0, 5, 6]) (.seq (.leaf [6]) (.seq (.leaf [4]) (.leaf [4])))))))

noncomputable def spec_l20Flat_ctx : Ctx := ⟨tlook tys, olook [(14, F_spec_l20Rd_pick), (21, F_spec_l20Tree), (29, F_spec_l20Fill)], ioF, 1, false, []⟩

theorem spec_l20Flat_n1_l (x2961 : Int) (x2962 : List Int) (x2963 : Int) : Link spec_l20Flat_ctx LL (bodyOf Try.f24) spec_l20Flat_an ⟨mkE 23 0 [(0, .ptr 0 0), (1, dI x2961)], [some (.box [dV x2962, dI x2963])]⟩ (spec_l20Flat_n1 x2961 x2962 x2963) (fun (t : Int × (List Int)) => (Exit.ret, ⟨mkE 23 0 [(4, .slc 1)], [some (.box [dV x2962, dI t.1]), some (sI t.2)]⟩)) := .of fun K h => by
  simp only [spec_l20Flat_n1, wpW] at h
  exact .of (by kernel_rfl) h

theorem spec_l20Flat_e (x2961 : Int) (x2962 : List Int) (x2963 : Int) {r : AV} {H' : Heap} (h : (Ans.mk _ (spec_l20Flat x2961 x2962 x2963) (fun (t : Int × (List Int)) => (.slc 1, [some (.box [dV x2962, dI t.1]), some (sI t.2)])) [] none).run = some (r, H')) : Awp spec_l20Flat_ctx LL (bodyOf Try.f24) spec_l20Flat_an ⟨mkE 23 0 [(0, .ptr 0 0), (1, dI x2961)], [some (.box [dV x2962, dI x2963])]⟩ (Ret (tlook tys) Try.f24.results.toList r H') :=
  ret_of' (spec_l20Flat_n1_l x2961 x2962 x2963) (by unfold spec_l20Flat; kernel_rfl) (by
  intro t
  exact ret_mk [.slc 1] (by kernel_rfl) (by kernel_rfl) (by kernel_rfl) (by kernel_rfl)) h

def F_spec_l20Flat : Fun := fun avs H =>
  match avs, H with
  | [.ptr 0 0, .dat (.int .i64) x2961], [some (.box [.dat (.list (.int .u8)) x2962, .dat (.int .i64) x2963])] => ⟨_, spec_l20Flat x2961 x2962 x2963, fun (t : Int × (List Int)) => (.slc 1, [some (.box [dV x2962, dI t.1]), some (sI t.2)]), [], none⟩
  | _, _ => Ans.no

theorem spec_l20Flat_sound : Sound Try.prog 24 F_spec_l20Flat := by
  refine fn_sound' (C := spec_l20Flat_ctx) (c := bodyOf Try.f24) (cok_of tys_ok (allc spec_l20Rd_pick_sound (allc spec_l20Tree_sound (allc spec_l20Fill_sound alln))) (allc Try.call14 (allc Try.call21 (allc Try.call29 alln))) (by kernel_rfl)) Try.func24 (by kernel_rfl) LL spec_l20Flat_an ?_
  intro avs H r H' h
  unfold F_spec_l20Flat at h
  split at h
  · refine Awp.cast ?_ ?_ ?_ (spec_l20Flat_e _ _ _ h) <;> kernel_rfl
  · simp [Ans.no, Ans.run] at h


/-! loop.example/headtrees/spec.l20Wild -/

def spec_l20Wild_an : Ann := (.seq (.leaf [0, 1]) (.seq (.leaf [0, 1, 5]) (.seq (.seq (.leaf [0, 1, 5, 17]) (.cond (.seq (.leaf [6]) (.seq (.leaf [4]) (.leaf [4]))) (.leaf [0, 1, 5]))) (.seq (.seq (.leaf [0, 1, 5, 30]) (.cond (.seq (.leaf [4]) (.leaf [4])) (.leaf [5]))) (.seq (.leaf [4]) (.leaf [4]))))))

noncomputable def spec_l20Wild_ctx : Ctx := ⟨tlook tys, olook [(21, F_spec_l20Tree), (14, F_spec_l20Rd_pick), (11, F_spec_TreeOk), (23, F_spec_l20Order), (22, F_spec_PutInOrder), (24, F_spec_l20Flat)], ioF, 1, false, []⟩

theorem spec_l20Wild_n1_l (x1882 : Int) (x1883 : List Int) (x1884 : Int) : Link spec_l20Wild_ctx LL (bodyOf Try.f13) spec_l20Wild_an ⟨mkE 35 0 [(0, .ptr 0 0), (1, dI x1882)], [some (.box [dV x1883, dI x1884])]⟩ (spec_l20Wild_n1 x1882 x1883 x1884) (fun (t : Int × (List Int)) => (Exit.ret, ⟨mkE 35 0 [(4, .slc 1)], [some (.box [dV x1883, dI t.1]), some (sI t.2)]⟩)) := .of fun K h => by
  simp only [spec_l20Wild_n1, wpW] at h
  exact .of (by kernel_rfl) h

theorem spec_l20Wild_e (x1882 : Int) (x1883 : List Int) (x1884 : Int) {r : AV} {H' : Heap} (h : (Ans.mk _ (spec_l20Wild x1882 x1883 x1884) (fun (t : Int × (List Int)) => (.slc 1, [some (.box [dV x1883, dI t.1]), some (sI t.2)])) [] none).run = some (r, H')) : Awp spec_l20Wild_ctx LL (bodyOf Try.f13) spec_l20Wild_an ⟨mkE 35 0 [(0, .ptr 0 0), (1, dI x1882)], [some (.box [dV x1883, dI x1884])]⟩ (Ret (tlook tys) Try.f13.results.toList r H') :=
  ret_of' (spec_l20Wild_n1_l x1882 x1883 x1884) (by unfold spec_l20Wild; kernel_rfl) (by
  intro t
  exact ret_mk [.slc 1] (by kernel_rfl) (by kernel_rfl) (by kernel_rfl) (by kernel_rfl)) h

def F_spec_l20Wild : Fun := fun avs H =>
  match avs, H with
  | [.ptr 0 0, .dat (.int .i64) x1882], [some (.box [.dat (.list (.int .u8)) x1883, .dat (.int .i64) x1884])] => ⟨_, spec_l20Wild x1882 x1883 x1884, fun (t : Int × (List Int)) => (.slc 1, [some (.box [dV x1883, dI t.1]), some (sI t.2)]), [], none⟩
  | _, _ => Ans.no

theorem spec_l20Wild_sound : Sound Try.prog 13 F_spec_l20Wild := by
  refine fn_sound' (C := spec_l20Wild_ctx) (c := bodyOf Try.f13) (cok_of tys_ok (allc spec_l20Tree_sound (allc spec_l20Rd_pick_sound (allc spec_TreeOk_sound (allc spec_l20Order_sound (allc spec_PutInOrder_sound (allc spec_l20Flat_sound alln)))))) (allc Try.call21 (allc Try.call14 (allc Try.call11 (allc Try.call23 (allc Try.call22 (allc Try.call24 alln)))))) (by kernel_rfl)) Try.func13 (by kernel_rfl) LL spec_l20Wild_an ?_
  intro avs H r H' h
  unfold F_spec_l20Wild at h
  split at h
  · refine Awp.cast ?_ ?_ ?_ (spec_l20Wild_e _ _ _ h) <;> kernel_rfl
  · simp [Ans.no, Ans.run] at h


/-! loop.example/headtrees/spec.DeskNew -/

def spec_DeskNew_an : Ann := (.seq (.leaf [0, 2]) (.seq (.seq (.leaf [0, 2, 6]) (.cond (.seq (.leaf [2, 3]) (.leafF [⟨0, 2, false, some 0, some (.int .i64)⟩] [2, 3])) (.leaf [0, 2]))) (.seq (.leaf [2, 3]) (.leaf [2, 3]))))

noncomputable def spec_DeskNew_ctx : Ctx := ⟨tlook tys, olook [(11, F_spec_TreeOk)], ioF, 0, false, []⟩

theorem spec_DeskNew_n1_l (x3253 : List Int) : Link spec_DeskNew_ctx LL (bodyOf Try.f12) spec_DeskNew_an ⟨mkE 12 0 [(0, dL x3253)], []⟩ (spec_DeskNew_n1 x3253) (fun (t : Bool × (List Int)) => (Exit.ret, ⟨mkE 12 0 [(2, .ptr 0 0), (3, dB t.1)], [some (.box [.slc 1, .nils]), some (sI t.2)]⟩)) := .of fun K h => by
  simp only [spec_DeskNew_n1, wpW] at h
  exact .of (by kernel_rfl) h

theorem spec_DeskNew_e (x3253 : List Int) {r : AV} {H' : Heap} (h : (Ans.mk _ (spec_DeskNew x3253) (fun (t : Bool × (List Int)) => (.tup [.agg [.slc 1, .nils], dB t.1], [some (.box [.slc 1, .nils]), some (sI t.2)])) [] none).run = some (r, H')) : Awp spec_DeskNew_ctx LL (bodyOf Try.f12) spec_DeskNew_an ⟨mkE 12 0 [(0, dL x3253)], []⟩ (Ret (tlook tys) Try.f12.results.toList r H') :=
  ret_of' (spec_DeskNew_n1_l x3253) (by unfold spec_DeskNew; kernel_rfl) (by
  intro t
  exact ret_mk [.agg [.slc 1, .nils], dB t.1] (by kernel_rfl) (by kernel_rfl) (by kernel_rfl) (by kernel_rfl)) h

def F_spec_DeskNew : Fun := fun avs H =>
  match avs, H with
  | [.dat (.list (.int .i64)) x3253], [] => ⟨_, spec_DeskNew x3253, fun (t : Bool × (List Int)) => (.tup [.agg [.slc 1, .nils], dB t.1], [some (.box [.slc 1, .nils]), some (sI t.2)]), [], none⟩
  | _, _ => Ans.no

theorem spec_DeskNew_sound : Sound Try.prog 12 F_spec_DeskNew := by
  refine fn_sound' (C := spec_DeskNew_ctx) (c := bodyOf Try.f12) (cok_of tys_ok (allc spec_TreeOk_sound alln) (allc Try.call11 alln) (by kernel_rfl)) Try.func12 (by kernel_rfl) LL spec_DeskNew_an ?_
  intro avs H r H' h
  unfold F_spec_DeskNew at h
  split at h
  · refine Awp.cast ?_ ?_ ?_ (spec_DeskNew_e _ h) <;> kernel_rfl
  · simp [Ans.no, Ans.run] at h


/-! loop.example/headtrees/spec.l20Deed -/

def spec_l20Deed_an : Ann := (.seq (.leaf [0, 1, 4]) (.seq (.draw [0, 3, 4] [0, 1, 5, 2, 3, 4, 6, 7, 8, 9, 10, 11, 12] [] [0, 1, 4, 5]) (.seq (.seq (.leaf [0, 1, 4, 5, 18]) (.block (.seq (.leaf [0, 1, 4, 5, 18, 19]) (.cond (.seq (.leaf [0, 1, 4, 5]) (.leaf [0, 4, 5])) (.seq (.leaf [0, 1, 4, 5, 34]) (.cond (.leaf [0, 4, 5]) (.leaf [0, 4, 5]))))))) (.seq (.seq (.leaf [0, 4, 5, 47]) (.cond (.leaf [4, 5]) (.leaf [4, 5]))) (.seq (.leaf [4]) (.leaf [4]))))))

noncomputable def spec_l20Deed_ctx : Ctx := ⟨tlook tys, olook [(14, F_spec_l20Rd_pick), (17, F_spec_l20Rd_odd)], ioF, 1, false, []⟩

theorem spec_l20Deed_n1_l (x3332 : List Int) (x3333 : List Int) (x3334 : Int) : Link spec_l20Deed_ctx LL (bodyOf Try.f16) spec_l20Deed_an ⟨mkE 55 0 [(0, .ptr 0 0), (1, dL x3332)], [some (.box [dV x3333, dI x3334])]⟩ (spec_l20Deed_n1 x3332 x3333 x3334) (fun (t : Int × Int × Int × Int) => (Exit.ret, ⟨mkE 55 0 [(4, .ptr 1 0)], [some (.box [dV x3333, dI t.1]), some (.box [dI t.2.1, dI t.2.2.1, dI t.2.2.2])]⟩)) := .of fun K h => by
  simp only [spec_l20Deed_n1, wpW] at h
  exact .of (by kernel_rfl) h

theorem spec_l20Deed_e (x3332 : List Int) (x3333 : List Int) (x3334 : Int) {r : AV} {H' : Heap} (h : (Ans.mk _ (spec_l20Deed x3332 x3333 x3334) (fun (t : Int × Int × Int × Int) => (.agg [dI t.2.1, dI t.2.2.1, dI t.2.2.2], [some (.box [dV x3333, dI t.1]), some (.box [dI t.2.1, dI t.2.2.1, dI t.2.2.2])])) [] none).run = some (r, H')) : Awp spec_l20Deed_ctx LL (bodyOf Try.f16) spec_l20Deed_an ⟨mkE 55 0 [(0, .ptr 0 0), (1, dL x3332)], [some (.box [dV x3333, dI x3334])]⟩ (Ret (tlook tys) Try.f16.results.toList r H') :=
  ret_of' (spec_l20Deed_n1_l x3332 x3333 x3334) (by unfold spec_l20Deed; kernel_rfl) (by
  intro t
  exact ret_mk [.agg [dI t.2.1, dI t.2.2.1, dI t.2.2.2]] (by kernel_rfl) (by kernel_rfl) (by kernel_rfl) (by kernel_rfl)) h

def F_spec_l20Deed : Fun := fun avs H =>
  match avs, H with
  | [.ptr 0 0, .dat (.list (.int .i64)) x3332], [some (.box [.dat (.list (.int .u8)) x3333, .dat (.int .i64) x3334])] => ⟨_, spec_l20Deed x3332 x3333 x3334, fun (t : Int × Int × Int × Int) => (.agg [dI t.2.1, dI t.2.2.1, dI t.2.2.2], [some (.box [dV x3333, dI t.1]), some (.box [dI t.2.1, dI t.2.2.1, dI t.2.2.2])]), [], none⟩
  | _, _ => Ans.no

theorem spec_l20Deed_sound : Sound Try.prog 16 F_spec_l20Deed := by
  refine fn_sound' (C := spec_l20Deed_ctx) (c := bodyOf Try.f16) (cok_of tys_ok (allc spec_l20Rd_pick_sound (allc spec_l20Rd_odd_sound alln)) (allc Try.call14 (allc Try.call17 alln)) (by kernel_rfl)) Try.func16 (by kernel_rfl) LL spec_l20Deed_an ?_
  intro avs H r H' h
  unfold F_spec_l20Deed at h
  split at h
  · refine Awp.cast ?_ ?_ ?_ (spec_l20Deed_e _ _ _ h) <;> kernel_rfl
  · simp [Ans.no, Ans.run] at h


/-! loop.example/headtrees/spec.DeskOk -/

def spec_DeskOk_an : Ann := (.seq (.leaf [1]) (.seq (.seq (.leaf [1, 3]) (.block (.loop (.seq (.seq (.leaf [1, 3, 8]) (.cond (.leaf [1, 3]) (.leaf [1]))) (.seq (.block (.seq (.leaf [1, 3, 17]) (.cond (.seq (.leaf [2]) (.leaf [2])) (.leaf [1, 3])))) (.leaf [1, 3])))))) (.seq (.leaf [2]) (.leaf [2]))))

noncomputable def spec_DeskOk_ctx : Ctx := ⟨tlook tys, olook [(11, F_spec_TreeOk)], ioF, 0, false, []⟩

theorem spec_DeskOk_n1_l (x3606 : List Int) (x3607 : List (List Int)) : Link spec_DeskOk_ctx LL (cq [0] (bodyOf Try.f6)) (aq [0] spec_DeskOk_an) ⟨mkE 27 0 [(0, .agg [dL x3606, .dat (.list (.list (.int .i64))) x3607])], []⟩ (spec_DeskOk_n1) (fun (t : Unit) => (Exit.normal, ⟨mkE 27 0 [(1, .ptr 0 0)], [some (.box [dL x3606, .dat (.list (.list (.int .i64))) x3607])]⟩)) := .of fun K h => by
  simp only [spec_DeskOk_n1, wpW] at h
  exact .of (by kernel_rfl) h

theorem spec_DeskOk_n2_l (x3606 : List Int) (x3607 : List (List Int)) : Link spec_DeskOk_ctx LL (cq [0,0,1] (bodyOf Try.f6)) (aq [0,0,1] spec_DeskOk_an) ⟨mkE 27 0 [(1, .ptr 0 0)], [some (.box [dL x3606, .dat (.list (.list (.int .i64))) x3607])]⟩ (spec_DeskOk_n2) (fun (t : Unit) => (Exit.normal, ⟨mkE 27 0 [(1, .ptr 0 0), (3, dI 0)], [some (.box [dL x3606, .dat (.list (.list (.int .i64))) x3607])]⟩)) := .of fun K h => by
  simp only [spec_DeskOk_n2, wpW] at h
  exact .of (by kernel_rfl) h

theorem spec_DeskOk_n3_l (x3621 : Int) (x3606 : List Int) (x3607 : List (List Int)) : Link spec_DeskOk_ctx LL (cq [0,0,1,0,1] (bodyOf Try.f6)) (aq [0,0,1,0,1] spec_DeskOk_an) ⟨mkE 27 0 [(1, .ptr 0 0), (3, dI x3621)], [some (.box [dL x3606, .dat (.list (.list (.int .i64))) x3607])]⟩ (spec_DeskOk_n3 x3621 x3607) (Sum.elim (fun (t : Int) => (Exit.normal, ⟨mkE 27 0 [(1, .ptr 0 0), (3, dI t)], [some (.box [dL x3606, .dat (.list (.list (.int .i64))) x3607])]⟩)) (Sum.elim (fun (t : Bool) => (Exit.ret, ⟨mkE 27 0 [(2, dB t)], []⟩)) (fun (t : Unit) => ((Exit.exit 0), ⟨mkE 27 0 [(1, .ptr 0 0)], [some (.box [dL x3606, .dat (.list (.list (.int .i64))) x3607])]⟩)))) := .of fun K h => by
  simp only [spec_DeskOk_n3, wpW] at h
  exact .of (by kernel_rfl) h

def spec_DeskOk_n4_l (x3606 : List Int) (x3607 : List (List Int)) := (link_loop (mk := fun (s : Int) => ⟨mkE 27 0 [(1, .ptr 0 0), (3, dI s)], [some (.box [dL x3606, .dat (.list (.list (.int .i64))) x3607])]⟩) (fin := (Sum.elim (fun (t : Bool) => (Exit.ret, ⟨mkE 27 0 [(2, dB t)], []⟩)) (fun (t : Unit) => ((Exit.exit 0), ⟨mkE 27 0 [(1, .ptr 0 0)], [some (.box [dL x3606, .dat (.list (.list (.int .i64))) x3607])]⟩)))) (by
  rintro (t | t) f K h
  · exact h
  · exact h) (fun s => link_map (spec_DeskOk_n3_l s x3606 x3607) (Sum.elim (fun (t : Int) => Sum.inl t) (Sum.elim (fun (t : Bool) => Sum.inr (Sum.inl t)) (fun (t : Unit) => Sum.inr (Sum.inr t)))) (by
  rintro (t | t | t)
  · kernel_rfl
  · kernel_rfl
  · kernel_rfl)) 0)

def spec_DeskOk_n5_l (x3606 : List Int) (x3607 : List (List Int)) := (link_block (fin2 := (Sum.elim (fun (t : Unit) => (Exit.normal, ⟨mkE 27 0 [(1, .ptr 0 0)], [some (.box [dL x3606, .dat (.list (.list (.int .i64))) x3607])]⟩)) (fun (t : Bool) => (Exit.ret, ⟨mkE 27 0 [(2, dB t)], []⟩)))) (id := 0) (spec_DeskOk_n4_l x3606 x3607) (Sum.elim (fun (t : Bool) => (Sum.inr t)) (fun (t : Unit) => (Sum.inl ()))) (by
  rintro (t | t) K h
  · exact Eq.mp (by kernel_rfl) h
  · exact Eq.mp (by kernel_rfl) h))

def spec_DeskOk_n6_l (x3606 : List Int) (x3607 : List (List Int)) := (link_seq (spec_DeskOk_n2_l x3606 x3607) (fun (t : Unit) => (spec_DeskOk_n5_l x3606 x3607)))

theorem spec_DeskOk_n7_l (x3606 : List Int) (x3607 : List (List Int)) : Link spec_DeskOk_ctx LL (cq [1,1] (bodyOf Try.f6)) (aq [1,1] spec_DeskOk_an) ⟨mkE 27 0 [(1, .ptr 0 0)], [some (.box [dL x3606, .dat (.list (.list (.int .i64))) x3607])]⟩ (spec_DeskOk_n7 x3606 x3607) (fun (t : Bool) => (Exit.ret, ⟨mkE 27 0 [(2, dB t)], []⟩)) := .of fun K h => by
  simp only [spec_DeskOk_n7, wpW] at h
  exact .of (by kernel_rfl) h

def spec_DeskOk_n8_l (x3606 : List Int) (x3607 : List (List Int)) := (link_seq2 (spec_DeskOk_n6_l x3606 x3607) (fun (t : Unit) => (spec_DeskOk_n7_l x3606 x3607)) (fun (t : Bool) => t) (by
  rintro t
  · kernel_rfl) (by
  rintro t f K h
  · exact h))

def spec_DeskOk_n9_l (x3606 : List Int) (x3607 : List (List Int)) := (link_seq (spec_DeskOk_n1_l x3606 x3607) (fun (t : Unit) => (spec_DeskOk_n8_l x3606 x3607)))

theorem spec_DeskOk_e (x3606 : List Int) (x3607 : List (List Int)) {r : AV} {H' : Heap} (h : (Ans.mk _ (spec_DeskOk x3606 x3607) (fun (t : Bool) => (dB t, [])) [] none).run = some (r, H')) : Awp spec_DeskOk_ctx LL (bodyOf Try.f6) spec_DeskOk_an ⟨mkE 27 0 [(0, .agg [dL x3606, .dat (.list (.list (.int .i64))) x3607])], []⟩ (Ret (tlook tys) Try.f6.results.toList r H') :=
  ret_of' (Link.cast (by kernel_rfl) (by kernel_rfl) (spec_DeskOk_n9_l x3606 x3607)) (by unfold spec_DeskOk; kernel_rfl) (by
  intro t
  exact ret_mk [dB t] (by kernel_rfl) (by kernel_rfl) (by kernel_rfl) (by kernel_rfl)) h

def F_spec_DeskOk : Fun := fun avs H =>
  match avs, H with
  | [.agg [.dat (.list (.int .i64)) x3606, .dat (.list (.list (.int .i64))) x3607]], [] => ⟨_, spec_DeskOk x3606 x3607, fun (t : Bool) => (dB t, []), [], none⟩
  | _, _ => Ans.no

theorem spec_DeskOk_sound : Sound Try.prog 6 F_spec_DeskOk := by
  refine fn_sound' (C := spec_DeskOk_ctx) (c := bodyOf Try.f6) (cok_of tys_ok (allc spec_TreeOk_sound alln) (allc Try.call11 alln) (by kernel_rfl)) Try.func6 (by kernel_rfl) LL spec_DeskOk_an ?_
  intro avs H r H' h
  unfold F_spec_DeskOk at h
  split at h
  · refine Awp.cast ?_ ?_ ?_ (spec_DeskOk_e _ _ h) <;> kernel_rfl
  · simp [Ans.no, Ans.run] at h


/-! loop.example/headtrees/spec.l12Copy -/

def spec_l12Copy_an : Ann := (.seq (.leaf [1, 2]) (.seq (.leaf [1, 2, 3]) (.seq (.seq (.leafF [⟨1, 3, true, some 1, some (.int .i64)⟩] [1, 2, 3, 4]) (.block (.loop (.seq (.seq (.leaf [1, 2, 3, 4, 14]) (.cond (.leaf [1, 2, 3, 4]) (.leaf [2, 3]))) (.seq (.block (.draw [8, 2, 100010] [0, 1, 2, 3, 4, 5, 6, 7, 8, 9, 10, 11, 12] [] [1, 2, 3, 4])) (.leaf [1, 2, 3, 4])))))) (.seq (.leaf [2]) (.leaf [2])))))

noncomputable def spec_l12Copy_ctx : Ctx := ⟨tlook tys, olook [], ioF, 0, true, []⟩

theorem spec_l12Copy_n1_l (x3671 : List Int) (x3672 : List (List Int)) : Link spec_l12Copy_ctx LL (Code.seq (cq [0] (bodyOf Try.f25)) (cq [0,1] (bodyOf Try.f25))) (Ann.seq (aq [0] spec_l12Copy_an) (aq [0,1] spec_l12Copy_an)) ⟨mkE 30 0 [(0, .agg [dL x3671, .dat (.list (.list (.int .i64))) x3672])], []⟩ (spec_l12Copy_n1 x3671) (fun (t : (List Int)) => (Exit.normal, ⟨mkE 30 0 [(1, .ptr 0 0), (2, .ptr 1 0), (3, .ptr 2 0)], [some (.box [dL x3671, .dat (.list (.list (.int .i64))) x3672]), some (.box [.nils, .nils]), some (.box [.slc 3, .nils]), some (sI t)]⟩)) := .of fun K h => by
  simp only [spec_l12Copy_n1, wpW] at h
  exact .of (by kernel_rfl) h

theorem spec_l12Copy_n2_l (x3671 : List Int) (x3672 : List (List Int)) (x3717 : List Int) : Link spec_l12Copy_ctx LL (cq [0,0,1,1] (bodyOf Try.f25)) (aq [0,0,1,1] spec_l12Copy_an) ⟨mkE 30 0 [(1, .ptr 0 0), (2, .ptr 1 0), (3, .ptr 2 0)], [some (.box [dL x3671, .dat (.list (.list (.int .i64))) x3672]), some (.box [.nils, .nils]), some (.box [.slc 3, .nils]), some (sI x3717)]⟩ (spec_l12Copy_n2) (fun (t : Unit) => (Exit.normal, ⟨mkE 30 0 [(1, .ptr 0 0), (2, .ptr 1 0), (3, .ptr 2 0), (4, dI 0)], [some (.box [dL x3671, .dat (.list (.list (.int .i64))) x3672]), some (.box [.nils, .nils]), some (.box [.slc 3, .slc 4]), some (sI x3717), some (.nest (.int .i64) ([] : List (List Int)) 0 [])]⟩)) := .of fun K h => by
  simp only [spec_l12Copy_n2, wpW] at h
  exact .of (by kernel_rfl) h

theorem spec_l12Copy_n3_l (x3733 : Int) (x3671 : List Int) (x3672 : List (List Int)) (x3717 : List Int) (x3734 : List (List Int)) : Link spec_l12Copy_ctx LL (cq [0,0,1,0,1,1] (bodyOf Try.f25)) (aq [0,0,1,0,1,1] spec_l12Copy_an) ⟨mkE 30 0 [(1, .ptr 0 0), (2, .ptr 1 0), (3, .ptr 2 0), (4, dI x3733)], [some (.box [dL x3671, .dat (.list (.list (.int .i64))) x3672]), some (.box [.nils, .nils]), some (.box [.slc 3, .slc 4]), some (sI x3717), some (.nest (.int .i64) x3734 0 [])]⟩ (spec_l12Copy_n3 x3733 x3672 x3734) (Sum.elim (fun (t : Int × (List (List Int))) => (Exit.normal, ⟨mkE 30 0 [(1, .ptr 0 0), (2, .ptr 1 0), (3, .ptr 2 0), (4, dI t.1)], [some (.box [dL x3671, .dat (.list (.list (.int .i64))) x3672]), some (.box [.nils, .nils]), some (.box [.slc 3, .slc 4]), some (sI x3717), some (.nest (.int .i64) t.2 0 [])]⟩)) (fun (t : (List (List Int))) => ((Exit.exit 0), ⟨mkE 30 0 [(2, .ptr 0 0), (3, .ptr 1 0)], [some (.box [.nils, .nils]), some (.box [.slc 2, .slc 3]), some (sI x3717), some (.nest (.int .i64) t 0 [])]⟩))) := .of fun K h => by
  simp only [spec_l12Copy_n3, wpW] at h
  exact .of (by kernel_rfl) h

def spec_l12Copy_n4_l (x3671 : List Int) (x3672 : List (List Int)) (x3717 : List Int) := (link_loop (mk := fun (s : Int × (List (List Int))) => ⟨mkE 30 0 [(1, .ptr 0 0), (2, .ptr 1 0), (3, .ptr 2 0), (4, dI s.1)], [some (.box [dL x3671, .dat (.list (.list (.int .i64))) x3672]), some (.box [.nils, .nils]), some (.box [.slc 3, .slc 4]), some (sI x3717), some (.nest (.int .i64) s.2 0 [])]⟩) (fin := (fun (t : (List (List Int))) => ((Exit.exit 0), ⟨mkE 30 0 [(2, .ptr 0 0), (3, .ptr 1 0)], [some (.box [.nils, .nils]), some (.box [.slc 2, .slc 3]), some (sI x3717), some (.nest (.int .i64) t 0 [])]⟩))) (by
  rintro t f K h
  · exact h) (fun s => link_map (spec_l12Copy_n3_l s.1 x3671 x3672 x3717 s.2) (Sum.elim (fun (t : Int × (List (List Int))) => Sum.inl (t.1, t.2)) (fun (t : (List (List Int))) => Sum.inr t)) (by
  rintro (t | t)
  · kernel_rfl
  · kernel_rfl)) (0, ([] : List (List Int))))

def spec_l12Copy_n5_l (x3671 : List Int) (x3672 : List (List Int)) (x3717 : List Int) := (link_block (fin2 := (fun (t : (List (List Int))) => (Exit.normal, ⟨mkE 30 0 [(2, .ptr 0 0), (3, .ptr 1 0)], [some (.box [.nils, .nils]), some (.box [.slc 2, .slc 3]), some (sI x3717), some (.nest (.int .i64) t 0 [])]⟩))) (id := 0) (spec_l12Copy_n4_l x3671 x3672 x3717) (fun (t : (List (List Int))) => t) (by
  rintro t K h
  · exact Eq.mp (by kernel_rfl) h))

def spec_l12Copy_n6_l (x3671 : List Int) (x3672 : List (List Int)) (x3717 : List Int) := (link_seq (spec_l12Copy_n2_l x3671 x3672 x3717) (fun (t : Unit) => (spec_l12Copy_n5_l x3671 x3672 x3717)))

theorem spec_l12Copy_n7_l (x3717 : List Int) (x3734 : List (List Int)) : Link spec_l12Copy_ctx LL (cq [1,1,1] (bodyOf Try.f25)) (aq [1,1,1] spec_l12Copy_an) ⟨mkE 30 0 [(2, .ptr 0 0), (3, .ptr 1 0)], [some (.box [.nils, .nils]), some (.box [.slc 2, .slc 3]), some (sI x3717), some (.nest (.int .i64) x3734 0 [])]⟩ (spec_l12Copy_n7 x3717 x3734) (fun (t : (List Int) × (List (List Int))) => (Exit.ret, ⟨mkE 30 0 [(2, .ptr 0 0)], [some (.box [.slc 1, .slc 2]), some (sI t.1), some (.nest (.int .i64) t.2 0 [])]⟩)) := .of fun K h => by
  simp only [spec_l12Copy_n7, wpW] at h
  exact .of (by kernel_rfl) h

def spec_l12Copy_n8_l (x3671 : List Int) (x3672 : List (List Int)) (x3717 : List Int) := (link_seq (spec_l12Copy_n6_l x3671 x3672 x3717) (fun (t : (List (List Int))) => (spec_l12Copy_n7_l x3717 t)))

def spec_l12Copy_n9_l (x3671 : List Int) (x3672 : List (List Int)) := (link_group (c := (cq [0,1] (bodyOf Try.f25))) (a := (aq [0,1] spec_l12Copy_an)) [(cq [0] (bodyOf Try.f25))] [(aq [0] spec_l12Copy_an)] rfl (link_seq (spec_l12Copy_n1_l x3671 x3672) (fun (t : (List Int)) => (spec_l12Copy_n8_l x3671 x3672 t))))

theorem spec_l12Copy_e (x3671 : List Int) (x3672 : List (List Int)) {r : AV} {H' : Heap} (h : (Ans.mk _ (spec_l12Copy x3671 x3672) (fun (t : (List Int) × (List (List Int))) => (.agg [.slc 1, .slc 2], [some (.box [.slc 1, .slc 2]), some (sI t.1), some (.nest (.int .i64) t.2 0 [])])) [] none).run = some (r, H')) : Awp spec_l12Copy_ctx LL (bodyOf Try.f25) spec_l12Copy_an ⟨mkE 30 0 [(0, .agg [dL x3671, .dat (.list (.list (.int .i64))) x3672])], []⟩ (Ret (tlook tys) Try.f25.results.toList r H') :=
  ret_of' (Link.cast (by kernel_rfl) (by kernel_rfl) (spec_l12Copy_n9_l x3671 x3672)) (by unfold spec_l12Copy; kernel_rfl) (by
  intro t
  exact ret_mk [.agg [.slc 1, .slc 2]] (by kernel_rfl) (by kernel_rfl) (by kernel_rfl) (by kernel_rfl)) h

def F_spec_l12Copy : Fun := fun avs H =>
  match avs, H with
  | [.agg [.dat (.list (.int .i64)) x3671, .dat (.list (.list (.int .i64))) x3672]], [] => ⟨_, spec_l12Copy x3671 x3672, fun (t : (List Int) × (List (List Int))) => (.agg [.slc 1, .slc 2], [some (.box [.slc 1, .slc 2]), some (sI t.1), some (.nest (.int .i64) t.2 0 [])]), [], none⟩
  | _, _ => Ans.no

theorem spec_l12Copy_sound : Sound Try.prog 25 F_spec_l12Copy := by
  refine fn_sound' (C := spec_l12Copy_ctx) (c := bodyOf Try.f25) (cok_of tys_ok (alln) (alln) (by kernel_rfl)) Try.func25 (by kernel_rfl) LL spec_l12Copy_an ?_
  intro avs H r H' h
  unfold F_spec_l12Copy at h
  split at h
  · refine Awp.cast ?_ ?_ ?_ (spec_l12Copy_e _ _ h) <;> kernel_rfl
  · simp [Ans.no, Ans.run] at h


/-! loop.example/headtrees/spec.BackOf -/

def spec_BackOf_an : Ann := (.seq (.leaf [0]) (.seq (.leaf [0, 3]) (.seq (.leaf [0, 3, 4]) (.seq (.seq (.leaf [0, 3, 4, 5]) (.block (.loop (.seq (.seq (.leaf [0, 3, 4, 5, 16]) (.cond (.leaf [0, 3, 4, 5]) (.leaf [3]))) (.seq (.block (.seq (.leaf [0, 3, 4, 5, 23]) (.cond (.leaf [0, 3, 4, 5]) (.leaf [0, 3, 4, 5])))) (.leaf [0, 3, 4, 5])))))) (.seq (.leaf [2]) (.leaf [2]))))))

noncomputable def spec_BackOf_ctx : Ctx := ⟨tlook tys, olook [(11, F_spec_TreeOk)], ioF, 0, false, []⟩

theorem spec_BackOf_n1_l (x3823 : List Int) : Link spec_BackOf_ctx LL (Code.seq (cq [0] (bodyOf Try.f30)) (Code.seq (cq [0,1] (bodyOf Try.f30)) (cq [0,1,1] (bodyOf Try.f30)))) (Ann.seq (aq [0] spec_BackOf_an) (Ann.seq (aq [0,1] spec_BackOf_an) (aq [0,1,1] spec_BackOf_an))) ⟨mkE 38 0 [(0, dL x3823)], []⟩ (spec_BackOf_n1 x3823) (fun (t : Int) => (Exit.normal, ⟨mkE 38 0 [(0, dL x3823), (3, .slc 0), (4, dI t)], [some (sI ([] : List Int))]⟩)) := .of fun K h => by
  simp only [spec_BackOf_n1, wpW] at h
  exact .of (by kernel_rfl) h

theorem spec_BackOf_n2_l (x3823 : List Int) (x3824 : Int) : Link spec_BackOf_ctx LL (cq [0,0,1,1,1] (bodyOf Try.f30)) (aq [0,0,1,1,1] spec_BackOf_an) ⟨mkE 38 0 [(0, dL x3823), (3, .slc 0), (4, dI x3824)], [some (sI ([] : List Int))]⟩ (spec_BackOf_n2 x3824) (fun (t : Int) => (Exit.normal, ⟨mkE 38 0 [(0, dL x3823), (3, .slc 0), (4, dI x3824), (5, dI t)], [some (sI ([] : List Int))]⟩)) := .of fun K h => by
  simp only [spec_BackOf_n2, wpW] at h
  exact .of (by kernel_rfl) h

theorem spec_BackOf_n3_l (x3823 : List Int) (x3824 : Int) (x3862 : Int) (x3863 : List Int) : Link spec_BackOf_ctx LL (cq [0,0,1,0,1,1,1] (bodyOf Try.f30)) (aq [0,0,1,0,1,1,1] spec_BackOf_an) ⟨mkE 38 0 [(0, dL x3823), (3, .slc 0), (4, dI x3824), (5, dI x3862)], [some (sI x3863)]⟩ (spec_BackOf_n3 x3823 x3824 x3862 x3863) (Sum.elim (fun (t : Int × (List Int)) => (Exit.normal, ⟨mkE 38 0 [(0, dL x3823), (3, .slc 0), (4, dI x3824), (5, dI t.1)], [some (sI t.2)]⟩)) (fun (t : (List Int)) => ((Exit.exit 0), ⟨mkE 38 0 [(3, .slc 0)], [some (sI t)]⟩))) := .of fun K h => by
  simp only [spec_BackOf_n3, wpW] at h
  exact .of (by kernel_rfl) h

def spec_BackOf_n4_l (x3823 : List Int) (x3824 : Int) (x3825 : Int) := (link_loop (mk := fun (s : Int × (List Int)) => ⟨mkE 38 0 [(0, dL x3823), (3, .slc 0), (4, dI x3824), (5, dI s.1)], [some (sI s.2)]⟩) (fin := (fun (t : (List Int)) => ((Exit.exit 0), ⟨mkE 38 0 [(3, .slc 0)], [some (sI t)]⟩))) (by
  rintro t f K h
  · exact h) (fun s => link_map (spec_BackOf_n3_l x3823 x3824 s.1 s.2) (Sum.elim (fun (t : Int × (List Int)) => Sum.inl (t.1, t.2)) (fun (t : (List Int)) => Sum.inr t)) (by
  rintro (t | t)
  · kernel_rfl
  · kernel_rfl)) (x3825, ([] : List Int)))

def spec_BackOf_n5_l (x3823 : List Int) (x3824 : Int) (x3825 : Int) := (link_block (fin2 := (fun (t : (List Int)) => (Exit.normal, ⟨mkE 38 0 [(3, .slc 0)], [some (sI t)]⟩))) (id := 0) (spec_BackOf_n4_l x3823 x3824 x3825) (fun (t : (List Int)) => t) (by
  rintro t K h
  · exact Eq.mp (by kernel_rfl) h))

def spec_BackOf_n6_l (x3823 : List Int) (x3824 : Int) := (link_seq (spec_BackOf_n2_l x3823 x3824) (fun (t : Int) => (spec_BackOf_n5_l x3823 x3824 t)))

theorem spec_BackOf_n7_l (x3863 : List Int) : Link spec_BackOf_ctx LL (cq [1,1,1,1] (bodyOf Try.f30)) (aq [1,1,1,1] spec_BackOf_an) ⟨mkE 38 0 [(3, .slc 0)], [some (sI x3863)]⟩ (spec_BackOf_n7 x3863) (fun (t : (List Int)) => (Exit.ret, ⟨mkE 38 0 [(2, .slc 0)], [some (sI t)]⟩)) := .of fun K h => by
  simp only [spec_BackOf_n7, wpW] at h
  exact .of (by kernel_rfl) h

def spec_BackOf_n8_l (x3823 : List Int) (x3824 : Int) := (link_seq (spec_BackOf_n6_l x3823 x3824) (fun (t : (List Int)) => (spec_BackOf_n7_l t)))

def spec_BackOf_n9_l (x3823 : List Int) := (link_group (c := (cq [0,1,1] (bodyOf Try.f30))) (a := (aq [0,1,1] spec_BackOf_an)) [(cq [0] (bodyOf Try.f30)), (cq [0,1] (bodyOf Try.f30))] [(aq [0] spec_BackOf_an), (aq [0,1] spec_BackOf_an)] rfl (link_seq (spec_BackOf_n1_l x3823) (fun (t : Int) => (spec_BackOf_n8_l x3823 t))))

theorem spec_BackOf_e (x3823 : List Int) {r : AV} {H' : Heap} (h : (Ans.mk _ (spec_BackOf x3823) (fun (t : (List Int)) => (.slc 0, [some (sI t)])) [] none).run = some (r, H')) : Awp spec_BackOf_ctx LL (bodyOf Try.f30) spec_BackOf_an ⟨mkE 38 0 [(0, dL x3823)], []⟩ (Ret (tlook tys) Try.f30.results.toList r H') :=
  ret_of' (Link.cast (by kernel_rfl) (by kernel_rfl) (spec_BackOf_n9_l x3823)) (by unfold spec_BackOf; kernel_rfl) (by
  intro t
  exact ret_mk [.slc 0] (by kernel_rfl) (by kernel_rfl) (by kernel_rfl) (by kernel_rfl)) h

def F_spec_BackOf : Fun := fun avs H =>
  match avs, H with
  | [.dat (.list (.int .i64)) x3823], [] => ⟨_, spec_BackOf x3823, fun (t : (List Int)) => (.slc 0, [some (sI t)]), [], none⟩
  | _, _ => Ans.no

theorem spec_BackOf_sound : Sound Try.prog 30 F_spec_BackOf := by
  refine fn_sound' (C := spec_BackOf_ctx) (c := bodyOf Try.f30) (cok_of tys_ok (allc spec_TreeOk_sound alln) (allc Try.call11 alln) (by kernel_rfl)) Try.func30 (by kernel_rfl) LL spec_BackOf_an ?_
  intro avs H r H' h
  unfold F_spec_BackOf at h
  split at h
  · refine Awp.cast ?_ ?_ ?_ (spec_BackOf_e _ h) <;> kernel_rfl
  · simp [Ans.no, Ans.run] at h


/-! loop.example/headtrees/spec.RootOf -/

def spec_RootOf_an : Ann := (.seq (.leaf [0]) (.seq (.seq (.leaf [0, 3]) (.block (.loop (.seq (.seq (.leaf [0, 3, 11]) (.cond (.leaf [0, 3]) (.leaf []))) (.seq (.block (.seq (.leaf [0, 3, 18]) (.cond (.seq (.leaf [2]) (.leaf [2])) (.leaf [0, 3])))) (.leaf [0, 3])))))) (.seq (.leaf [2]) (.leaf [2]))))

noncomputable def spec_RootOf_ctx : Ctx := ⟨tlook tys, olook [(11, F_spec_TreeOk)], ioF, 0, false, []⟩

theorem spec_RootOf_n1_l (x3910 : List Int) : Link spec_RootOf_ctx LL (cq [0] (bodyOf Try.f34)) (aq [0] spec_RootOf_an) ⟨mkE 21 0 [(0, dL x3910)], []⟩ (spec_RootOf_n1) (fun (t : Unit) => (Exit.normal, ⟨mkE 21 0 [(0, dL x3910)], []⟩)) := .of fun K h => by
  simp only [spec_RootOf_n1, wpW] at h
  exact .of (by kernel_rfl) h

theorem spec_RootOf_n2_l (x3910 : List Int) : Link spec_RootOf_ctx LL (cq [0,0,1] (bodyOf Try.f34)) (aq [0,0,1] spec_RootOf_an) ⟨mkE 21 0 [(0, dL x3910)], []⟩ (spec_RootOf_n2) (fun (t : Unit) => (Exit.normal, ⟨mkE 21 0 [(0, dL x3910), (3, dI 0)], []⟩)) := .of fun K h => by
  simp only [spec_RootOf_n2, wpW] at h
  exact .of (by kernel_rfl) h

theorem spec_RootOf_n3_l (x3910 : List Int) (x3927 : Int) : Link spec_RootOf_ctx LL (cq [0,0,1,0,1] (bodyOf Try.f34)) (aq [0,0,1,0,1] spec_RootOf_an) ⟨mkE 21 0 [(0, dL x3910), (3, dI x3927)], []⟩ (spec_RootOf_n3 x3910 x3927) (Sum.elim (fun (t : Int) => (Exit.normal, ⟨mkE 21 0 [(0, dL x3910), (3, dI t)], []⟩)) (Sum.elim (fun (t : Int) => (Exit.ret, ⟨mkE 21 0 [(2, dI t)], []⟩)) (fun (t : Unit) => ((Exit.exit 0), ⟨mkE 21 0 [], []⟩)))) := .of fun K h => by
  simp only [spec_RootOf_n3, wpW] at h
  exact .of (by kernel_rfl) h

def spec_RootOf_n4_l (x3910 : List Int) := (link_loop (mk := fun (s : Int) => ⟨mkE 21 0 [(0, dL x3910), (3, dI s)], []⟩) (fin := (Sum.elim (fun (t : Int) => (Exit.ret, ⟨mkE 21 0 [(2, dI t)], []⟩)) (fun (t : Unit) => ((Exit.exit 0), ⟨mkE 21 0 [], []⟩)))) (by
  rintro (t | t) f K h
  · exact h
  · exact h) (fun s => link_map (spec_RootOf_n3_l x3910 s) (Sum.elim (fun (t : Int) => Sum.inl t) (Sum.elim (fun (t : Int) => Sum.inr (Sum.inl t)) (fun (t : Unit) => Sum.inr (Sum.inr t)))) (by
  rintro (t | t | t)
  · kernel_rfl
  · kernel_rfl
  · kernel_rfl)) 0)

def spec_RootOf_n5_l (x3910 : List Int) := (link_block (fin2 := (Sum.elim (fun (t : Unit) => (Exit.normal, ⟨mkE 21 0 [], []⟩)) (fun (t : Int) => (Exit.ret, ⟨mkE 21 0 [(2, dI t)], []⟩)))) (id := 0) (spec_RootOf_n4_l x3910) (Sum.elim (fun (t : Int) => (Sum.inr t)) (fun (t : Unit) => (Sum.inl ()))) (by
  rintro (t | t) K h
  · exact Eq.mp (by kernel_rfl) h
  · exact Eq.mp (by kernel_rfl) h))

def spec_RootOf_n6_l (x3910 : List Int) := (link_seq (spec_RootOf_n2_l x3910) (fun (t : Unit) => (spec_RootOf_n5_l x3910)))

theorem spec_RootOf_n7_l : Link spec_RootOf_ctx LL (cq [1,1] (bodyOf Try.f34)) (aq [1,1] spec_RootOf_an) ⟨mkE 21 0 [], []⟩ (spec_RootOf_n7) (fun (t : Int) => (Exit.ret, ⟨mkE 21 0 [(2, dI t)], []⟩)) := .of fun K h => by
  simp only [spec_RootOf_n7, wpW] at h
  exact .of (by kernel_rfl) h

def spec_RootOf_n8_l (x3910 : List Int) := (link_seq2 (spec_RootOf_n6_l x3910) (fun (t : Unit) => (spec_RootOf_n7_l)) (fun (t : Int) => t) (by
  rintro t
  · kernel_rfl) (by
  rintro t f K h
  · exact h))

def spec_RootOf_n9_l (x3910 : List Int) := (link_seq (spec_RootOf_n1_l x3910) (fun (t : Unit) => (spec_RootOf_n8_l x3910)))

theorem spec_RootOf_e (x3910 : List Int) {r : AV} {H' : Heap} (h : (Ans.mk _ (spec_RootOf x3910) (fun (t : Int) => (dI t, [])) [] none).run = some (r, H')) : Awp spec_RootOf_ctx LL (bodyOf Try.f34) spec_RootOf_an ⟨mkE 21 0 [(0, dL x3910)], []⟩ (Ret (tlook tys) Try.f34.results.toList r H') :=
  ret_of' (Link.cast (by kernel_rfl) (by kernel_rfl) (spec_RootOf_n9_l x3910)) (by unfold spec_RootOf; kernel_rfl) (by
  intro t
  exact ret_mk [dI t] (by kernel_rfl) (by kernel_rfl) (by kernel_rfl) (by kernel_rfl)) h

def F_spec_RootOf : Fun := fun avs H =>
  match avs, H with
  | [.dat (.list (.int .i64)) x3910], [] => ⟨_, spec_RootOf x3910, fun (t : Int) => (dI t, []), [], none⟩
  | _, _ => Ans.no

theorem spec_RootOf_sound : Sound Try.prog 34 F_spec_RootOf := by
  refine fn_sound' (C := spec_RootOf_ctx) (c := bodyOf Try.f34) (cok_of tys_ok (allc spec_TreeOk_sound alln) (allc Try.call11 alln) (by kernel_rfl)) Try.func34 (by kernel_rfl) LL spec_RootOf_an ?_
  intro avs H r H' h
  unfold F_spec_RootOf at h
  split at h
  · refine Awp.cast ?_ ?_ ?_ (spec_RootOf_e _ h) <;> kernel_rfl
  · simp [Ans.no, Ans.run] at h


/-! loop.example/headtrees/spec.l8Walk -/

def spec_l8Walk_an : Ann := (.seq (.leaf [0, 1]) (.seq (.leaf [0, 1, 5]) (.seq (.seq (.leaf [0, 1, 5, 6]) (.block (.loop (.seq (.seq (.leaf [0, 1, 5, 6, 11]) (.cond (.leaf [0, 1, 5, 6]) (.leaf [0, 1, 5]))) (.seq (.block (.seq (.leaf [0, 1, 5, 6, 20]) (.cond (.leaf [0, 1, 5, 6]) (.leaf [0, 1, 5, 6])))) (.leaf [0, 1, 5, 6])))))) (.seq (.leaf [0, 1, 5]) (.seq (.seq (.leaf [0, 1, 5, 7]) (.block (.loop (.seq (.seq (.leaf [0, 1, 5, 7, 35]) (.cond (.leaf [0, 1, 5, 7]) (.leaf [5]))) (.seq (.block (.seq (.leaf [0, 1, 5, 7, 44]) (.cond (.leaf [0, 1, 5, 7]) (.leaf [0, 1, 5, 7])))) (.leaf [0, 1, 5, 7])))))) (.seq (.leaf [4]) (.leaf [4])))))))

def F_spec_l8Walk_fuel (n : Nat) : Fun := fun avs H =>
  match avs, H with
  | [.dat (.list (.int .i64)) x3946, .dat (.int .i64) x3947], [] => ⟨_, spec_l8Walk_fuel n x3946 x3947, fun (t : (List Int)) => (.slc 0, [some (sI t)]), [], none⟩
  | _, _ => Ans.no

noncomputable def spec_l8Walk_ctx (n : Nat) : Ctx := ⟨tlook tys, olook [(33, F_spec_l8Walk_fuel n)], ioF, 0, false, []⟩

theorem spec_l8Walk_n1_l (n : Nat) (x3946 : List Int) (x3947 : Int) : Link (spec_l8Walk_ctx n) LL (Code.seq (cq [0] (bodyOf Try.f33)) (cq [0,1] (bodyOf Try.f33))) (Ann.seq (aq [0] spec_l8Walk_an) (aq [0,1] spec_l8Walk_an)) ⟨mkE 51 0 [(0, dL x3946), (1, dI x3947)], []⟩ (spec_l8Walk_n1 (spec_l8Walk_fuel n)) (fun (t : Unit) => (Exit.normal, ⟨mkE 51 0 [(0, dL x3946), (1, dI x3947), (5, .slc 0)], [some (sI ([] : List Int))]⟩)) := .of fun K h => by
  simp only [spec_l8Walk_n1, wpW] at h
  exact .of (by kernel_rfl) h

theorem spec_l8Walk_n2_l (n : Nat) (x3946 : List Int) (x3947 : Int) : Link (spec_l8Walk_ctx n) LL (cq [0,0,1,1] (bodyOf Try.f33)) (aq [0,0,1,1] spec_l8Walk_an) ⟨mkE 51 0 [(0, dL x3946), (1, dI x3947), (5, .slc 0)], [some (sI ([] : List Int))]⟩ (spec_l8Walk_n2 (spec_l8Walk_fuel n)) (fun (t : Unit) => (Exit.normal, ⟨mkE 51 0 [(0, dL x3946), (1, dI x3947), (5, .slc 0), (6, dI 1)], [some (sI ([] : List Int))]⟩)) := .of fun K h => by
  simp only [spec_l8Walk_n2, wpW] at h
  exact .of (by kernel_rfl) h

theorem spec_l8Walk_n3_l (n : Nat) (x3946 : List Int) (x3947 : Int) (x4022 : Int) (x4023 : List Int) : Link (spec_l8Walk_ctx n) LL (cq [0,0,1,0,1,1] (bodyOf Try.f33)) (aq [0,0,1,0,1,1] spec_l8Walk_an) ⟨mkE 51 0 [(0, dL x3946), (1, dI x3947), (5, .slc 0), (6, dI x4022)], [some (sI x4023)]⟩ (spec_l8Walk_n3 (spec_l8Walk_fuel n) x3946 x3947 x4022 x4023) (Sum.elim (fun (t : Int × (List Int)) => (Exit.normal, ⟨mkE 51 0 [(0, dL x3946), (1, dI x3947), (5, .slc 0), (6, dI t.1)], [some (sI t.2)]⟩)) (fun (t : (List Int)) => ((Exit.exit 0), ⟨mkE 51 0 [(0, dL x3946), (1, dI x3947), (5, .slc 0)], [some (sI t)]⟩))) := .of fun K h => by
  simp only [spec_l8Walk_n3, wpW] at h
  exact .of (by kernel_rfl) h

def spec_l8Walk_n4_l (n : Nat) (x3946 : List Int) (x3947 : Int) := (link_loop (mk := fun (s : Int × (List Int)) => ⟨mkE 51 0 [(0, dL x3946), (1, dI x3947), (5, .slc 0), (6, dI s.1)], [some (sI s.2)]⟩) (fin := (fun (t : (List Int)) => ((Exit.exit 0), ⟨mkE 51 0 [(0, dL x3946), (1, dI x3947), (5, .slc 0)], [some (sI t)]⟩))) (by
  rintro t f K h
  · exact h) (fun s => link_map (spec_l8Walk_n3_l n x3946 x3947 s.1 s.2) (Sum.elim (fun (t : Int × (List Int)) => Sum.inl (t.1, t.2)) (fun (t : (List Int)) => Sum.inr t)) (by
  rintro (t | t)
  · kernel_rfl
  · kernel_rfl)) (1, ([] : List Int)))

def spec_l8Walk_n5_l (n : Nat) (x3946 : List Int) (x3947 : Int) := (link_block (fin2 := (fun (t : (List Int)) => (Exit.normal, ⟨mkE 51 0 [(0, dL x3946), (1, dI x3947), (5, .slc 0)], [some (sI t)]⟩))) (id := 0) (spec_l8Walk_n4_l n x3946 x3947) (fun (t : (List Int)) => t) (by
  rintro t K h
  · exact Eq.mp (by kernel_rfl) h))

def spec_l8Walk_n6_l (n : Nat) (x3946 : List Int) (x3947 : Int) := (link_seq (spec_l8Walk_n2_l n x3946 x3947) (fun (t : Unit) => (spec_l8Walk_n5_l n x3946 x3947)))

theorem spec_l8Walk_n7_l (n : Nat) (x3946 : List Int) (x3947 : Int) (x4023 : List Int) : Link (spec_l8Walk_ctx n) LL (cq [0,1,1,1] (bodyOf Try.f33)) (aq [0,1,1,1] spec_l8Walk_an) ⟨mkE 51 0 [(0, dL x3946), (1, dI x3947), (5, .slc 0)], [some (sI x4023)]⟩ (spec_l8Walk_n7 (spec_l8Walk_fuel n) x3947 x4023) (fun (t : (List Int)) => (Exit.normal, ⟨mkE 51 0 [(0, dL x3946), (1, dI x3947), (5, .slc 0)], [some (sI t)]⟩)) := .of fun K h => by
  simp only [spec_l8Walk_n7, wpW] at h
  exact .of (by kernel_rfl) h

theorem spec_l8Walk_n8_l (n : Nat) (x3946 : List Int) (x3947 : Int) (x4048 : List Int) : Link (spec_l8Walk_ctx n) LL (cq [0,0,1,1,1,1] (bodyOf Try.f33)) (aq [0,0,1,1,1,1] spec_l8Walk_an) ⟨mkE 51 0 [(0, dL x3946), (1, dI x3947), (5, .slc 0)], [some (sI x4048)]⟩ (spec_l8Walk_n8 (spec_l8Walk_fuel n) x3947) (fun (t : Int) => (Exit.normal, ⟨mkE 51 0 [(0, dL x3946), (1, dI x3947), (5, .slc 0), (7, dI t)], [some (sI x4048)]⟩)) := .of fun K h => by
  simp only [spec_l8Walk_n8, wpW] at h
  exact .of (by kernel_rfl) h

theorem spec_l8Walk_n9_l (n : Nat) (x3946 : List Int) (x3947 : Int) (x4074 : Int) (x4075 : List Int) : Link (spec_l8Walk_ctx n) LL (cq [0,0,1,0,1,1,1,1] (bodyOf Try.f33)) (aq [0,0,1,0,1,1,1,1] spec_l8Walk_an) ⟨mkE 51 0 [(0, dL x3946), (1, dI x3947), (5, .slc 0), (7, dI x4074)], [some (sI x4075)]⟩ (spec_l8Walk_n9 (spec_l8Walk_fuel n) x3946 x3947 x4074 x4075) (Sum.elim (fun (t : Int × (List Int)) => (Exit.normal, ⟨mkE 51 0 [(0, dL x3946), (1, dI x3947), (5, .slc 0), (7, dI t.1)], [some (sI t.2)]⟩)) (fun (t : (List Int)) => ((Exit.exit 2), ⟨mkE 51 0 [(5, .slc 0)], [some (sI t)]⟩))) := .of fun K h => by
  simp only [spec_l8Walk_n9, wpW] at h
  exact .of (by kernel_rfl) h

def spec_l8Walk_n10_l (n : Nat) (x3946 : List Int) (x3947 : Int) (x4049 : Int) (x4048 : List Int) := (link_loop (mk := fun (s : Int × (List Int)) => ⟨mkE 51 0 [(0, dL x3946), (1, dI x3947), (5, .slc 0), (7, dI s.1)], [some (sI s.2)]⟩) (fin := (fun (t : (List Int)) => ((Exit.exit 2), ⟨mkE 51 0 [(5, .slc 0)], [some (sI t)]⟩))) (by
  rintro t f K h
  · exact h) (fun s => link_map (spec_l8Walk_n9_l n x3946 x3947 s.1 s.2) (Sum.elim (fun (t : Int × (List Int)) => Sum.inl (t.1, t.2)) (fun (t : (List Int)) => Sum.inr t)) (by
  rintro (t | t)
  · kernel_rfl
  · kernel_rfl)) (x4049, x4048))

def spec_l8Walk_n11_l (n : Nat) (x3946 : List Int) (x3947 : Int) (x4049 : Int) (x4048 : List Int) := (link_block (fin2 := (fun (t : (List Int)) => (Exit.normal, ⟨mkE 51 0 [(5, .slc 0)], [some (sI t)]⟩))) (id := 2) (spec_l8Walk_n10_l n x3946 x3947 x4049 x4048) (fun (t : (List Int)) => t) (by
  rintro t K h
  · exact Eq.mp (by kernel_rfl) h))

def spec_l8Walk_n12_l (n : Nat) (x3946 : List Int) (x3947 : Int) (x4048 : List Int) := (link_seq (spec_l8Walk_n8_l n x3946 x3947 x4048) (fun (t : Int) => (spec_l8Walk_n11_l n x3946 x3947 t x4048)))

theorem spec_l8Walk_n13_l (n : Nat) (x4075 : List Int) : Link (spec_l8Walk_ctx n) LL (cq [1,1,1,1,1] (bodyOf Try.f33)) (aq [1,1,1,1,1] spec_l8Walk_an) ⟨mkE 51 0 [(5, .slc 0)], [some (sI x4075)]⟩ (spec_l8Walk_n13 (spec_l8Walk_fuel n) x4075) (fun (t : (List Int)) => (Exit.ret, ⟨mkE 51 0 [(4, .slc 0)], [some (sI t)]⟩)) := .of fun K h => by
  simp only [spec_l8Walk_n13, wpW] at h
  exact .of (by kernel_rfl) h

def spec_l8Walk_n14_l (n : Nat) (x3946 : List Int) (x3947 : Int) (x4048 : List Int) := (link_seq (spec_l8Walk_n12_l n x3946 x3947 x4048) (fun (t : (List Int)) => (spec_l8Walk_n13_l n t)))

def spec_l8Walk_n15_l (n : Nat) (x3946 : List Int) (x3947 : Int) (x4023 : List Int) := (link_seq (spec_l8Walk_n7_l n x3946 x3947 x4023) (fun (t : (List Int)) => (spec_l8Walk_n14_l n x3946 x3947 t)))

def spec_l8Walk_n16_l (n : Nat) (x3946 : List Int) (x3947 : Int) := (link_seq (spec_l8Walk_n6_l n x3946 x3947) (fun (t : (List Int)) => (spec_l8Walk_n15_l n x3946 x3947 t)))

def spec_l8Walk_n17_l (n : Nat) (x3946 : List Int) (x3947 : Int) := (link_group (c := (cq [0,1] (bodyOf Try.f33))) (a := (aq [0,1] spec_l8Walk_an)) [(cq [0] (bodyOf Try.f33))] [(aq [0] spec_l8Walk_an)] rfl (link_seq (spec_l8Walk_n1_l n x3946 x3947) (fun (t : Unit) => (spec_l8Walk_n16_l n x3946 x3947))))

theorem spec_l8Walk_e (n : Nat) (x3946 : List Int) (x3947 : Int) {r : AV} {H' : Heap} (h : (Ans.mk _ (spec_l8Walk_fuel (n + 1) x3946 x3947) (fun (t : (List Int)) => (.slc 0, [some (sI t)])) [] none).run = some (r, H')) : Awp (spec_l8Walk_ctx n) LL (bodyOf Try.f33) spec_l8Walk_an ⟨mkE 51 0 [(0, dL x3946), (1, dI x3947)], []⟩ (Ret (tlook tys) Try.f33.results.toList r H') :=
  ret_of' (Link.cast (by kernel_rfl) (by kernel_rfl) (spec_l8Walk_n17_l n x3946 x3947)) (by (show _ = _); kernel_rfl) (by
  intro t
  exact ret_mk [.slc 0] (by kernel_rfl) (by kernel_rfl) (by kernel_rfl) (by kernel_rfl)) h

theorem spec_l8Walk_step (n : Nat) (h33 : Sound Try.prog 33 (F_spec_l8Walk_fuel n)) : Sound Try.prog 33 (F_spec_l8Walk_fuel (n + 1)) := by
  refine fn_sound' (C := spec_l8Walk_ctx n) (c := bodyOf Try.f33) (cok_of tys_ok (allc h33 alln) (allc Try.call33 alln) (by kernel_rfl)) Try.func33 (by kernel_rfl) LL spec_l8Walk_an ?_
  intro avs H r H' h
  unfold F_spec_l8Walk_fuel at h
  split at h
  · refine Awp.cast ?_ ?_ ?_ (spec_l8Walk_e n _ _ h) <;> kernel_rfl
  · simp [Ans.no, Ans.run] at h

theorem spec_l8Walk_null : Sound Try.prog 33 (F_spec_l8Walk_fuel 0) := by
  intro avs H r H' h
  unfold F_spec_l8Walk_fuel at h
  split at h
  · simp [spec_l8Walk_fuel, spec_l8Walk_knot, Ans.run] at h
  · simp [Ans.no, Ans.run] at h

theorem spec_l8Walk_knot_all : ∀ n, Sound Try.prog 33 (F_spec_l8Walk_fuel n)
  | 0 => spec_l8Walk_null
  | n + 1 => by
    have h33 := spec_l8Walk_knot_all n
    exact spec_l8Walk_step n h33

def F_spec_l8Walk : Fun := fun avs H =>
  match avs, H with
  | [.dat (.list (.int .i64)) x3946, .dat (.int .i64) x3947], [] => ⟨_, spec_l8Walk x3946 x3947, fun (t : (List Int)) => (.slc 0, [some (sI t)]), [], none⟩
  | _, _ => Ans.no

theorem spec_l8Walk_sound : Sound Try.prog 33 F_spec_l8Walk := by
  have e : F_spec_l8Walk = F_spec_l8Walk_fuel RR := by
    funext avs H
    unfold F_spec_l8Walk F_spec_l8Walk_fuel
    split <;> first | rfl | (simp only [spec_l8Walk])
  rw [e]
  exact (spec_l8Walk_knot_all RR)


/-! loop.example/headtrees/spec.FlatOrder -/

def spec_FlatOrder_an : Ann := (.seq (.leaf [0]) (.seq (.seq (.leaf [0, 5]) (.cond (.seq (.leaf [2]) (.leaf [2])) (.leaf [0]))) (.seq (.leaf [2]) (.leaf [2]))))

noncomputable def spec_FlatOrder_ctx : Ctx := ⟨tlook tys, olook [(11, F_spec_TreeOk), (34, F_spec_RootOf), (33, F_spec_l8Walk)], ioF, 0, false, []⟩

theorem spec_FlatOrder_n1_l (x3905 : List Int) : Link spec_FlatOrder_ctx LL (bodyOf Try.f32) spec_FlatOrder_an ⟨mkE 11 0 [(0, dL x3905)], []⟩ (spec_FlatOrder_n1 x3905) (fun (t : (List Int)) => (Exit.ret, ⟨mkE 11 0 [(2, .slc 0)], [some (sI t)]⟩)) := .of fun K h => by
  simp only [spec_FlatOrder_n1, wpW] at h
  exact .of (by kernel_rfl) h

theorem spec_FlatOrder_e (x3905 : List Int) {r : AV} {H' : Heap} (h : (Ans.mk _ (spec_FlatOrder x3905) (fun (t : (List Int)) => (.slc 0, [some (sI t)])) [] none).run = some (r, H')) : Awp spec_FlatOrder_ctx LL (bodyOf Try.f32) spec_FlatOrder_an ⟨mkE 11 0 [(0, dL x3905)], []⟩ (Ret (tlook tys) Try.f32.results.toList r H') :=
  ret_of' (spec_FlatOrder_n1_l x3905) (by unfold spec_FlatOrder; kernel_rfl) (by
  intro t
  exact ret_mk [.slc 0] (by kernel_rfl) (by kernel_rfl) (by kernel_rfl) (by kernel_rfl)) h

def F_spec_FlatOrder : Fun := fun avs H =>
  match avs, H with
  | [.dat (.list (.int .i64)) x3905], [] => ⟨_, spec_FlatOrder x3905, fun (t : (List Int)) => (.slc 0, [some (sI t)]), [], none⟩
  | _, _ => Ans.no

theorem spec_FlatOrder_sound : Sound Try.prog 32 F_spec_FlatOrder := by
  refine fn_sound' (C := spec_FlatOrder_ctx) (c := bodyOf Try.f32) (cok_of tys_ok (allc spec_TreeOk_sound (allc spec_RootOf_sound (allc spec_l8Walk_sound alln))) (allc Try.call11 (allc Try.call34 (allc Try.call33 alln))) (by kernel_rfl)) Try.func32 (by kernel_rfl) LL spec_FlatOrder_an ?_
  intro avs H r H' h
  unfold F_spec_FlatOrder at h
  split at h
  · refine Awp.cast ?_ ?_ ?_ (spec_FlatOrder_e _ h) <;> kernel_rfl
  · simp [Ans.no, Ans.run] at h


/-! loop.example/headtrees/spec.MadeFlat -/

def spec_MadeFlat_an : Ann := (.seq (.leaf [0]) (.seq (.leaf [3]) (.seq (.leaf [2]) (.leaf [2]))))

noncomputable def spec_MadeFlat_ctx : Ctx := ⟨tlook tys, olook [(32, F_spec_FlatOrder), (22, F_spec_PutInOrder)], ioF, 0, false, []⟩

theorem spec_MadeFlat_n1_l (x3904 : List Int) : Link spec_MadeFlat_ctx LL (bodyOf Try.f31) spec_MadeFlat_an ⟨mkE 13 0 [(0, dL x3904)], []⟩ (spec_MadeFlat_n1 x3904) (fun (t : (List Int)) => (Exit.ret, ⟨mkE 13 0 [(2, .slc 0)], [some (sI t)]⟩)) := .of fun K h => by
  simp only [spec_MadeFlat_n1, wpW] at h
  exact .of (by kernel_rfl) h

theorem spec_MadeFlat_e (x3904 : List Int) {r : AV} {H' : Heap} (h : (Ans.mk _ (spec_MadeFlat x3904) (fun (t : (List Int)) => (.slc 0, [some (sI t)])) [] none).run = some (r, H')) : Awp spec_MadeFlat_ctx LL (bodyOf Try.f31) spec_MadeFlat_an ⟨mkE 13 0 [(0, dL x3904)], []⟩ (Ret (tlook tys) Try.f31.results.toList r H') :=
  ret_of' (spec_MadeFlat_n1_l x3904) (by unfold spec_MadeFlat; kernel_rfl) (by
  intro t
  exact ret_mk [.slc 0] (by kernel_rfl) (by kernel_rfl) (by kernel_rfl) (by kernel_rfl)) h

def F_spec_MadeFlat : Fun := fun avs H =>
  match avs, H with
  | [.dat (.list (.int .i64)) x3904], [] => ⟨_, spec_MadeFlat x3904, fun (t : (List Int)) => (.slc 0, [some (sI t)]), [], none⟩
  | _, _ => Ans.no

theorem spec_MadeFlat_sound : Sound Try.prog 31 F_spec_MadeFlat := by
  refine fn_sound' (C := spec_MadeFlat_ctx) (c := bodyOf Try.f31) (cok_of tys_ok (allc spec_FlatOrder_sound (allc spec_PutInOrder_sound alln)) (allc Try.call32 (allc Try.call22 alln)) (by kernel_rfl)) Try.func31 (by kernel_rfl) LL spec_MadeFlat_an ?_
  intro avs H r H' h
  unfold F_spec_MadeFlat at h
  split at h
  · refine Awp.cast ?_ ?_ ?_ (spec_MadeFlat_e _ h) <;> kernel_rfl
  · simp [Ans.no, Ans.run] at h


/-! loop.example/headtrees/spec.l12Made -/

def spec_l12Made_an : Ann := (.seq (.leaf [0, 3]) (.seq (.leaf [0, 3, 5]) (.seq (.block (.seq (.leaf [0, 3, 5, 9]) (.cond (.seq (.leaf [5]) (.seq (.leaf [4]) (.leafF [⟨0, 4, true, none, none⟩] [4]))) (.seq (.leaf [0, 3, 5, 28]) (.cond (.seq (.leaf [4]) (.leafF [⟨0, 4, true, none, none⟩] [4])) (.seq (.leaf [0, 3, 5, 39]) (.cond (.seq (.leaf [4]) (.leaf [4])) (.seq (.leaf [0, 3, 48]) (.cond (.seq (.leaf [4]) (.leafF [⟨0, 4, true, none, none⟩] [4])) (.seq (.leaf [0, 54]) (.cond (.seq (.leaf [4]) (.leafF [⟨0, 4, true, none, none⟩] [4])) (.leaf [])))))))))))) (.seq (.leaf [4]) (.leafF [⟨0, 4, true, none, none⟩] [4])))))

noncomputable def spec_l12Made_ctx : Ctx := ⟨tlook tys, olook [(20, F_spec_l1In), (30, F_spec_BackOf), (31, F_spec_MadeFlat)], ioF, 0, false, []⟩

theorem spec_l12Made_n1_l (x3789 : List Int) (x3790 : Int) (x3791 : Int) (x3792 : Int) : Link spec_l12Made_ctx LL (bodyOf Try.f26) spec_l12Made_an ⟨mkE 61 0 [(0, dL x3789), (1, .agg [dI x3790, dI x3791, dI x3792])], []⟩ (spec_l12Made_n1 x3789 x3790 x3791 x3792) (fun (t : Nat × (List Int)) => (Exit.ret, ⟨mkE 61 0 [(4, .win 0 0 t.1)], [some (sI t.2)]⟩)) := .of fun K h => by
  simp only [spec_l12Made_n1, wpW] at h
  exact .of (by kernel_rfl) h

theorem spec_l12Made_e (x3789 : List Int) (x3790 : Int) (x3791 : Int) (x3792 : Int) {r : AV} {H' : Heap} (h : (Ans.mk _ (spec_l12Made x3789 x3790 x3791 x3792) (fun (t : Nat × (List Int)) => (.win 0 0 t.1, [some (sI t.2)])) [] none).run = some (r, H')) : Awp spec_l12Made_ctx LL (bodyOf Try.f26) spec_l12Made_an ⟨mkE 61 0 [(0, dL x3789), (1, .agg [dI x3790, dI x3791, dI x3792])], []⟩ (Ret (tlook tys) Try.f26.results.toList r H') :=
  ret_of' (spec_l12Made_n1_l x3789 x3790 x3791 x3792) (by unfold spec_l12Made; kernel_rfl) (by
  intro t
  exact ret_mk [.win 0 0 t.1] (by kernel_rfl) (by kernel_rfl) (by kernel_rfl) (by kernel_rfl)) h

def F_spec_l12Made : Fun := fun avs H =>
  match avs, H with
  | [.dat (.list (.int .i64)) x3789, .agg [.dat (.int .i64) x3790, .dat (.int .i64) x3791, .dat (.int .i64) x3792]], [] => ⟨_, spec_l12Made x3789 x3790 x3791 x3792, fun (t : Nat × (List Int)) => (.win 0 0 t.1, [some (sI t.2)]), [], none⟩
  | _, _ => Ans.no

theorem spec_l12Made_sound : Sound Try.prog 26 F_spec_l12Made := by
  refine fn_sound' (C := spec_l12Made_ctx) (c := bodyOf Try.f26) (cok_of tys_ok (allc spec_l1In_sound (allc spec_BackOf_sound (allc spec_MadeFlat_sound alln))) (allc Try.call20 (allc Try.call30 (allc Try.call31 alln))) (by kernel_rfl)) Try.func26 (by kernel_rfl) LL spec_l12Made_an ?_
  intro avs H r H' h
  unfold F_spec_l12Made at h
  split at h
  · refine Awp.cast ?_ ?_ ?_ (spec_l12Made_e _ _ _ _ h) <;> kernel_rfl
  · simp [Ans.no, Ans.run] at h


/-! loop.example/headtrees/spec.DeskDo -/

def spec_DeskDo_an : Ann := (.seq (.leaf [2, 3, 4]) (.seq (.seq (.leaf [2, 3, 4, 13]) (.cond (.seq (.leaf [4, 5]) (.leafF [⟨0, 4, false, some 0, some (.int .i64)⟩, ⟨0, 4, true, some 1, some (.int .i64)⟩] [4, 5])) (.leaf [2, 3, 4]))) (.seq (.leaf [2, 3, 4, 6]) (.seq (.seq (.leaf [2, 3, 4, 6, 25]) (.cond (.seq (.leaf [4, 6, 7]) (.seq (.leaf [4, 6, 7]) (.seq (.leaf [4, 6]) (.seq (.leaf [4, 5]) (.leaf [4, 5]))))) (.leaf [2, 3, 4, 6]))) (.seq (.leaf [2, 4, 6, 8]) (.seq (.leaf [2, 4, 6, 8, 9]) (.seq (.seq (.leaf [2, 4, 6, 8, 9, 10]) (.block (.loop (.seq (.seq (.leaf [2, 4, 6, 8, 9, 10, 58]) (.cond (.leaf [2, 4, 6, 8, 10]) (.leaf [4, 6, 8, 9]))) (.seq (.block (.draw [] [0, 1, 2, 3, 4, 5, 6, 7, 8, 9, 10] [] [2, 4, 6, 8, 9, 10])) (.leaf [2, 4, 6, 8, 9, 10])))))) (.seq (.seq (.leaf [4, 6, 8, 76]) (.cond (.seq (.leaf [4, 5]) (.leaf [4, 5])) (.leaf [4, 6, 8]))) (.seq (.leaf [4, 6, 8]) (.seq (.seq (.leaf [4, 6, 8, 88]) (.cond (.leaf [4, 6, 8]) (.leaf [4, 6, 8]))) (.seq (.leaf [4, 6]) (.seq (.leaf [4, 5]) (.leaf [4, 5])))))))))))))

noncomputable def spec_DeskDo_ctx : Ctx := ⟨tlook tys, olook [(6, F_spec_DeskOk), (25, F_spec_l12Copy), (26, F_spec_l12Made), (11, F_spec_TreeOk)], ioF, 0, true, []⟩

theorem spec_DeskDo_n1_l (x5109 : List Int) (x5110 : List (List Int)) (x5111 : Int) (x5112 : Int) (x5113 : Int) : Link spec_DeskDo_ctx LL (Code.seq (cq [0] (bodyOf Try.f15)) (Code.seq (cq [0,1] (bodyOf Try.f15)) (Code.seq (cq [0,1,1] (bodyOf Try.f15)) (Code.seq (cq [0,1,1,1] (bodyOf Try.f15)) (Code.seq (cq [0,1,1,1,1] (bodyOf Try.f15)) (cq [0,1,1,1,1,1] (bodyOf Try.f15))))))) (Ann.seq (aq [0] spec_DeskDo_an) (Ann.seq (aq [0,1] spec_DeskDo_an) (Ann.seq (aq [0,1,1] spec_DeskDo_an) (Ann.seq (aq [0,1,1,1] spec_DeskDo_an) (Ann.seq (aq [0,1,1,1,1] spec_DeskDo_an) (aq [0,1,1,1,1,1] spec_DeskDo_an)))))) ⟨mkE 98 0 [(0, .agg [dL x5109, .dat (.list (.list (.int .i64))) x5110]), (1, .agg [dI x5111, dI x5112, dI x5113])], []⟩ (spec_DeskDo_n1 x5109 x5110 x5111 x5112 x5113) (Sum.elim (fun (t : Nat × Bool × (List Int) × (List Int) × (List (List Int))) => (Exit.normal, ⟨mkE 98 0 [(2, .ptr 0 0), (4, .ptr 1 0), (6, .ptr 2 0), (8, .win 3 0 t.1), (9, dB t.2.1)], [some (.box [dL x5109, .dat (.list (.list (.int .i64))) x5110]), some (.box [.nils, .nils]), some (.box [.slc 4, .slc 5]), some (sI t.2.2.1), some (sI t.2.2.2.1), some (.nest (.int .i64) t.2.2.2.2 0 [])]⟩)) (fun (t : Bool × (List Int) × (List (List Int))) => (Exit.ret, ⟨mkE 98 0 [(4, .ptr 0 0), (5, dB t.1)], [some (.box [.slc 1, .slc 2]), some (sI t.2.1), some (.nest (.int .i64) t.2.2 0 [])]⟩))) := .of fun K h => by
  simp only [spec_DeskDo_n1, wpW] at h
  exact .of (by kernel_rfl) h

theorem spec_DeskDo_n2_l (x5582 : Nat) (x5583 : Bool) (x5109 : List Int) (x5110 : List (List Int)) (x5584 : List Int) (x5554 : List Int) (x5555 : List (List Int)) : Link spec_DeskDo_ctx LL (cq [0,0,1,1,1,1,1,1] (bodyOf Try.f15)) (aq [0,0,1,1,1,1,1,1] spec_DeskDo_an) ⟨mkE 98 0 [(2, .ptr 0 0), (4, .ptr 1 0), (6, .ptr 2 0), (8, .win 3 0 x5582), (9, dB x5583)], [some (.box [dL x5109, .dat (.list (.list (.int .i64))) x5110]), some (.box [.nils, .nils]), some (.box [.slc 4, .slc 5]), some (sI x5584), some (sI x5554), some (.nest (.int .i64) x5555 0 [])]⟩ (spec_DeskDo_n2) (fun (t : Unit) => (Exit.normal, ⟨mkE 98 0 [(2, .ptr 0 0), (4, .ptr 1 0), (6, .ptr 2 0), (8, .win 3 0 x5582), (9, dB x5583), (10, dI 0)], [some (.box [dL x5109, .dat (.list (.list (.int .i64))) x5110]), some (.box [.nils, .nils]), some (.box [.slc 4, .slc 5]), some (sI x5584), some (sI x5554), some (.nest (.int .i64) x5555 0 [])]⟩)) := .of fun K h => by
  simp only [spec_DeskDo_n2, wpW] at h
  exact .of (by kernel_rfl) h

theorem spec_DeskDo_n3_l (x5582 : Nat) (x5602 : Bool) (x5603 : Int) (x5109 : List Int) (x5110 : List (List Int)) (x5584 : List Int) (x5554 : List Int) (x5555 : List (List Int)) : Link spec_DeskDo_ctx LL (cq [0,0,1,0,1,1,1,1,1,1] (bodyOf Try.f15)) (aq [0,0,1,0,1,1,1,1,1,1] spec_DeskDo_an) ⟨mkE 98 0 [(2, .ptr 0 0), (4, .ptr 1 0), (6, .ptr 2 0), (8, .win 3 0 x5582), (9, dB x5602), (10, dI x5603)], [some (.box [dL x5109, .dat (.list (.list (.int .i64))) x5110]), some (.box [.nils, .nils]), some (.box [.slc 4, .slc 5]), some (sI x5584), some (sI x5554), some (.nest (.int .i64) x5555 0 [])]⟩ (spec_DeskDo_n3 x5582 x5602 x5603 x5109 x5584) (Sum.elim (fun (t : Bool × Int) => (Exit.normal, ⟨mkE 98 0 [(2, .ptr 0 0), (4, .ptr 1 0), (6, .ptr 2 0), (8, .win 3 0 x5582), (9, dB t.1), (10, dI t.2)], [some (.box [dL x5109, .dat (.list (.list (.int .i64))) x5110]), some (.box [.nils, .nils]), some (.box [.slc 4, .slc 5]), some (sI x5584), some (sI x5554), some (.nest (.int .i64) x5555 0 [])]⟩)) (fun (t : Bool) => ((Exit.exit 0), ⟨mkE 98 0 [(4, .ptr 0 0), (6, .ptr 1 0), (8, .win 2 0 x5582), (9, dB t)], [some (.box [.nils, .nils]), some (.box [.slc 3, .slc 4]), some (sI x5584), some (sI x5554), some (.nest (.int .i64) x5555 0 [])]⟩))) := .of fun K h => by
  simp only [spec_DeskDo_n3, wpW] at h
  exact .of (by kernel_rfl) h

def spec_DeskDo_n4_l (x5582 : Nat) (x5583 : Bool) (x5109 : List Int) (x5110 : List (List Int)) (x5584 : List Int) (x5554 : List Int) (x5555 : List (List Int)) := (link_loop (mk := fun (s : Bool × Int) => ⟨mkE 98 0 [(2, .ptr 0 0), (4, .ptr 1 0), (6, .ptr 2 0), (8, .win 3 0 x5582), (9, dB s.1), (10, dI s.2)], [some (.box [dL x5109, .dat (.list (.list (.int .i64))) x5110]), some (.box [.nils, .nils]), some (.box [.slc 4, .slc 5]), some (sI x5584), some (sI x5554), some (.nest (.int .i64) x5555 0 [])]⟩) (fin := (fun (t : Bool) => ((Exit.exit 0), ⟨mkE 98 0 [(4, .ptr 0 0), (6, .ptr 1 0), (8, .win 2 0 x5582), (9, dB t)], [some (.box [.nils, .nils]), some (.box [.slc 3, .slc 4]), some (sI x5584), some (sI x5554), some (.nest (.int .i64) x5555 0 [])]⟩))) (by
  rintro t f K h
  · exact h) (fun s => link_map (spec_DeskDo_n3_l x5582 s.1 s.2 x5109 x5110 x5584 x5554 x5555) (Sum.elim (fun (t : Bool × Int) => Sum.inl (t.1, t.2)) (fun (t : Bool) => Sum.inr t)) (by
  rintro (t | t)
  · kernel_rfl
  · kernel_rfl)) (x5583, 0))

def spec_DeskDo_n5_l (x5582 : Nat) (x5583 : Bool) (x5109 : List Int) (x5110 : List (List Int)) (x5584 : List Int) (x5554 : List Int) (x5555 : List (List Int)) := (link_block (fin2 := (fun (t : Bool) => (Exit.normal, ⟨mkE 98 0 [(4, .ptr 0 0), (6, .ptr 1 0), (8, .win 2 0 x5582), (9, dB t)], [some (.box [.nils, .nils]), some (.box [.slc 3, .slc 4]), some (sI x5584), some (sI x5554), some (.nest (.int .i64) x5555 0 [])]⟩))) (id := 0) (spec_DeskDo_n4_l x5582 x5583 x5109 x5110 x5584 x5554 x5555) (fun (t : Bool) => t) (by
  rintro t K h
  · exact Eq.mp (by kernel_rfl) h))

def spec_DeskDo_n6_l (x5582 : Nat) (x5583 : Bool) (x5109 : List Int) (x5110 : List (List Int)) (x5584 : List Int) (x5554 : List Int) (x5555 : List (List Int)) := (link_seq (spec_DeskDo_n2_l x5582 x5583 x5109 x5110 x5584 x5554 x5555) (fun (t : Unit) => (spec_DeskDo_n5_l x5582 x5583 x5109 x5110 x5584 x5554 x5555)))

theorem spec_DeskDo_n7_l (x5582 : Nat) (x5602 : Bool) (x5584 : List Int) (x5554 : List Int) (x5555 : List (List Int)) : Link spec_DeskDo_ctx LL (cq [1,1,1,1,1,1,1] (bodyOf Try.f15)) (aq [1,1,1,1,1,1,1] spec_DeskDo_an) ⟨mkE 98 0 [(4, .ptr 0 0), (6, .ptr 1 0), (8, .win 2 0 x5582), (9, dB x5602)], [some (.box [.nils, .nils]), some (.box [.slc 3, .slc 4]), some (sI x5584), some (sI x5554), some (.nest (.int .i64) x5555 0 [])]⟩ (spec_DeskDo_n7 x5582 x5602 x5584 x5554 x5555) (fun (t : Bool × (List Int) × (List (List Int))) => (Exit.ret, ⟨mkE 98 0 [(4, .ptr 0 0), (5, dB t.1)], [some (.box [.slc 1, .slc 2]), some (sI t.2.1), some (.nest (.int .i64) t.2.2 0 [])]⟩)) := .of fun K h => by
  simp only [spec_DeskDo_n7, wpW] at h
  exact .of (by kernel_rfl) h

def spec_DeskDo_n8_l (x5582 : Nat) (x5583 : Bool) (x5109 : List Int) (x5110 : List (List Int)) (x5584 : List Int) (x5554 : List Int) (x5555 : List (List Int)) := (link_seq (spec_DeskDo_n6_l x5582 x5583 x5109 x5110 x5584 x5554 x5555) (fun (t : Bool) => (spec_DeskDo_n7_l x5582 t x5584 x5554 x5555)))

def spec_DeskDo_n9_l (x5109 : List Int) (x5110 : List (List Int)) (x5111 : Int) (x5112 : Int) (x5113 : Int) := (link_group (c := (cq [0,1,1,1,1,1] (bodyOf Try.f15))) (a := (aq [0,1,1,1,1,1] spec_DeskDo_an)) [(cq [0] (bodyOf Try.f15)), (cq [0,1] (bodyOf Try.f15)), (cq [0,1,1] (bodyOf Try.f15)), (cq [0,1,1,1] (bodyOf Try.f15)), (cq [0,1,1,1,1] (bodyOf Try.f15))] [(aq [0] spec_DeskDo_an), (aq [0,1] spec_DeskDo_an), (aq [0,1,1] spec_DeskDo_an), (aq [0,1,1,1] spec_DeskDo_an), (aq [0,1,1,1,1] spec_DeskDo_an)] rfl (link_seq2 (spec_DeskDo_n1_l x5109 x5110 x5111 x5112 x5113) (fun (t : Nat × Bool × (List Int) × (List Int) × (List (List Int))) => (spec_DeskDo_n8_l t.1 t.2.1 x5109 x5110 t.2.2.1 t.2.2.2.1 t.2.2.2.2)) (fun (t : Bool × (List Int) × (List (List Int))) => t) (by
  rintro t
  · kernel_rfl) (by
  rintro t f K h
  · exact h)))

theorem spec_DeskDo_e (x5109 : List Int) (x5110 : List (List Int)) (x5111 : Int) (x5112 : Int) (x5113 : Int) {r : AV} {H' : Heap} (h : (Ans.mk _ (spec_DeskDo x5109 x5110 x5111 x5112 x5113) (fun (t : Bool × (List Int) × (List (List Int))) => (.tup [.agg [.slc 1, .slc 2], dB t.1], [some (.box [.slc 1, .slc 2]), some (sI t.2.1), some (.nest (.int .i64) t.2.2 0 [])])) [] none).run = some (r, H')) : Awp spec_DeskDo_ctx LL (bodyOf Try.f15) spec_DeskDo_an ⟨mkE 98 0 [(0, .agg [dL x5109, .dat (.list (.list (.int .i64))) x5110]), (1, .agg [dI x5111, dI x5112, dI x5113])], []⟩ (Ret (tlook tys) Try.f15.results.toList r H') :=
  ret_of' (Link.cast (by kernel_rfl) (by kernel_rfl) (spec_DeskDo_n9_l x5109 x5110 x5111 x5112 x5113)) (by unfold spec_DeskDo; kernel_rfl) (by
  intro t
  exact ret_mk [.agg [.slc 1, .slc 2], dB t.1] (by kernel_rfl) (by kernel_rfl) (by kernel_rfl) (by kernel_rfl)) h

def F_spec_DeskDo : Fun := fun avs H =>
  match avs, H with
  | [.agg [.dat (.list (.int .i64)) x5109, .dat (.list (.list (.int .i64))) x5110], .agg [.dat (.int .i64) x5111, .dat (.int .i64) x5112, .dat (.int .i64) x5113]], [] => ⟨_, spec_DeskDo x5109 x5110 x5111 x5112 x5113, fun (t : Bool × (List Int) × (List (List Int))) => (.tup [.agg [.slc 1, .slc 2], dB t.1], [some (.box [.slc 1, .slc 2]), some (sI t.2.1), some (.nest (.int .i64) t.2.2 0 [])]), [], none⟩
  | _, _ => Ans.no

theorem spec_DeskDo_sound : Sound Try.prog 15 F_spec_DeskDo := by
  refine fn_sound' (C := spec_DeskDo_ctx) (c := bodyOf Try.f15) (cok_of tys_ok (allc spec_DeskOk_sound (allc spec_l12Copy_sound (allc spec_l12Made_sound (allc spec_TreeOk_sound alln)))) (allc Try.call6 (allc Try.call25 (allc Try.call26 (allc Try.call11 alln)))) (by kernel_rfl)) Try.func15 (by kernel_rfl) LL spec_DeskDo_an ?_
  intro avs H r H' h
  unfold F_spec_DeskDo at h
  split at h
  · refine Awp.cast ?_ ?_ ?_ (spec_DeskDo_e _ _ _ _ _ h) <;> kernel_rfl
  · simp [Ans.no, Ans.run] at h


/-! loop.example/headtrees/spec.l20Desk -/

def spec_l20Desk_an : Ann := (.seq (.leaf [0, 1, 4]) (.seq (.leaf [0, 1, 4, 5]) (.seq (.seq (.leafF [⟨3, 5, false, some 0, none⟩, ⟨3, 5, true, some 1, some (.int .i64)⟩] [0, 1, 4, 5, 7]) (.block (.loop (.seq (.seq (.leaf [0, 1, 4, 5, 7, 19]) (.cond (.leafF [⟨0, 5, false, some 0, none⟩] [0, 1, 4, 5, 7]) (.leaf [0, 1, 4, 5]))) (.seq (.block (.seq (.draw [5, 200002, 300000] [0, 1, 2, 3, 4, 5, 6, 7, 8, 9, 10, 11] [] [0, 1, 4, 5, 7, 8, 9]) (.seq (.leaf [0, 1, 4, 5, 7, 8, 31]) (.cond (.leaf [0, 1, 4, 5, 7]) (.leaf [0, 1, 4, 5, 7]))))) (.leafF [⟨3, 5, false, some 0, none⟩, ⟨3, 5, true, some 1, some (.int .i64)⟩] [0, 1, 4, 5, 7])))))) (.seq (.seq (.leaf [0, 4, 5, 35]) (.cond (.seq (.leaf [4, 5, 37]) (.block (.seq (.leaf [4, 5, 37, 39]) (.cond (.leaf [4, 5]) (.seq (.leaf [4, 5, 43]) (.cond (.leaf [4, 5]) (.seq (.leaf [4]) (.leafF [⟨0, 4, false, some 0, some (.int .i64)⟩, ⟨0, 4, false, some 0, none⟩, ⟨0, 4, true, some 1, some (.int .i64)⟩] [4])))))))) (.leaf [4, 5]))) (.seq (.leaf [4]) (.leafF [⟨0, 4, false, some 0, none⟩] [4]))))))

noncomputable def spec_l20Desk_ctx : Ctx := ⟨tlook tys, olook [(13, F_spec_l20Wild), (12, F_spec_DeskNew), (14, F_spec_l20Rd_pick), (16, F_spec_l20Deed), (15, F_spec_DeskDo), (17, F_spec_l20Rd_odd)], ioF, 1, true, []⟩

theorem spec_l20Desk_n1_l (x1879 : Int) (x1880 : List Int) (x1881 : Int) : Link spec_l20Desk_ctx LL (Code.seq (cq [0] (bodyOf Try.f8)) (cq [0,1] (bodyOf Try.f8))) (Ann.seq (aq [0] spec_l20Desk_an) (aq [0,1] spec_l20Desk_an)) ⟨mkE 52 0 [(0, .ptr 0 0), (1, dI x1879)], [some (.box [dV x1880, dI x1881])]⟩ (spec_l20Desk_n1 x1880 x1881) (fun (t : Int × (List Int)) => (Exit.normal, ⟨mkE 52 0 [(0, .ptr 0 0), (1, dI x1879), (4, .ptr 1 0), (5, .ptr 2 0)], [some (.box [dV x1880, dI t.1]), some (.box [.nils, .nils]), some (.box [.slc 3, .nils]), some (sI t.2)]⟩)) := .of fun K h => by
  simp only [spec_l20Desk_n1, wpW] at h
  exact .of (by kernel_rfl) h

theorem spec_l20Desk_n2_l (x1879 : Int) (x1880 : List Int) (x5975 : Int) (x5979 : List Int) : Link spec_l20Desk_ctx LL (cq [0,0,1,1] (bodyOf Try.f8)) (aq [0,0,1,1] spec_l20Desk_an) ⟨mkE 52 0 [(0, .ptr 0 0), (1, dI x1879), (4, .ptr 1 0), (5, .ptr 2 0)], [some (.box [dV x1880, dI x5975]), some (.box [.nils, .nils]), some (.box [.slc 3, .nils]), some (sI x5979)]⟩ (spec_l20Desk_n2 x1880 x5975) (fun (t : Int × Int) => (Exit.normal, ⟨mkE 52 0 [(0, .ptr 0 0), (1, dI x1879), (4, .ptr 1 0), (5, .ptr 2 0), (7, dI t.1)], [some (.box [dV x1880, dI t.2]), some (.box [.nils, .nils]), some (.box [dL x5979, .slc 3]), some (.nest (.int .i64) ([] : List (List Int)) 0 [])]⟩)) := .of fun K h => by
  simp only [spec_l20Desk_n2, wpW] at h
  exact .of (by kernel_rfl) h

theorem spec_l20Desk_n3_l (x1879 : Int) (x6009 : Int) (x1880 : List Int) (x6010 : Int) (x6011 : List Int) (x6012 : List (List Int)) : Link spec_l20Desk_ctx LL (cq [0,0,1,0,1,1] (bodyOf Try.f8)) (aq [0,0,1,0,1,1] spec_l20Desk_an) ⟨mkE 52 0 [(0, .ptr 0 0), (1, dI x1879), (4, .ptr 1 0), (5, .ptr 2 0), (7, dI x6009)], [some (.box [dV x1880, dI x6010]), some (.box [.nils, .nils]), some (.box [dL x6011, .slc 3]), some (.nest (.int .i64) x6012 0 [])]⟩ (spec_l20Desk_n3 x6009 x1880 x6010 x6011 x6012) (Sum.elim (fun (t : Int × Int × (List Int) × (List (List Int))) => (Exit.normal, ⟨mkE 52 0 [(0, .ptr 0 0), (1, dI x1879), (4, .ptr 1 0), (5, .ptr 2 0), (7, dI t.1)], [some (.box [dV x1880, dI t.2.1]), some (.box [.nils, .nils]), some (.box [dL t.2.2.1, .slc 3]), some (.nest (.int .i64) t.2.2.2 0 [])]⟩)) (fun (t : Int × (List Int) × (List (List Int))) => ((Exit.exit 0), ⟨mkE 52 0 [(0, .ptr 0 0), (1, dI x1879), (4, .ptr 1 0), (5, .ptr 2 0)], [some (.box [dV x1880, dI t.1]), some (.box [.nils, .nils]), some (.box [dL t.2.1, .slc 3]), some (.nest (.int .i64) t.2.2 0 [])]⟩))) := .of fun K h => by
  simp only [spec_l20Desk_n3, wpW] at h
  exact .of (by kernel_rfl) h

def spec_l20Desk_n4_l (x1879 : Int) (x5981 : Int) (x1880 : List Int) (x5982 : Int) (x5979 : List Int) := (link_loop (mk := fun (s : Int × Int × (List Int) × (List (List Int))) => ⟨mkE 52 0 [(0, .ptr 0 0), (1, dI x1879), (4, .ptr 1 0), (5, .ptr 2 0), (7, dI s.1)], [some (.box [dV x1880, dI s.2.1]), some (.box [.nils, .nils]), some (.box [dL s.2.2.1, .slc 3]), some (.nest (.int .i64) s.2.2.2 0 [])]⟩) (fin := (fun (t : Int × (List Int) × (List (List Int))) => ((Exit.exit 0), ⟨mkE 52 0 [(0, .ptr 0 0), (1, dI x1879), (4, .ptr 1 0), (5, .ptr 2 0)], [some (.box [dV x1880, dI t.1]), some (.box [.nils, .nils]), some (.box [dL t.2.1, .slc 3]), some (.nest (.int .i64) t.2.2 0 [])]⟩))) (by
  rintro t f K h
  · exact h) (fun s => link_map (spec_l20Desk_n3_l x1879 s.1 x1880 s.2.1 s.2.2.1 s.2.2.2) (Sum.elim (fun (t : Int × Int × (List Int) × (List (List Int))) => Sum.inl (t.1, t.2.1, t.2.2.1, t.2.2.2)) (fun (t : Int × (List Int) × (List (List Int))) => Sum.inr t)) (by
  rintro (t | t)
  · kernel_rfl
  · kernel_rfl)) (x5981, x5982, x5979, ([] : List (List Int))))

def spec_l20Desk_n5_l (x1879 : Int) (x5981 : Int) (x1880 : List Int) (x5982 : Int) (x5979 : List Int) := (link_block (fin2 := (fun (t : Int × (List Int) × (List (List Int))) => (Exit.normal, ⟨mkE 52 0 [(0, .ptr 0 0), (1, dI x1879), (4, .ptr 1 0), (5, .ptr 2 0)], [some (.box [dV x1880, dI t.1]), some (.box [.nils, .nils]), some (.box [dL t.2.1, .slc 3]), some (.nest (.int .i64) t.2.2 0 [])]⟩))) (id := 0) (spec_l20Desk_n4_l x1879 x5981 x1880 x5982 x5979) (fun (t : Int × (List Int) × (List (List Int))) => (t.1, t.2.1, t.2.2)) (by
  rintro t K h
  · exact Eq.mp (by kernel_rfl) h))

def spec_l20Desk_n6_l (x1879 : Int) (x1880 : List Int) (x5975 : Int) (x5979 : List Int) := (link_seq (spec_l20Desk_n2_l x1879 x1880 x5975 x5979) (fun (t : Int × Int) => (spec_l20Desk_n5_l x1879 t.1 x1880 t.2 x5979)))

theorem spec_l20Desk_n7_l (x1879 : Int) (x1880 : List Int) (x6010 : Int) (x6011 : List Int) (x6012 : List (List Int)) : Link spec_l20Desk_ctx LL (cq [1,1,1] (bodyOf Try.f8)) (aq [1,1,1] spec_l20Desk_an) ⟨mkE 52 0 [(0, .ptr 0 0), (1, dI x1879), (4, .ptr 1 0), (5, .ptr 2 0)], [some (.box [dV x1880, dI x6010]), some (.box [.nils, .nils]), some (.box [dL x6011, .slc 3]), some (.nest (.int .i64) x6012 0 [])]⟩ (spec_l20Desk_n7 x1879 x1880 x6010 x6011 x6012) (fun (t : Int × (List Int) × (List (List Int))) => (Exit.ret, ⟨mkE 52 0 [(4, .ptr 1 0)], [some (.box [dV x1880, dI t.1]), some (.box [dL t.2.1, .slc 2]), some (.nest (.int .i64) t.2.2 0 [])]⟩)) := .of fun K h => by
  simp only [spec_l20Desk_n7, wpW] at h
  exact .of (by kernel_rfl) h

def spec_l20Desk_n8_l (x1879 : Int) (x1880 : List Int) (x5975 : Int) (x5979 : List Int) := (link_seq (spec_l20Desk_n6_l x1879 x1880 x5975 x5979) (fun (t : Int × (List Int) × (List (List Int))) => (spec_l20Desk_n7_l x1879 x1880 t.1 t.2.1 t.2.2)))

def spec_l20Desk_n9_l (x1879 : Int) (x1880 : List Int) (x1881 : Int) := (link_group (c := (cq [0,1] (bodyOf Try.f8))) (a := (aq [0,1] spec_l20Desk_an)) [(cq [0] (bodyOf Try.f8))] [(aq [0] spec_l20Desk_an)] rfl (link_seq (spec_l20Desk_n1_l x1879 x1880 x1881) (fun (t : Int × (List Int)) => (spec_l20Desk_n8_l x1879 x1880 t.1 t.2))))

theorem spec_l20Desk_e (x1879 : Int) (x1880 : List Int) (x1881 : Int) {r : AV} {H' : Heap} (h : (Ans.mk _ (spec_l20Desk x1879 x1880 x1881) (fun (t : Int × (List Int) × (List (List Int))) => (.agg [dL t.2.1, .slc 2], [some (.box [dV x1880, dI t.1]), some (.box [dL t.2.1, .slc 2]), some (.nest (.int .i64) t.2.2 0 [])])) [] none).run = some (r, H')) : Awp spec_l20Desk_ctx LL (bodyOf Try.f8) spec_l20Desk_an ⟨mkE 52 0 [(0, .ptr 0 0), (1, dI x1879)], [some (.box [dV x1880, dI x1881])]⟩ (Ret (tlook tys) Try.f8.results.toList r H') :=
  ret_of' (Link.cast (by kernel_rfl) (by kernel_rfl) (spec_l20Desk_n9_l x1879 x1880 x1881)) (by unfold spec_l20Desk; kernel_rfl) (by
  intro t
  exact ret_mk [.agg [dL t.2.1, .slc 2]] (by kernel_rfl) (by kernel_rfl) (by kernel_rfl) (by kernel_rfl)) h

def F_spec_l20Desk : Fun := fun avs H =>
  match avs, H with
  | [.ptr 0 0, .dat (.int .i64) x1879], [some (.box [.dat (.list (.int .u8)) x1880, .dat (.int .i64) x1881])] => ⟨_, spec_l20Desk x1879 x1880 x1881, fun (t : Int × (List Int) × (List (List Int))) => (.agg [dL t.2.1, .slc 2], [some (.box [dV x1880, dI t.1]), some (.box [dL t.2.1, .slc 2]), some (.nest (.int .i64) t.2.2 0 [])]), [], none⟩
  | _, _ => Ans.no

theorem spec_l20Desk_sound : Sound Try.prog 8 F_spec_l20Desk := by
  refine fn_sound' (C := spec_l20Desk_ctx) (c := bodyOf Try.f8) (cok_of tys_ok (allc spec_l20Wild_sound (allc spec_DeskNew_sound (allc spec_l20Rd_pick_sound (allc spec_l20Deed_sound (allc spec_DeskDo_sound (allc spec_l20Rd_odd_sound alln)))))) (allc Try.call13 (allc Try.call12 (allc Try.call14 (allc Try.call16 (allc Try.call15 (allc Try.call17 alln)))))) (by kernel_rfl)) Try.func8 (by kernel_rfl) LL spec_l20Desk_an ?_
  intro avs H r H' h
  unfold F_spec_l20Desk at h
  split at h
  · refine Awp.cast ?_ ?_ ?_ (spec_l20Desk_e _ _ _ h) <;> kernel_rfl
  · simp [Ans.no, Ans.run] at h


/-! loop.example/headtrees/spec.DrawDeskOk -/

def spec_DrawDeskOk_an : Ann := (.seq (.leaf [0, 2]) (.seq (.leaf [2]) (.leaf [2])))

noncomputable def spec_DrawDeskOk_ctx : Ctx := ⟨tlook tys, olook [(9, F_spec_l20Open), (8, F_spec_l20Desk)], ioF, 0, true, []⟩

theorem spec_DrawDeskOk_n1_l (x1860 : List Int) : Link spec_DrawDeskOk_ctx LL (bodyOf Try.f4) spec_DrawDeskOk_an ⟨mkE 6 0 [(0, dV x1860)], []⟩ (spec_DrawDeskOk_n1 x1860) (fun (t : (List Int) × (List (List Int))) => (Exit.ret, ⟨mkE 6 0 [(2, .ptr 0 0)], [some (.box [dL t.1, .slc 1]), some (.nest (.int .i64) t.2 0 [])]⟩)) := .of fun K h => by
  simp only [spec_DrawDeskOk_n1, wpW] at h
  exact .of (by kernel_rfl) h

theorem spec_DrawDeskOk_e (x1860 : List Int) {r : AV} {H' : Heap} (h : (Ans.mk _ (spec_DrawDeskOk x1860) (fun (t : (List Int) × (List (List Int))) => (.agg [dL t.1, .slc 1], [some (.box [dL t.1, .slc 1]), some (.nest (.int .i64) t.2 0 [])])) [] none).run = some (r, H')) : Awp spec_DrawDeskOk_ctx LL (bodyOf Try.f4) spec_DrawDeskOk_an ⟨mkE 6 0 [(0, dV x1860)], []⟩ (Ret (tlook tys) Try.f4.results.toList r H') :=
  ret_of' (spec_DrawDeskOk_n1_l x1860) (by unfold spec_DrawDeskOk; kernel_rfl) (by
  intro t
  exact ret_mk [.agg [dL t.1, .slc 1]] (by kernel_rfl) (by kernel_rfl) (by kernel_rfl) (by kernel_rfl)) h

def F_spec_DrawDeskOk : Fun := fun avs H =>
  match avs, H with
  | [.dat (.list (.int .u8)) x1860], [] => ⟨_, spec_DrawDeskOk x1860, fun (t : (List Int) × (List (List Int))) => (.agg [dL t.1, .slc 1], [some (.box [dL t.1, .slc 1]), some (.nest (.int .i64) t.2 0 [])]), [], none⟩
  | _, _ => Ans.no

theorem spec_DrawDeskOk_sound : Sound Try.prog 4 F_spec_DrawDeskOk := by
  refine fn_sound' (C := spec_DrawDeskOk_ctx) (c := bodyOf Try.f4) (cok_of tys_ok (allc spec_l20Open_sound (allc spec_l20Desk_sound alln)) (allc Try.call9 (allc Try.call8 alln)) (by kernel_rfl)) Try.func4 (by kernel_rfl) LL spec_DrawDeskOk_an ?_
  intro avs H r H' h
  unfold F_spec_DrawDeskOk at h
  split at h
  · refine Awp.cast ?_ ?_ ?_ (spec_DrawDeskOk_e _ h) <;> kernel_rfl
  · simp [Ans.no, Ans.run] at h


/-! loop.example/headtrees/impl.oneRoot -/

def impl_oneRoot_an : Ann := (.seq (.leaf [0]) (.seq (.leaf [0, 3]) (.seq (.seq (.leaf [0, 3, 6, 7, 8]) (.block (.loop (.seq (.leaf [0, 3, 6, 7, 8, 9]) (.seq (.cond (.leaf [0, 3, 6, 7, 8]) (.leaf [3])) (.seq (.block (.seq (.leaf [0, 3, 5, 6, 7, 8]) (.seq (.seq (.leaf [0, 3, 5, 6, 7, 8, 19]) (.cond (.seq (.leaf [2]) (.leaf [2])) (.leaf [0, 3, 5, 6, 7, 8]))) (.seq (.leaf [0, 3, 6, 7, 8, 21]) (.cond (.leaf [0, 3, 6, 7, 8]) (.leaf [0, 3, 6, 7, 8])))))) (.leaf [0, 3, 6, 7, 8]))))))) (.seq (.leaf [2]) (.leaf [2])))))

noncomputable def impl_oneRoot_ctx : Ctx := ⟨tlook tys, olook [], ioF, 0, false, []⟩

theorem impl_oneRoot_n1_l (x6099 : List Int) : Link impl_oneRoot_ctx LL (Code.seq (cq [0] (bodyOf Try.f18)) (cq [0,1] (bodyOf Try.f18))) (Ann.seq (aq [0] impl_oneRoot_an) (aq [0,1] impl_oneRoot_an)) ⟨mkE 27 0 [(0, dL x6099)], []⟩ (impl_oneRoot_n1) (fun (t : Unit) => (Exit.normal, ⟨mkE 27 0 [(0, dL x6099), (3, dI 0)], []⟩)) := .of fun K h => by
  simp only [impl_oneRoot_n1, wpW] at h
  exact .of (by kernel_rfl) h

theorem impl_oneRoot_n2_l (x6099 : List Int) : Link impl_oneRoot_ctx LL (cq [0,0,1,1] (bodyOf Try.f18)) (aq [0,0,1,1] impl_oneRoot_an) ⟨mkE 27 0 [(0, dL x6099), (3, dI 0)], []⟩ (impl_oneRoot_n2 x6099) (fun (t : Int) => (Exit.normal, ⟨mkE 27 0 [(0, dL x6099), (3, dI 0), (6, dL x6099), (7, dI t), (8, dI 0)], []⟩)) := .of fun K h => by
  simp only [impl_oneRoot_n2, wpW] at h
  exact .of (by kernel_rfl) h

theorem impl_oneRoot_n3_l (x6099 : List Int) (x6121 : Int) (x6100 : Int) (x6122 : Int) : Link impl_oneRoot_ctx LL (cq [0,0,1,0,1,1] (bodyOf Try.f18)) (aq [0,0,1,0,1,1] impl_oneRoot_an) ⟨mkE 27 0 [(0, dL x6099), (3, dI x6121), (6, dL x6099), (7, dI x6100), (8, dI x6122)], []⟩ (impl_oneRoot_n3 x6099 x6121 x6100 x6122) (Sum.elim (fun (t : Int × Int) => (Exit.normal, ⟨mkE 27 0 [(0, dL x6099), (3, dI t.1), (6, dL x6099), (7, dI x6100), (8, dI t.2)], []⟩)) (Sum.elim (fun (t : Bool) => (Exit.ret, ⟨mkE 27 0 [(2, dB t)], []⟩)) (fun (t : Int) => ((Exit.exit 0), ⟨mkE 27 0 [(3, dI t)], []⟩)))) := .of fun K h => by
  simp only [impl_oneRoot_n3, wpW] at h
  exact .of (by kernel_rfl) h

def impl_oneRoot_n4_l (x6099 : List Int) (x6100 : Int) := (link_loop (mk := fun (s : Int × Int) => ⟨mkE 27 0 [(0, dL x6099), (3, dI s.1), (6, dL x6099), (7, dI x6100), (8, dI s.2)], []⟩) (fin := (Sum.elim (fun (t : Bool) => (Exit.ret, ⟨mkE 27 0 [(2, dB t)], []⟩)) (fun (t : Int) => ((Exit.exit 0), ⟨mkE 27 0 [(3, dI t)], []⟩)))) (by
  rintro (t | t) f K h
  · exact h
  · exact h) (fun s => link_map (impl_oneRoot_n3_l x6099 s.1 x6100 s.2) (Sum.elim (fun (t : Int × Int) => Sum.inl (t.1, t.2)) (Sum.elim (fun (t : Bool) => Sum.inr (Sum.inl t)) (fun (t : Int) => Sum.inr (Sum.inr t)))) (by
  rintro (t | t | t)
  · kernel_rfl
  · kernel_rfl
  · kernel_rfl)) (0, 0))

def impl_oneRoot_n5_l (x6099 : List Int) (x6100 : Int) := (link_block (fin2 := (Sum.elim (fun (t : Int) => (Exit.normal, ⟨mkE 27 0 [(3, dI t)], []⟩)) (fun (t : Bool) => (Exit.ret, ⟨mkE 27 0 [(2, dB t)], []⟩)))) (id := 0) (impl_oneRoot_n4_l x6099 x6100) (Sum.elim (fun (t : Bool) => (Sum.inr t)) (fun (t : Int) => (Sum.inl t))) (by
  rintro (t | t) K h
  · exact Eq.mp (by kernel_rfl) h
  · exact Eq.mp (by kernel_rfl) h))

def impl_oneRoot_n6_l (x6099 : List Int) := (link_seq (impl_oneRoot_n2_l x6099) (fun (t : Int) => (impl_oneRoot_n5_l x6099 t)))

theorem impl_oneRoot_n7_l (x6121 : Int) : Link impl_oneRoot_ctx LL (cq [1,1,1] (bodyOf Try.f18)) (aq [1,1,1] impl_oneRoot_an) ⟨mkE 27 0 [(3, dI x6121)], []⟩ (impl_oneRoot_n7 x6121) (fun (t : Bool) => (Exit.ret, ⟨mkE 27 0 [(2, dB t)], []⟩)) := .of fun K h => by
  simp only [impl_oneRoot_n7, wpW] at h
  exact .of (by kernel_rfl) h

def impl_oneRoot_n8_l (x6099 : List Int) := (link_seq2 (impl_oneRoot_n6_l x6099) (fun (t : Int) => (impl_oneRoot_n7_l t)) (fun (t : Bool) => t) (by
  rintro t
  · kernel_rfl) (by
  rintro t f K h
  · exact h))

def impl_oneRoot_n9_l (x6099 : List Int) := (link_group (c := (cq [0,1] (bodyOf Try.f18))) (a := (aq [0,1] impl_oneRoot_an)) [(cq [0] (bodyOf Try.f18))] [(aq [0] impl_oneRoot_an)] rfl (link_seq (impl_oneRoot_n1_l x6099) (fun (t : Unit) => (impl_oneRoot_n8_l x6099))))

theorem impl_oneRoot_e (x6099 : List Int) {r : AV} {H' : Heap} (h : (Ans.mk _ (impl_oneRoot x6099) (fun (t : Bool) => (dB t, [])) [] none).run = some (r, H')) : Awp impl_oneRoot_ctx LL (bodyOf Try.f18) impl_oneRoot_an ⟨mkE 27 0 [(0, dL x6099)], []⟩ (Ret (tlook tys) Try.f18.results.toList r H') :=
  ret_of' (Link.cast (by kernel_rfl) (by kernel_rfl) (impl_oneRoot_n9_l x6099)) (by unfold impl_oneRoot; kernel_rfl) (by
  intro t
  exact ret_mk [dB t] (by kernel_rfl) (by kernel_rfl) (by kernel_rfl) (by kernel_rfl)) h

def F_impl_oneRoot : Fun := fun avs H =>
  match avs, H with
  | [.dat (.list (.int .i64)) x6099], [] => ⟨_, impl_oneRoot x6099, fun (t : Bool) => (dB t, []), [], none⟩
  | _, _ => Ans.no

theorem impl_oneRoot_sound : Sound Try.prog 18 F_impl_oneRoot := by
  refine fn_sound' (C := impl_oneRoot_ctx) (c := bodyOf Try.f18) (cok_of tys_ok (alln) (alln) (by kernel_rfl)) Try.func18 (by kernel_rfl) LL impl_oneRoot_an ?_
  intro avs H r H' h
  unfold F_impl_oneRoot at h
  split at h
  · refine Awp.cast ?_ ?_ ?_ (impl_oneRoot_e _ h) <;> kernel_rfl
  · simp [Ans.no, Ans.run] at h


/-! (*loop.example/headtrees/impl.walker).up -/

def impl_walker_up_an : Ann := (.seq (.leaf [0]) (.seq (.draw [] [0, 1, 2, 3, 4, 5, 6, 7, 8, 9, 10, 11] [] [0, 3]) (.seq (.seq (.leaf [0, 3, 16]) (.cond (.seq (.leaf [2]) (.leaf [2])) (.leaf [0, 3]))) (.seq (.leaf [0]) (.seq (.leaf []) (.seq (.leaf [2]) (.leaf [2])))))))

noncomputable def impl_walker_up_ctx : Ctx := ⟨tlook tys, olook [], ioF, 1, false, []⟩

theorem impl_walker_up_n1_l (x6155 : List Int) (x6156 : Int) (x6157 : Int) : Link impl_walker_up_ctx LL (bodyOf Try.f27) impl_walker_up_an ⟨mkE 28 0 [(0, .ptr 0 0)], [some (.box [dL x6155, dI x6156, dI x6157])]⟩ (impl_walker_up_n1 x6155 x6156 x6157) (fun (t : Bool × Int × Int) => (Exit.ret, ⟨mkE 28 0 [(2, dB t.1)], [some (.box [dL x6155, dI t.2.1, dI t.2.2])]⟩)) := .of fun K h => by
  simp only [impl_walker_up_n1, wpW] at h
  exact .of (by kernel_rfl) h

theorem impl_walker_up_e (x6155 : List Int) (x6156 : Int) (x6157 : Int) {r : AV} {H' : Heap} (h : (Ans.mk _ (impl_walker_up x6155 x6156 x6157) (fun (t : Bool × Int × Int) => (dB t.1, [some (.box [dL x6155, dI t.2.1, dI t.2.2])])) [] none).run = some (r, H')) : Awp impl_walker_up_ctx LL (bodyOf Try.f27) impl_walker_up_an ⟨mkE 28 0 [(0, .ptr 0 0)], [some (.box [dL x6155, dI x6156, dI x6157])]⟩ (Ret (tlook tys) Try.f27.results.toList r H') :=
  ret_of' (impl_walker_up_n1_l x6155 x6156 x6157) (by unfold impl_walker_up; kernel_rfl) (by
  intro t
  exact ret_mk [dB t.1] (by kernel_rfl) (by kernel_rfl) (by kernel_rfl) (by kernel_rfl)) h

def F_impl_walker_up : Fun := fun avs H =>
  match avs, H with
  | [.ptr 0 0], [some (.box [.dat (.list (.int .i64)) x6155, .dat (.int .i64) x6156, .dat (.int .i64) x6157])] => ⟨_, impl_walker_up x6155 x6156 x6157, fun (t : Bool × Int × Int) => (dB t.1, [some (.box [dL x6155, dI t.2.1, dI t.2.2])]), [], none⟩
  | _, _ => Ans.no

theorem impl_walker_up_sound : Sound Try.prog 27 F_impl_walker_up := by
  refine fn_sound' (C := impl_walker_up_ctx) (c := bodyOf Try.f27) (cok_of tys_ok (alln) (alln) (by kernel_rfl)) Try.func27 (by kernel_rfl) LL impl_walker_up_an ?_
  intro avs H r H' h
  unfold F_impl_walker_up at h
  split at h
  · refine Awp.cast ?_ ?_ ?_ (impl_walker_up_e _ _ _ h) <;> kernel_rfl
  · simp [Ans.no, Ans.run] at h


/-! loop.example/headtrees/impl.stepsToRoot -/

def impl_stepsToRoot_an : Ann := (.seq (.leaf [0, 1]) (.seq (.leaf [0, 6]) (.seq (.block (.loop (.seq (.seq (.leaf [0, 6, 10]) (.cond (.leaf [0, 6]) (.leaf [6]))) (.block (.seq (.leaf [0, 6, 15]) (.cond (.seq (.leaf [4, 5]) (.leaf [4, 5])) (.leaf [0, 6]))))))) (.seq (.leaf [4, 5]) (.leaf [4, 5])))))

noncomputable def impl_stepsToRoot_ctx : Ctx := ⟨tlook tys, olook [(27, F_impl_walker_up)], ioF, 0, false, []⟩

theorem impl_stepsToRoot_n1_l (x6153 : List Int) (x6154 : Int) : Link impl_stepsToRoot_ctx LL (Code.seq (cq [0] (bodyOf Try.f19)) (cq [0,1] (bodyOf Try.f19))) (Ann.seq (aq [0] impl_stepsToRoot_an) (aq [0,1] impl_stepsToRoot_an)) ⟨mkE 18 0 [(0, dL x6153), (1, dI x6154)], []⟩ (impl_stepsToRoot_n1) (fun (t : Unit) => (Exit.normal, ⟨mkE 18 0 [(0, dL x6153), (6, .ptr 0 0)], [some (.box [dL x6153, dI x6154, dI 0])]⟩)) := .of fun K h => by
  simp only [impl_stepsToRoot_n1, wpW] at h
  exact .of (by kernel_rfl) h

theorem impl_stepsToRoot_n2_l (x6153 : List Int) (x6191 : Int) (x6192 : Int) : Link impl_stepsToRoot_ctx LL (cq [0,0,0,1,1] (bodyOf Try.f19)) (aq [0,0,0,1,1] impl_stepsToRoot_an) ⟨mkE 18 0 [(0, dL x6153), (6, .ptr 0 0)], [some (.box [dL x6153, dI x6191, dI x6192])]⟩ (impl_stepsToRoot_n2 x6153 x6191 x6192) (Sum.elim (fun (t : Int × Int) => (Exit.normal, ⟨mkE 18 0 [(0, dL x6153), (6, .ptr 0 0)], [some (.box [dL x6153, dI t.1, dI t.2])]⟩)) (Sum.elim (fun (t : Int × Bool) => (Exit.ret, ⟨mkE 18 0 [(4, dI t.1), (5, dB t.2)], []⟩)) (fun (t : Int × Int) => ((Exit.exit 0), ⟨mkE 18 0 [(6, .ptr 0 0)], [some (.box [dL x6153, dI t.1, dI t.2])]⟩)))) := .of fun K h => by
  simp only [impl_stepsToRoot_n2, wpW] at h
  exact .of (by kernel_rfl) h

def impl_stepsToRoot_n3_l (x6153 : List Int) (x6154 : Int) := (link_loop (mk := fun (s : Int × Int) => ⟨mkE 18 0 [(0, dL x6153), (6, .ptr 0 0)], [some (.box [dL x6153, dI s.1, dI s.2])]⟩) (fin := (Sum.elim (fun (t : Int × Bool) => (Exit.ret, ⟨mkE 18 0 [(4, dI t.1), (5, dB t.2)], []⟩)) (fun (t : Int × Int) => ((Exit.exit 0), ⟨mkE 18 0 [(6, .ptr 0 0)], [some (.box [dL x6153, dI t.1, dI t.2])]⟩)))) (by
  rintro (t | t) f K h
  · exact h
  · exact h) (fun s => link_map (impl_stepsToRoot_n2_l x6153 s.1 s.2) (Sum.elim (fun (t : Int × Int) => Sum.inl (t.1, t.2)) (Sum.elim (fun (t : Int × Bool) => Sum.inr (Sum.inl t)) (fun (t : Int × Int) => Sum.inr (Sum.inr t)))) (by
  rintro (t | t | t)
  · kernel_rfl
  · kernel_rfl
  · kernel_rfl)) (x6154, 0))

def impl_stepsToRoot_n4_l (x6153 : List Int) (x6154 : Int) := (link_block (fin2 := (Sum.elim (fun (t : Int × Int) => (Exit.normal, ⟨mkE 18 0 [(6, .ptr 0 0)], [some (.box [dL x6153, dI t.1, dI t.2])]⟩)) (fun (t : Int × Bool) => (Exit.ret, ⟨mkE 18 0 [(4, dI t.1), (5, dB t.2)], []⟩)))) (id := 0) (impl_stepsToRoot_n3_l x6153 x6154) (Sum.elim (fun (t : Int × Bool) => (Sum.inr t)) (fun (t : Int × Int) => (Sum.inl (t.1, t.2)))) (by
  rintro (t | t) K h
  · exact Eq.mp (by kernel_rfl) h
  · exact Eq.mp (by kernel_rfl) h))

theorem impl_stepsToRoot_n5_l (x6153 : List Int) (x6199 : Int) (x6200 : Int) : Link impl_stepsToRoot_ctx LL (cq [1,1,1] (bodyOf Try.f19)) (aq [1,1,1] impl_stepsToRoot_an) ⟨mkE 18 0 [(6, .ptr 0 0)], [some (.box [dL x6153, dI x6199, dI x6200])]⟩ (impl_stepsToRoot_n5 x6200) (fun (t : Int × Bool) => (Exit.ret, ⟨mkE 18 0 [(4, dI t.1), (5, dB t.2)], []⟩)) := .of fun K h => by
  simp only [impl_stepsToRoot_n5, wpW] at h
  exact .of (by kernel_rfl) h

def impl_stepsToRoot_n6_l (x6153 : List Int) (x6154 : Int) := (link_seq2 (impl_stepsToRoot_n4_l x6153 x6154) (fun (t : Int × Int) => (impl_stepsToRoot_n5_l x6153 t.1 t.2)) (fun (t : Int × Bool) => t) (by
  rintro t
  · kernel_rfl) (by
  rintro t f K h
  · exact h))

def impl_stepsToRoot_n7_l (x6153 : List Int) (x6154 : Int) := (link_group (c := (cq [0,1] (bodyOf Try.f19))) (a := (aq [0,1] impl_stepsToRoot_an)) [(cq [0] (bodyOf Try.f19))] [(aq [0] impl_stepsToRoot_an)] rfl (link_seq (impl_stepsToRoot_n1_l x6153 x6154) (fun (t : Unit) => (impl_stepsToRoot_n6_l x6153 x6154))))

theorem impl_stepsToRoot_e (x6153 : List Int) (x6154 : Int) {r : AV} {H' : Heap} (h : (Ans.mk _ (impl_stepsToRoot x6153 x6154) (fun (t : Int × Bool) => (.tup [dI t.1, dB t.2], [])) [] none).run = some (r, H')) : Awp impl_stepsToRoot_ctx LL (bodyOf Try.f19) impl_stepsToRoot_an ⟨mkE 18 0 [(0, dL x6153), (1, dI x6154)], []⟩ (Ret (tlook tys) Try.f19.results.toList r H') :=
  ret_of' (Link.cast (by kernel_rfl) (by kernel_rfl) (impl_stepsToRoot_n7_l x6153 x6154)) (by unfold impl_stepsToRoot; kernel_rfl) (by
  intro t
  exact ret_mk [dI t.1, dB t.2] (by kernel_rfl) (by kernel_rfl) (by kernel_rfl) (by kernel_rfl)) h

def F_impl_stepsToRoot : Fun := fun avs H =>
  match avs, H with
  | [.dat (.list (.int .i64)) x6153, .dat (.int .i64) x6154], [] => ⟨_, impl_stepsToRoot x6153 x6154, fun (t : Int × Bool) => (.tup [dI t.1, dB t.2], []), [], none⟩
  | _, _ => Ans.no

theorem impl_stepsToRoot_sound : Sound Try.prog 19 F_impl_stepsToRoot := by
  refine fn_sound' (C := impl_stepsToRoot_ctx) (c := bodyOf Try.f19) (cok_of tys_ok (allc impl_walker_up_sound alln) (allc Try.call27 alln) (by kernel_rfl)) Try.func19 (by kernel_rfl) LL impl_stepsToRoot_an ?_
  intro avs H r H' h
  unfold F_impl_stepsToRoot at h
  split at h
  · refine Awp.cast ?_ ?_ ?_ (impl_stepsToRoot_e _ _ h) <;> kernel_rfl
  · simp [Ans.no, Ans.run] at h


/-! loop.example/headtrees/impl.TreeOk -/

def impl_TreeOk_an : Ann := (.seq (.leaf [0]) (.seq (.seq (.leaf [0, 18]) (.cond (.seq (.leaf [2]) (.leaf [2])) (.leaf [0]))) (.seq (.seq (.leaf [0, 20, 21]) (.block (.loop (.seq (.leaf [0, 20, 21, 22]) (.seq (.cond (.leaf [0, 20, 21]) (.leaf [])) (.seq (.block (.seq (.leaf [0, 3, 20, 21]) (.seq (.leaf [0, 5, 20, 21]) (.seq (.leaf [0, 20, 21, 32]) (.cond (.seq (.leaf [2]) (.leaf [2])) (.leaf [0, 20, 21])))))) (.leaf [0, 20, 21]))))))) (.seq (.leaf [2]) (.leaf [2])))))

noncomputable def impl_TreeOk_ctx : Ctx := ⟨tlook tys, olook [(18, F_impl_oneRoot), (19, F_impl_stepsToRoot)], ioF, 0, false, []⟩

theorem impl_TreeOk_n1_l (x6094 : List Int) : Link impl_TreeOk_ctx LL (Code.seq (cq [0] (bodyOf Try.f10)) (cq [0,1] (bodyOf Try.f10))) (Ann.seq (aq [0] impl_TreeOk_an) (aq [0,1] impl_TreeOk_an)) ⟨mkE 34 0 [(0, dL x6094)], []⟩ (impl_TreeOk_n1 x6094) (Sum.elim (fun (t : Unit) => (Exit.normal, ⟨mkE 34 0 [(0, dL x6094)], []⟩)) (fun (t : Bool) => (Exit.ret, ⟨mkE 34 0 [(2, dB t)], []⟩))) := .of fun K h => by
  simp only [impl_TreeOk_n1, wpW] at h
  exact .of (by kernel_rfl) h

theorem impl_TreeOk_n2_l (x6094 : List Int) : Link impl_TreeOk_ctx LL (cq [0,0,1,1] (bodyOf Try.f10)) (aq [0,0,1,1] impl_TreeOk_an) ⟨mkE 34 0 [(0, dL x6094)], []⟩ (impl_TreeOk_n2 x6094) (fun (t : Int) => (Exit.normal, ⟨mkE 34 0 [(0, dL x6094), (20, dI t), (21, dI 0)], []⟩)) := .of fun K h => by
  simp only [impl_TreeOk_n2, wpW] at h
  exact .of (by kernel_rfl) h

theorem impl_TreeOk_n3_l (x6094 : List Int) (x6148 : Int) (x6216 : Int) : Link impl_TreeOk_ctx LL (cq [0,0,1,0,1,1] (bodyOf Try.f10)) (aq [0,0,1,0,1,1] impl_TreeOk_an) ⟨mkE 34 0 [(0, dL x6094), (20, dI x6148), (21, dI x6216)], []⟩ (impl_TreeOk_n3 x6094 x6148 x6216) (Sum.elim (fun (t : Int) => (Exit.normal, ⟨mkE 34 0 [(0, dL x6094), (20, dI x6148), (21, dI t)], []⟩)) (Sum.elim (fun (t : Bool) => (Exit.ret, ⟨mkE 34 0 [(2, dB t)], []⟩)) (fun (t : Unit) => ((Exit.exit 0), ⟨mkE 34 0 [], []⟩)))) := .of fun K h => by
  simp only [impl_TreeOk_n3, wpW] at h
  exact .of (by kernel_rfl) h

def impl_TreeOk_n4_l (x6094 : List Int) (x6148 : Int) := (link_loop (mk := fun (s : Int) => ⟨mkE 34 0 [(0, dL x6094), (20, dI x6148), (21, dI s)], []⟩) (fin := (Sum.elim (fun (t : Bool) => (Exit.ret, ⟨mkE 34 0 [(2, dB t)], []⟩)) (fun (t : Unit) => ((Exit.exit 0), ⟨mkE 34 0 [], []⟩)))) (by
  rintro (t | t) f K h
  · exact h
  · exact h) (fun s => link_map (impl_TreeOk_n3_l x6094 x6148 s) (Sum.elim (fun (t : Int) => Sum.inl t) (Sum.elim (fun (t : Bool) => Sum.inr (Sum.inl t)) (fun (t : Unit) => Sum.inr (Sum.inr t)))) (by
  rintro (t | t | t)
  · kernel_rfl
  · kernel_rfl
  · kernel_rfl)) 0)

def impl_TreeOk_n5_l (x6094 : List Int) (x6148 : Int) := (link_block (fin2 := (Sum.elim (fun (t : Unit) => (Exit.normal, ⟨mkE 34 0 [], []⟩)) (fun (t : Bool) => (Exit.ret, ⟨mkE 34 0 [(2, dB t)], []⟩)))) (id := 0) (impl_TreeOk_n4_l x6094 x6148) (Sum.elim (fun (t : Bool) => (Sum.inr t)) (fun (t : Unit) => (Sum.inl ()))) (by
  rintro (t | t) K h
  · exact Eq.mp (by kernel_rfl) h
  · exact Eq.mp (by kernel_rfl) h))

def impl_TreeOk_n6_l (x6094 : List Int) := (link_seq (impl_TreeOk_n2_l x6094) (fun (t : Int) => (impl_TreeOk_n5_l x6094 t)))

theorem impl_TreeOk_n7_l : Link impl_TreeOk_ctx LL (cq [1,1,1] (bodyOf Try.f10)) (aq [1,1,1] impl_TreeOk_an) ⟨mkE 34 0 [], []⟩ (impl_TreeOk_n7) (fun (t : Bool) => (Exit.ret, ⟨mkE 34 0 [(2, dB t)], []⟩)) := .of fun K h => by
  simp only [impl_TreeOk_n7, wpW] at h
  exact .of (by kernel_rfl) h

def impl_TreeOk_n8_l (x6094 : List Int) := (link_seq2 (impl_TreeOk_n6_l x6094) (fun (t : Unit) => (impl_TreeOk_n7_l)) (fun (t : Bool) => t) (by
  rintro t
  · kernel_rfl) (by
  rintro t f K h
  · exact h))

def impl_TreeOk_n9_l (x6094 : List Int) := (link_group (c := (cq [0,1] (bodyOf Try.f10))) (a := (aq [0,1] impl_TreeOk_an)) [(cq [0] (bodyOf Try.f10))] [(aq [0] impl_TreeOk_an)] rfl (link_seq2 (impl_TreeOk_n1_l x6094) (fun (t : Unit) => (impl_TreeOk_n8_l x6094)) (fun (t : Bool) => t) (by
  rintro t
  · kernel_rfl) (by
  rintro t f K h
  · exact h)))

theorem impl_TreeOk_e (x6094 : List Int) {r : AV} {H' : Heap} (h : (Ans.mk _ (impl_TreeOk x6094) (fun (t : Bool) => (dB t, [])) [] none).run = some (r, H')) : Awp impl_TreeOk_ctx LL (bodyOf Try.f10) impl_TreeOk_an ⟨mkE 34 0 [(0, dL x6094)], []⟩ (Ret (tlook tys) Try.f10.results.toList r H') :=
  ret_of' (Link.cast (by kernel_rfl) (by kernel_rfl) (impl_TreeOk_n9_l x6094)) (by unfold impl_TreeOk; kernel_rfl) (by
  intro t
  exact ret_mk [dB t] (by kernel_rfl) (by kernel_rfl) (by kernel_rfl) (by kernel_rfl)) h

def F_impl_TreeOk : Fun := fun avs H =>
  match avs, H with
  | [.dat (.list (.int .i64)) x6094], [] => ⟨_, impl_TreeOk x6094, fun (t : Bool) => (dB t, []), [], none⟩
  | _, _ => Ans.no

theorem impl_TreeOk_sound : Sound Try.prog 10 F_impl_TreeOk := by
  refine fn_sound' (C := impl_TreeOk_ctx) (c := bodyOf Try.f10) (cok_of tys_ok (allc impl_oneRoot_sound (allc impl_stepsToRoot_sound alln)) (allc Try.call18 (allc Try.call19 alln)) (by kernel_rfl)) Try.func10 (by kernel_rfl) LL impl_TreeOk_an ?_
  intro avs H r H' h
  unfold F_impl_TreeOk at h
  split at h
  · refine Awp.cast ?_ ?_ ?_ (impl_TreeOk_e _ h) <;> kernel_rfl
  · simp [Ans.no, Ans.run] at h


/-! loop.example/headtrees/impl.DeskOk -/

def impl_DeskOk_an : Ann := (.seq (.leaf [1]) (.seq (.seq (.leaf [1, 14]) (.cond (.seq (.leaf [2]) (.leaf [2])) (.leaf [1]))) (.seq (.seq (.leaf [16, 17, 18]) (.block (.loop (.seq (.leaf [16, 17, 18, 19]) (.seq (.cond (.leaf [16, 17, 18]) (.leaf [])) (.seq (.block (.seq (.leaf [4, 16, 17, 18]) (.seq (.leaf [16, 17, 18, 24]) (.cond (.seq (.leaf [2]) (.leaf [2])) (.leaf [16, 17, 18]))))) (.leaf [16, 17, 18]))))))) (.seq (.leaf [2]) (.leaf [2])))))

noncomputable def impl_DeskOk_ctx : Ctx := ⟨tlook tys, olook [(10, F_impl_TreeOk)], ioF, 0, false, []⟩

theorem impl_DeskOk_n1_l (x6092 : List Int) (x6093 : List (List Int)) : Link impl_DeskOk_ctx LL (Code.seq (cq [0] (bodyOf Try.f5)) (cq [0,1] (bodyOf Try.f5))) (Ann.seq (aq [0] impl_DeskOk_an) (aq [0,1] impl_DeskOk_an)) ⟨mkE 26 0 [(0, .agg [dL x6092, .dat (.list (.list (.int .i64))) x6093])], []⟩ (impl_DeskOk_n1 x6092 x6093) (Sum.elim (fun (t : Unit) => (Exit.normal, ⟨mkE 26 0 [(1, .ptr 0 0)], [some (.box [dL x6092, .dat (.list (.list (.int .i64))) x6093])]⟩)) (fun (t : Bool) => (Exit.ret, ⟨mkE 26 0 [(2, dB t)], []⟩))) := .of fun K h => by
  simp only [impl_DeskOk_n1, wpW] at h
  exact .of (by kernel_rfl) h

theorem impl_DeskOk_n2_l (x6092 : List Int) (x6093 : List (List Int)) : Link impl_DeskOk_ctx LL (cq [0,0,1,1] (bodyOf Try.f5)) (aq [0,0,1,1] impl_DeskOk_an) ⟨mkE 26 0 [(1, .ptr 0 0)], [some (.box [dL x6092, .dat (.list (.list (.int .i64))) x6093])]⟩ (impl_DeskOk_n2 x6093) (fun (t : Int) => (Exit.normal, ⟨mkE 26 0 [(16, .dat (.list (.list (.int .i64))) x6093), (17, dI t), (18, dI 0)], []⟩)) := .of fun K h => by
  simp only [impl_DeskOk_n2, wpW] at h
  exact .of (by kernel_rfl) h

theorem impl_DeskOk_n3_l (x6093 : List (List Int)) (x6237 : Int) (x6249 : Int) : Link impl_DeskOk_ctx LL (cq [0,0,1,0,1,1] (bodyOf Try.f5)) (aq [0,0,1,0,1,1] impl_DeskOk_an) ⟨mkE 26 0 [(16, .dat (.list (.list (.int .i64))) x6093), (17, dI x6237), (18, dI x6249)], []⟩ (impl_DeskOk_n3 x6093 x6237 x6249) (Sum.elim (fun (t : Int) => (Exit.normal, ⟨mkE 26 0 [(16, .dat (.list (.list (.int .i64))) x6093), (17, dI x6237), (18, dI t)], []⟩)) (Sum.elim (fun (t : Bool) => (Exit.ret, ⟨mkE 26 0 [(2, dB t)], []⟩)) (fun (t : Unit) => ((Exit.exit 0), ⟨mkE 26 0 [], []⟩)))) := .of fun K h => by
  simp only [impl_DeskOk_n3, wpW] at h
  exact .of (by kernel_rfl) h

def impl_DeskOk_n4_l (x6093 : List (List Int)) (x6237 : Int) := (link_loop (mk := fun (s : Int) => ⟨mkE 26 0 [(16, .dat (.list (.list (.int .i64))) x6093), (17, dI x6237), (18, dI s)], []⟩) (fin := (Sum.elim (fun (t : Bool) => (Exit.ret, ⟨mkE 26 0 [(2, dB t)], []⟩)) (fun (t : Unit) => ((Exit.exit 0), ⟨mkE 26 0 [], []⟩)))) (by
  rintro (t | t) f K h
  · exact h
  · exact h) (fun s => link_map (impl_DeskOk_n3_l x6093 x6237 s) (Sum.elim (fun (t : Int) => Sum.inl t) (Sum.elim (fun (t : Bool) => Sum.inr (Sum.inl t)) (fun (t : Unit) => Sum.inr (Sum.inr t)))) (by
  rintro (t | t | t)
  · kernel_rfl
  · kernel_rfl
  · kernel_rfl)) 0)

def impl_DeskOk_n5_l (x6093 : List (List Int)) (x6237 : Int) := (link_block (fin2 := (Sum.elim (fun (t : Unit) => (Exit.normal, ⟨mkE 26 0 [], []⟩)) (fun (t : Bool) => (Exit.ret, ⟨mkE 26 0 [(2, dB t)], []⟩)))) (id := 0) (impl_DeskOk_n4_l x6093 x6237) (Sum.elim (fun (t : Bool) => (Sum.inr t)) (fun (t : Unit) => (Sum.inl ()))) (by
  rintro (t | t) K h
  · exact Eq.mp (by kernel_rfl) h
  · exact Eq.mp (by kernel_rfl) h))

def impl_DeskOk_n6_l (x6092 : List Int) (x6093 : List (List Int)) := (link_seq (impl_DeskOk_n2_l x6092 x6093) (fun (t : Int) => (impl_DeskOk_n5_l x6093 t)))

theorem impl_DeskOk_n7_l : Link impl_DeskOk_ctx LL (cq [1,1,1] (bodyOf Try.f5)) (aq [1,1,1] impl_DeskOk_an) ⟨mkE 26 0 [], []⟩ (impl_DeskOk_n7) (fun (t : Bool) => (Exit.ret, ⟨mkE 26 0 [(2, dB t)], []⟩)) := .of fun K h => by
  simp only [impl_DeskOk_n7, wpW] at h
  exact .of (by kernel_rfl) h

def impl_DeskOk_n8_l (x6092 : List Int) (x6093 : List (List Int)) := (link_seq2 (impl_DeskOk_n6_l x6092 x6093) (fun (t : Unit) => (impl_DeskOk_n7_l)) (fun (t : Bool) => t) (by
  rintro t
  · kernel_rfl) (by
  rintro t f K h
  · exact h))

def impl_DeskOk_n9_l (x6092 : List Int) (x6093 : List (List Int)) := (link_group (c := (cq [0,1] (bodyOf Try.f5))) (a := (aq [0,1] impl_DeskOk_an)) [(cq [0] (bodyOf Try.f5))] [(aq [0] impl_DeskOk_an)] rfl (link_seq2 (impl_DeskOk_n1_l x6092 x6093) (fun (t : Unit) => (impl_DeskOk_n8_l x6092 x6093)) (fun (t : Bool) => t) (by
  rintro t
  · kernel_rfl) (by
  rintro t f K h
  · exact h)))

theorem impl_DeskOk_e (x6092 : List Int) (x6093 : List (List Int)) {r : AV} {H' : Heap} (h : (Ans.mk _ (impl_DeskOk x6092 x6093) (fun (t : Bool) => (dB t, [])) [] none).run = some (r, H')) : Awp impl_DeskOk_ctx LL (bodyOf Try.f5) impl_DeskOk_an ⟨mkE 26 0 [(0, .agg [dL x6092, .dat (.list (.list (.int .i64))) x6093])], []⟩ (Ret (tlook tys) Try.f5.results.toList r H') :=
  ret_of' (Link.cast (by kernel_rfl) (by kernel_rfl) (impl_DeskOk_n9_l x6092 x6093)) (by unfold impl_DeskOk; kernel_rfl) (by
  intro t
  exact ret_mk [dB t] (by kernel_rfl) (by kernel_rfl) (by kernel_rfl) (by kernel_rfl)) h

def F_impl_DeskOk : Fun := fun avs H =>
  match avs, H with
  | [.agg [.dat (.list (.int .i64)) x6092, .dat (.list (.list (.int .i64))) x6093]], [] => ⟨_, impl_DeskOk x6092 x6093, fun (t : Bool) => (dB t, []), [], none⟩
  | _, _ => Ans.no

theorem impl_DeskOk_sound : Sound Try.prog 5 F_impl_DeskOk := by
  refine fn_sound' (C := impl_DeskOk_ctx) (c := bodyOf Try.f5) (cok_of tys_ok (allc impl_TreeOk_sound alln) (allc Try.call10 alln) (by kernel_rfl)) Try.func5 (by kernel_rfl) LL impl_DeskOk_an ?_
  intro avs H r H' h
  unfold F_impl_DeskOk at h
  split at h
  · refine Awp.cast ?_ ?_ ?_ (impl_DeskOk_e _ _ h) <;> kernel_rfl
  · simp [Ans.no, Ans.run] at h


/-! loop.example/headtrees/laws.alive -/

def laws_alive_an : Ann := (.seq (.leaf []) (.seq (.leaf [0]) (.leaf [0])))

noncomputable def laws_alive_ctx : Ctx := ⟨tlook tys, olook [(10, F_impl_TreeOk)], ioF, 0, false, []⟩

theorem laws_alive_n1_l : Link laws_alive_ctx LL (bodyOf Try.f7) laws_alive_an ⟨mkE 8 0 [], []⟩ (laws_alive_n1) (fun (t : Bool) => (Exit.ret, ⟨mkE 8 0 [(0, dB t)], []⟩)) := .of fun K h => by
  simp only [laws_alive_n1, wpW] at h
  exact .of (by kernel_rfl) h

theorem laws_alive_e {r : AV} {H' : Heap} (h : (Ans.mk _ (laws_alive) (fun (t : Bool) => (dB t, [])) [] none).run = some (r, H')) : Awp laws_alive_ctx LL (bodyOf Try.f7) laws_alive_an ⟨mkE 8 0 [], []⟩ (Ret (tlook tys) Try.f7.results.toList r H') :=
  ret_of' (laws_alive_n1_l) (by unfold laws_alive; kernel_rfl) (by
  intro t
  exact ret_mk [dB t] (by kernel_rfl) (by kernel_rfl) (by kernel_rfl) (by kernel_rfl)) h

def F_laws_alive : Fun := fun avs H =>
  match avs, H with
  | [], [] => ⟨_, laws_alive, fun (t : Bool) => (dB t, []), [], none⟩
  | _, _ => Ans.no

theorem laws_alive_sound : Sound Try.prog 7 F_laws_alive := by
  refine fn_sound' (C := laws_alive_ctx) (c := bodyOf Try.f7) (cok_of tys_ok (allc impl_TreeOk_sound alln) (allc Try.call10 alln) (by kernel_rfl)) Try.func7 (by kernel_rfl) LL laws_alive_an ?_
  intro avs H r H' h
  unfold F_laws_alive at h
  split at h
  · refine Awp.cast ?_ ?_ ?_ (laws_alive_e h) <;> kernel_rfl
  · simp [Ans.no, Ans.run] at h


/-! loop.example/headtrees/laws.FnDeskOk -/

def laws_FnDeskOk_an : Ann := (.seq (.leaf [0]) (.seq (.seq (.leaf [0, 7]) (.cond (.seq (.leaf [2]) (.leaf [2])) (.leaf [0]))) (.seq (.leaf [3]) (.seq (.leaf [3, 4]) (.seq (.seq (.leaf [3, 4, 15]) (.cond (.seq (.leaf [2]) (.leaf [2])) (.leaf [3, 4]))) (.seq (.leafF [⟨10, 25, false, some 0, some (.int .i64)⟩, ⟨10, 25, true, some 1, some (.int .i64)⟩, ⟨6, 21, true, some 1, some (.int .i64)⟩] [2]) (.leaf [2])))))))

noncomputable def laws_FnDeskOk_ctx : Ctx := ⟨tlook tys, olook [(4, F_spec_DrawDeskOk), (5, F_impl_DeskOk), (6, F_spec_DeskOk), (7, F_laws_alive)], ioF, 0, true, []⟩

theorem laws_FnDeskOk_n1_l (x1855 : List Int) : Link laws_FnDeskOk_ctx LL (bodyOf Try.f3) laws_FnDeskOk_an ⟨mkE 32 0 [(0, dV x1855)], []⟩ (laws_FnDeskOk_n1 x1855) (fun (t : Bool) => (Exit.ret, ⟨mkE 32 0 [(2, dB t)], []⟩)) := .of fun K h => by
  simp only [laws_FnDeskOk_n1, wpW] at h
  exact .of (by kernel_rfl) h

theorem laws_FnDeskOk_e (x1855 : List Int) {r : AV} {H' : Heap} (h : (Ans.mk _ (laws_FnDeskOk x1855) (fun (t : Bool) => (dB t, [])) [] none).run = some (r, H')) : Awp laws_FnDeskOk_ctx LL (bodyOf Try.f3) laws_FnDeskOk_an ⟨mkE 32 0 [(0, dV x1855)], []⟩ (Ret (tlook tys) Try.f3.results.toList r H') :=
  ret_of' (laws_FnDeskOk_n1_l x1855) (by unfold laws_FnDeskOk; kernel_rfl) (by
  intro t
  exact ret_mk [dB t] (by kernel_rfl) (by kernel_rfl) (by kernel_rfl) (by kernel_rfl)) h

def F_laws_FnDeskOk : Fun := fun avs H =>
  match avs, H with
  | [.dat (.list (.int .u8)) x1855], [] => ⟨_, laws_FnDeskOk x1855, fun (t : Bool) => (dB t, []), [], none⟩
  | _, _ => Ans.no

theorem laws_FnDeskOk_sound : Sound Try.prog 3 F_laws_FnDeskOk := by
  refine fn_sound' (C := laws_FnDeskOk_ctx) (c := bodyOf Try.f3) (cok_of tys_ok (allc spec_DrawDeskOk_sound (allc impl_DeskOk_sound (allc spec_DeskOk_sound (allc laws_alive_sound alln)))) (allc Try.call4 (allc Try.call5 (allc Try.call6 (allc Try.call7 alln)))) (by kernel_rfl)) Try.func3 (by kernel_rfl) LL laws_FnDeskOk_an ?_
  intro avs H r H' h
  unfold F_laws_FnDeskOk at h
  split at h
  · refine Awp.cast ?_ ?_ ?_ (laws_FnDeskOk_e _ h) <;> kernel_rfl
  · simp [Ans.no, Ans.run] at h

end Go.Rv
