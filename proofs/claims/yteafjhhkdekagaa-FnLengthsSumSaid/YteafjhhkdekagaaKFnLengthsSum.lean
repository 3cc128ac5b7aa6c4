/-
  The checked code answers as the plain functions do; written by program. Conditions: none.
-/
import Derived.Test.YteafjhhkdekagaaGFnLengthsSum
import Derived.Test.YteafjhhkdekagaaProg
set_option linter.unusedVariables false
set_option linter.unusedSimpArgs false
set_option linter.defProp false
set_option maxRecDepth 100000
namespace Go.Rv
open Go.Proofs
theorem ty3 : TIOk Try.prog 3 ⟨.int .i64, 1, 8, some (.int .i64), [.int .i64 0], false⟩ := ⟨⟨infoOf (Try.prog.info? 3), by kernel_rfl, by kernel_rfl, by kernel_rfl, .int .i64 0, by kernel_rfl, by kernel_rfl⟩, (by kernel_rfl : Try.prog.underlying 3 = some (.int .i64)), no_eq⟩
theorem ty4 : TIOk Try.prog 4 ⟨.bool, 1, 1, some .bool, [.bool false], false⟩ := ⟨⟨infoOf (Try.prog.info? 4), by kernel_rfl, by kernel_rfl, by kernel_rfl, .bool false, by kernel_rfl, by kernel_rfl⟩, (by kernel_rfl : Try.prog.underlying 4 = some .bool), no_eq⟩
theorem ty5 : TIOk Try.prog 5 ⟨.int .u8, 1, 1, some (.int .u8), [.int .u8 0], false⟩ := ⟨⟨infoOf (Try.prog.info? 5), by kernel_rfl, by kernel_rfl, by kernel_rfl, .int .u8 0, by kernel_rfl, by kernel_rfl⟩, (by kernel_rfl : Try.prog.underlying 5 = some (.int .u8)), no_eq⟩
theorem ty22 : TIOk Try.prog 22 ⟨.slice 5, 1, 24, some (.list (.int .u8)), [.slice none 0 0], false⟩ := ⟨⟨infoOf (Try.prog.info? 22), by kernel_rfl, by kernel_rfl, by kernel_rfl, .slice none 0 0, by kernel_rfl, by kernel_rfl⟩, (by kernel_rfl : Try.prog.underlying 22 = some (.slice 5)), no_eq⟩
theorem ty23 : TIOk Try.prog 23 ⟨.slice 3, 1, 24, some (.list (.int .i64)), [.slice none 0 0], false⟩ := ⟨⟨infoOf (Try.prog.info? 23), by kernel_rfl, by kernel_rfl, by kernel_rfl, .slice none 0 0, by kernel_rfl, by kernel_rfl⟩, (by kernel_rfl : Try.prog.underlying 23 = some (.slice 3)), no_eq⟩
theorem ty39 : TIOk Try.prog 39 ⟨.slice 42, 1, 24, some (.list (.pair (.int .i64) (.pair (.int .i64) .unit))), [.slice none 0 0], false⟩ := ⟨⟨infoOf (Try.prog.info? 39), by kernel_rfl, by kernel_rfl, by kernel_rfl, .slice none 0 0, by kernel_rfl, by kernel_rfl⟩, (by kernel_rfl : Try.prog.underlying 39 = some (.slice 42)), no_eq⟩
theorem ty42 : TIOk Try.prog 42 ⟨.strct [(0, 3), (1, 3)], 2, 16, some (.pair (.int .i64) (.pair (.int .i64) .unit)), [.int .i64 0, .int .i64 0], false⟩ := ⟨⟨infoOf (Try.prog.info? 42), by kernel_rfl, by kernel_rfl, by kernel_rfl, .agg #[.int .i64 0, .int .i64 0], by kernel_rfl, by kernel_rfl⟩, ⟨fieldsOf (Try.prog.underlying 42), by kernel_rfl, by kernel_rfl⟩, no_eq⟩
theorem ty51 : TIOk Try.prog 51 ⟨.strct [(0, 22), (1, 3)], 2, 32, some (.pair (.list (.int .u8)) (.pair (.int .i64) .unit)), [.slice none 0 0, .int .i64 0], false⟩ := ⟨⟨infoOf (Try.prog.info? 51), by kernel_rfl, by kernel_rfl, by kernel_rfl, .agg #[.slice none 0 0, .int .i64 0], by kernel_rfl, by kernel_rfl⟩, ⟨fieldsOf (Try.prog.underlying 51), by kernel_rfl, by kernel_rfl⟩, no_eq⟩
theorem ty55 : TIOk Try.prog 55 ⟨.strct [(0, 23), (1, 3), (2, 3)], 3, 40, some (.pair (.list (.int .i64)) (.pair (.int .i64) (.pair (.int .i64) .unit))), [.slice none 0 0, .int .i64 0, .int .i64 0], false⟩ := ⟨⟨infoOf (Try.prog.info? 55), by kernel_rfl, by kernel_rfl, by kernel_rfl, .agg #[.slice none 0 0, .int .i64 0, .int .i64 0], by kernel_rfl, by kernel_rfl⟩, ⟨fieldsOf (Try.prog.underlying 55), by kernel_rfl, by kernel_rfl⟩, no_eq⟩
theorem ty56 : TIOk Try.prog 56 ⟨.arr 9 4, 9, 9, none, [.bool false, .bool false, .bool false, .bool false, .bool false, .bool false, .bool false, .bool false, .bool false], false⟩ := ⟨⟨infoOf (Try.prog.info? 56), by kernel_rfl, by kernel_rfl, by kernel_rfl, .agg #[.bool false, .bool false, .bool false, .bool false, .bool false, .bool false, .bool false, .bool false, .bool false], by kernel_rfl, by kernel_rfl⟩, (by kernel_rfl : Try.prog.underlying 56 = some (.array 9 4)), no_eq⟩
def tys : List (TypeId × TI) := [(3, ⟨.int .i64, 1, 8, some (.int .i64), [.int .i64 0], false⟩), (4, ⟨.bool, 1, 1, some .bool, [.bool false], false⟩), (5, ⟨.int .u8, 1, 1, some (.int .u8), [.int .u8 0], false⟩), (22, ⟨.slice 5, 1, 24, some (.list (.int .u8)), [.slice none 0 0], false⟩), (23, ⟨.slice 3, 1, 24, some (.list (.int .i64)), [.slice none 0 0], false⟩), (39, ⟨.slice 42, 1, 24, some (.list (.pair (.int .i64) (.pair (.int .i64) .unit))), [.slice none 0 0], false⟩), (42, ⟨.strct [(0, 3), (1, 3)], 2, 16, some (.pair (.int .i64) (.pair (.int .i64) .unit)), [.int .i64 0, .int .i64 0], false⟩), (51, ⟨.strct [(0, 22), (1, 3)], 2, 32, some (.pair (.list (.int .u8)) (.pair (.int .i64) .unit)), [.slice none 0 0, .int .i64 0], false⟩), (55, ⟨.strct [(0, 23), (1, 3), (2, 3)], 3, 40, some (.pair (.list (.int .i64)) (.pair (.int .i64) (.pair (.int .i64) .unit))), [.slice none 0 0, .int .i64 0, .int .i64 0], false⟩), (56, ⟨.arr 9 4, 9, 9, none, [.bool false, .bool false, .bool false, .bool false, .bool false, .bool false, .bool false, .bool false, .bool false], false⟩)]
theorem tys_ok : TOk Try.prog (tlook tys) := tok_of (allc ty3 (allc ty4 (allc ty5 (allc ty22 (allc ty23 (allc ty39 (allc ty42 (allc ty51 (allc ty55 (allc ty56 alln))))))))))
def ioF (f : FuncId) (i : Nat) : Bool := [(47, 1)].any fun (p : Nat × Nat) => Nat.beq p.1 f && Nat.beq p.2 i


/-! loop.example/headtrees/spec.l20Open -/

def spec_l20Open_an : Ann := (.seq (.leaf [0]) (.seq (.seq (.leaf [0, 5]) (.cond (.leaf [0]) (.leaf [0]))) (.seq (.leaf [2]) (.leaf [2]))))

noncomputable def spec_l20Open_ctx : Ctx := ⟨tlook tys, olook [], ioF, 0, false, []⟩

theorem spec_l20Open_n1_l (x12 : List Int) : Link spec_l20Open_ctx LL (bodyOf Try.f25) spec_l20Open_an ⟨mkE 11 0 [(0, dV x12)], []⟩ (spec_l20Open_n1 x12) (fun (t : (List Int)) => (Exit.ret, ⟨mkE 11 0 [(2, .ptr 0 0)], [some (.box [dV t, dI 0])]⟩)) := .of fun K h => by
  simp only [spec_l20Open_n1, wpW] at h
  exact .of (by kernel_rfl) h

theorem spec_l20Open_e (x12 : List Int) {r : AV} {H' : Heap} (h : (Ans.mk _ (spec_l20Open x12) (fun (t : (List Int)) => (.ptr 0 0, [some (.box [dV t, dI 0])])) [] none).run = some (r, H')) : Awp spec_l20Open_ctx LL (bodyOf Try.f25) spec_l20Open_an ⟨mkE 11 0 [(0, dV x12)], []⟩ (Ret (tlook tys) Try.f25.results.toList r H') :=
  ret_of' (spec_l20Open_n1_l x12) (by unfold spec_l20Open; kernel_rfl) (by
  intro t
  exact ret_mk [.ptr 0 0] (by kernel_rfl) (by kernel_rfl) (by kernel_rfl) (by kernel_rfl)) h

def F_spec_l20Open : Fun := fun avs H =>
  match avs, H with
  | [.dat (.list (.int .u8)) x12], [] => ⟨_, spec_l20Open x12, fun (t : (List Int)) => (.ptr 0 0, [some (.box [dV t, dI 0])]), [], none⟩
  | _, _ => Ans.no

theorem spec_l20Open_sound : Sound Try.prog 25 F_spec_l20Open := by
  refine fn_sound' (C := spec_l20Open_ctx) (c := bodyOf Try.f25) (cok_of tys_ok (alln) (alln) (by kernel_rfl)) Try.func25 (by kernel_rfl) LL spec_l20Open_an ?_
  intro avs H r H' h
  unfold F_spec_l20Open at h
  split at h
  · refine Awp.cast ?_ ?_ ?_ (spec_l20Open_e _ h) <;> kernel_rfl
  · simp [Ans.no, Ans.run] at h


/-! (*loop.example/headtrees/spec.l20Rd).pick -/

def spec_l20Rd_pick_an : Ann := (.seq (.leaf [0, 1]) (.seq (.leaf [0, 1]) (.seq (.seq (.leaf [0, 1, 24]) (.cond (.seq (.leaf [4]) (.leaf [4])) (.leaf [0, 1]))) (.seq (.leaf [0, 1, 5]) (.seq (.seq (.leaf [0, 1, 5, 36]) (.cond (.seq (.leaf [4]) (.leaf [4])) (.leaf [0, 1, 5]))) (.seq (.draw [] [0, 1, 2, 3, 4, 5, 6, 7, 8, 9, 10, 11, 12, 13, 14, 15, 16, 17, 18, 19, 20, 21, 22, 23, 24, 25, 26, 27, 28, 29, 30, 31, 32, 33, 34, 35, 36, 37, 38, 39, 40, 41, 42, 43, 44, 45] [] [1, 6]) (.seq (.leaf [1, 6]) (.seq (.leaf [4]) (.leaf [4])))))))))

noncomputable def spec_l20Rd_pick_ctx : Ctx := ⟨tlook tys, olook [], ioF, 1, false, []⟩

theorem spec_l20Rd_pick_n1_l (x41 : Int) (x42 : List Int) (x43 : Int) : Link spec_l20Rd_pick_ctx LL (bodyOf Try.f32) spec_l20Rd_pick_an ⟨mkE 99 0 [(0, .ptr 0 0), (1, dI x41)], [some (.box [dV x42, dI x43])]⟩ (spec_l20Rd_pick_n1 x41 x42 x43) (fun (t : Int × Int) => (Exit.ret, ⟨mkE 99 0 [(4, dI t.1)], [some (.box [dV x42, dI t.2])]⟩)) := .of fun K h => by
  simp only [spec_l20Rd_pick_n1, wpW] at h
  exact .of (by kernel_rfl) h

theorem spec_l20Rd_pick_e (x41 : Int) (x42 : List Int) (x43 : Int) {r : AV} {H' : Heap} (h : (Ans.mk _ (spec_l20Rd_pick x41 x42 x43) (fun (t : Int × Int) => (dI t.1, [some (.box [dV x42, dI t.2])])) [] none).run = some (r, H')) : Awp spec_l20Rd_pick_ctx LL (bodyOf Try.f32) spec_l20Rd_pick_an ⟨mkE 99 0 [(0, .ptr 0 0), (1, dI x41)], [some (.box [dV x42, dI x43])]⟩ (Ret (tlook tys) Try.f32.results.toList r H') :=
  ret_of' (spec_l20Rd_pick_n1_l x41 x42 x43) (by unfold spec_l20Rd_pick; kernel_rfl) (by
  intro t
  exact ret_mk [dI t.1] (by kernel_rfl) (by kernel_rfl) (by kernel_rfl) (by kernel_rfl)) h

def F_spec_l20Rd_pick : Fun := fun avs H =>
  match avs, H with
  | [.ptr 0 0, .dat (.int .i64) x41], [some (.box [.dat (.list (.int .u8)) x42, .dat (.int .i64) x43])] => ⟨_, spec_l20Rd_pick x41 x42 x43, fun (t : Int × Int) => (dI t.1, [some (.box [dV x42, dI t.2])]), [], none⟩
  | _, _ => Ans.no

theorem spec_l20Rd_pick_sound : Sound Try.prog 32 F_spec_l20Rd_pick := by
  refine fn_sound' (C := spec_l20Rd_pick_ctx) (c := bodyOf Try.f32) (cok_of tys_ok (alln) (alln) (by kernel_rfl)) Try.func32 (by kernel_rfl) LL spec_l20Rd_pick_an ?_
  intro avs H r H' h
  unfold F_spec_l20Rd_pick at h
  split at h
  · refine Awp.cast ?_ ?_ ?_ (spec_l20Rd_pick_e _ _ _ h) <;> kernel_rfl
  · simp [Ans.no, Ans.run] at h


/-! loop.example/headtrees/spec.l1In -/

def spec_l1In_an : Ann := (.seq (.leaf [0, 1, 2]) (.seq (.leaf [6]) (.leaf [6])))

noncomputable def spec_l1In_ctx : Ctx := ⟨tlook tys, olook [], ioF, 0, false, []⟩

theorem spec_l1In_n1_l (x780 : Int) (x781 : Int) (x782 : Int) : Link spec_l1In_ctx LL (bodyOf Try.f34) spec_l1In_an ⟨mkE 15 0 [(0, dI x780), (1, dI x781), (2, dI x782)], []⟩ (spec_l1In_n1 x780 x781 x782) (fun (t : Bool) => (Exit.ret, ⟨mkE 15 0 [(6, dB t)], []⟩)) := .of fun K h => by
  simp only [spec_l1In_n1, wpW] at h
  exact .of (by kernel_rfl) h

theorem spec_l1In_e (x780 : Int) (x781 : Int) (x782 : Int) {r : AV} {H' : Heap} (h : (Ans.mk _ (spec_l1In x780 x781 x782) (fun (t : Bool) => (dB t, [])) [] none).run = some (r, H')) : Awp spec_l1In_ctx LL (bodyOf Try.f34) spec_l1In_an ⟨mkE 15 0 [(0, dI x780), (1, dI x781), (2, dI x782)], []⟩ (Ret (tlook tys) Try.f34.results.toList r H') :=
  ret_of' (spec_l1In_n1_l x780 x781 x782) (by unfold spec_l1In; kernel_rfl) (by
  intro t
  exact ret_mk [dB t] (by kernel_rfl) (by kernel_rfl) (by kernel_rfl) (by kernel_rfl)) h

def F_spec_l1In : Fun := fun avs H =>
  match avs, H with
  | [.dat (.int .i64) x780, .dat (.int .i64) x781, .dat (.int .i64) x782], [] => ⟨_, spec_l1In x780 x781 x782, fun (t : Bool) => (dB t, []), [], none⟩
  | _, _ => Ans.no

theorem spec_l1In_sound : Sound Try.prog 34 F_spec_l1In := by
  refine fn_sound' (C := spec_l1In_ctx) (c := bodyOf Try.f34) (cok_of tys_ok (alln) (alln) (by kernel_rfl)) Try.func34 (by kernel_rfl) LL spec_l1In_an ?_
  intro avs H r H' h
  unfold F_spec_l1In at h
  split at h
  · refine Awp.cast ?_ ?_ ?_ (spec_l1In_e _ _ _ h) <;> kernel_rfl
  · simp [Ans.no, Ans.run] at h


/-! loop.example/headtrees/impl.oneRoot -/

def impl_oneRoot_an : Ann := (.seq (.leaf [0]) (.seq (.leaf [0, 3]) (.seq (.seq (.leaf [0, 3, 6, 7, 8]) (.block (.loop (.seq (.leaf [0, 3, 6, 7, 8, 9]) (.seq (.cond (.leaf [0, 3, 6, 7, 8]) (.leaf [3])) (.seq (.block (.seq (.leaf [0, 3, 5, 6, 7, 8]) (.seq (.seq (.leaf [0, 3, 5, 6, 7, 8, 19]) (.cond (.seq (.leaf [2]) (.leaf [2])) (.leaf [0, 3, 5, 6, 7, 8]))) (.seq (.leaf [0, 3, 6, 7, 8, 21]) (.cond (.leaf [0, 3, 6, 7, 8]) (.leaf [0, 3, 6, 7, 8])))))) (.leaf [0, 3, 6, 7, 8]))))))) (.seq (.leaf [2]) (.leaf [2])))))

noncomputable def impl_oneRoot_ctx : Ctx := ⟨tlook tys, olook [], ioF, 0, false, []⟩

theorem impl_oneRoot_n1_l (x1431 : List Int) : Link impl_oneRoot_ctx LL (Code.seq (cq [0] (bodyOf Try.f29)) (cq [0,1] (bodyOf Try.f29))) (Ann.seq (aq [0] impl_oneRoot_an) (aq [0,1] impl_oneRoot_an)) ⟨mkE 27 0 [(0, dL x1431)], []⟩ (impl_oneRoot_n1) (fun (t : Unit) => (Exit.normal, ⟨mkE 27 0 [(0, dL x1431), (3, dI 0)], []⟩)) := .of fun K h => by
  simp only [impl_oneRoot_n1, wpW] at h
  exact .of (by kernel_rfl) h

theorem impl_oneRoot_n2_l (x1431 : List Int) : Link impl_oneRoot_ctx LL (cq [0,0,1,1] (bodyOf Try.f29)) (aq [0,0,1,1] impl_oneRoot_an) ⟨mkE 27 0 [(0, dL x1431), (3, dI 0)], []⟩ (impl_oneRoot_n2 x1431) (fun (t : Int) => (Exit.normal, ⟨mkE 27 0 [(0, dL x1431), (3, dI 0), (6, dL x1431), (7, dI t), (8, dI 0)], []⟩)) := .of fun K h => by
  simp only [impl_oneRoot_n2, wpW] at h
  exact .of (by kernel_rfl) h

theorem impl_oneRoot_n3_l (x1431 : List Int) (x1453 : Int) (x1432 : Int) (x1454 : Int) : Link impl_oneRoot_ctx LL (cq [0,0,1,0,1,1] (bodyOf Try.f29)) (aq [0,0,1,0,1,1] impl_oneRoot_an) ⟨mkE 27 0 [(0, dL x1431), (3, dI x1453), (6, dL x1431), (7, dI x1432), (8, dI x1454)], []⟩ (impl_oneRoot_n3 x1431 x1453 x1432 x1454) (Sum.elim (fun (t : Int × Int) => (Exit.normal, ⟨mkE 27 0 [(0, dL x1431), (3, dI t.1), (6, dL x1431), (7, dI x1432), (8, dI t.2)], []⟩)) (Sum.elim (fun (t : Bool) => (Exit.ret, ⟨mkE 27 0 [(2, dB t)], []⟩)) (fun (t : Int) => ((Exit.exit 0), ⟨mkE 27 0 [(3, dI t)], []⟩)))) := .of fun K h => by
  simp only [impl_oneRoot_n3, wpW] at h
  exact .of (by kernel_rfl) h

def impl_oneRoot_n4_l (x1431 : List Int) (x1432 : Int) := (link_loop (mk := fun (s : Int × Int) => ⟨mkE 27 0 [(0, dL x1431), (3, dI s.1), (6, dL x1431), (7, dI x1432), (8, dI s.2)], []⟩) (fin := (Sum.elim (fun (t : Bool) => (Exit.ret, ⟨mkE 27 0 [(2, dB t)], []⟩)) (fun (t : Int) => ((Exit.exit 0), ⟨mkE 27 0 [(3, dI t)], []⟩)))) (by
  rintro (t | t) f K h
  · exact h
  · exact h) (fun s => link_map (impl_oneRoot_n3_l x1431 s.1 x1432 s.2) (Sum.elim (fun (t : Int × Int) => Sum.inl (t.1, t.2)) (Sum.elim (fun (t : Bool) => Sum.inr (Sum.inl t)) (fun (t : Int) => Sum.inr (Sum.inr t)))) (by
  rintro (t | t | t)
  · kernel_rfl
  · kernel_rfl
  · kernel_rfl)) (0, 0))

def impl_oneRoot_n5_l (x1431 : List Int) (x1432 : Int) := (link_block (fin2 := (Sum.elim (fun (t : Int) => (Exit.normal, ⟨mkE 27 0 [(3, dI t)], []⟩)) (fun (t : Bool) => (Exit.ret, ⟨mkE 27 0 [(2, dB t)], []⟩)))) (id := 0) (impl_oneRoot_n4_l x1431 x1432) (Sum.elim (fun (t : Bool) => (Sum.inr t)) (fun (t : Int) => (Sum.inl t))) (by
  rintro (t | t) K h
  · exact Eq.mp (by kernel_rfl) h
  · exact Eq.mp (by kernel_rfl) h))

def impl_oneRoot_n6_l (x1431 : List Int) := (link_seq (impl_oneRoot_n2_l x1431) (fun (t : Int) => (impl_oneRoot_n5_l x1431 t)))

theorem impl_oneRoot_n7_l (x1453 : Int) : Link impl_oneRoot_ctx LL (cq [1,1,1] (bodyOf Try.f29)) (aq [1,1,1] impl_oneRoot_an) ⟨mkE 27 0 [(3, dI x1453)], []⟩ (impl_oneRoot_n7 x1453) (fun (t : Bool) => (Exit.ret, ⟨mkE 27 0 [(2, dB t)], []⟩)) := .of fun K h => by
  simp only [impl_oneRoot_n7, wpW] at h
  exact .of (by kernel_rfl) h

def impl_oneRoot_n8_l (x1431 : List Int) := (link_seq2 (impl_oneRoot_n6_l x1431) (fun (t : Int) => (impl_oneRoot_n7_l t)) (fun (t : Bool) => t) (by
  rintro t
  · kernel_rfl) (by
  rintro t f K h
  · exact h))

def impl_oneRoot_n9_l (x1431 : List Int) := (link_group (c := (cq [0,1] (bodyOf Try.f29))) (a := (aq [0,1] impl_oneRoot_an)) [(cq [0] (bodyOf Try.f29))] [(aq [0] impl_oneRoot_an)] rfl (link_seq (impl_oneRoot_n1_l x1431) (fun (t : Unit) => (impl_oneRoot_n8_l x1431))))

theorem impl_oneRoot_e (x1431 : List Int) {r : AV} {H' : Heap} (h : (Ans.mk _ (impl_oneRoot x1431) (fun (t : Bool) => (dB t, [])) [] none).run = some (r, H')) : Awp impl_oneRoot_ctx LL (bodyOf Try.f29) impl_oneRoot_an ⟨mkE 27 0 [(0, dL x1431)], []⟩ (Ret (tlook tys) Try.f29.results.toList r H') :=
  ret_of' (Link.cast (by kernel_rfl) (by kernel_rfl) (impl_oneRoot_n9_l x1431)) (by unfold impl_oneRoot; kernel_rfl) (by
  intro t
  exact ret_mk [dB t] (by kernel_rfl) (by kernel_rfl) (by kernel_rfl) (by kernel_rfl)) h

def F_impl_oneRoot : Fun := fun avs H =>
  match avs, H with
  | [.dat (.list (.int .i64)) x1431], [] => ⟨_, impl_oneRoot x1431, fun (t : Bool) => (dB t, []), [], none⟩
  | _, _ => Ans.no

theorem impl_oneRoot_sound : Sound Try.prog 29 F_impl_oneRoot := by
  refine fn_sound' (C := impl_oneRoot_ctx) (c := bodyOf Try.f29) (cok_of tys_ok (alln) (alln) (by kernel_rfl)) Try.func29 (by kernel_rfl) LL impl_oneRoot_an ?_
  intro avs H r H' h
  unfold F_impl_oneRoot at h
  split at h
  · refine Awp.cast ?_ ?_ ?_ (impl_oneRoot_e _ h) <;> kernel_rfl
  · simp [Ans.no, Ans.run] at h


/-! (*loop.example/headtrees/impl.walker).up -/

def impl_walker_up_an : Ann := (.seq (.leaf [0]) (.seq (.draw [] [0, 1, 2, 3, 4, 5, 6, 7, 8, 9, 10, 11] [] [0, 3]) (.seq (.seq (.leaf [0, 3, 16]) (.cond (.seq (.leaf [2]) (.leaf [2])) (.leaf [0, 3]))) (.seq (.leaf [0]) (.seq (.leaf []) (.seq (.leaf [2]) (.leaf [2])))))))

noncomputable def impl_walker_up_ctx : Ctx := ⟨tlook tys, olook [], ioF, 1, false, []⟩

theorem impl_walker_up_n1_l (x1487 : List Int) (x1488 : Int) (x1489 : Int) : Link impl_walker_up_ctx LL (bodyOf Try.f44) impl_walker_up_an ⟨mkE 28 0 [(0, .ptr 0 0)], [some (.box [dL x1487, dI x1488, dI x1489])]⟩ (impl_walker_up_n1 x1487 x1488 x1489) (fun (t : Bool × Int × Int) => (Exit.ret, ⟨mkE 28 0 [(2, dB t.1)], [some (.box [dL x1487, dI t.2.1, dI t.2.2])]⟩)) := .of fun K h => by
  simp only [impl_walker_up_n1, wpW] at h
  exact .of (by kernel_rfl) h

theorem impl_walker_up_e (x1487 : List Int) (x1488 : Int) (x1489 : Int) {r : AV} {H' : Heap} (h : (Ans.mk _ (impl_walker_up x1487 x1488 x1489) (fun (t : Bool × Int × Int) => (dB t.1, [some (.box [dL x1487, dI t.2.1, dI t.2.2])])) [] none).run = some (r, H')) : Awp impl_walker_up_ctx LL (bodyOf Try.f44) impl_walker_up_an ⟨mkE 28 0 [(0, .ptr 0 0)], [some (.box [dL x1487, dI x1488, dI x1489])]⟩ (Ret (tlook tys) Try.f44.results.toList r H') :=
  ret_of' (impl_walker_up_n1_l x1487 x1488 x1489) (by unfold impl_walker_up; kernel_rfl) (by
  intro t
  exact ret_mk [dB t.1] (by kernel_rfl) (by kernel_rfl) (by kernel_rfl) (by kernel_rfl)) h

def F_impl_walker_up : Fun := fun avs H =>
  match avs, H with
  | [.ptr 0 0], [some (.box [.dat (.list (.int .i64)) x1487, .dat (.int .i64) x1488, .dat (.int .i64) x1489])] => ⟨_, impl_walker_up x1487 x1488 x1489, fun (t : Bool × Int × Int) => (dB t.1, [some (.box [dL x1487, dI t.2.1, dI t.2.2])]), [], none⟩
  | _, _ => Ans.no

theorem impl_walker_up_sound : Sound Try.prog 44 F_impl_walker_up := by
  refine fn_sound' (C := impl_walker_up_ctx) (c := bodyOf Try.f44) (cok_of tys_ok (alln) (alln) (by kernel_rfl)) Try.func44 (by kernel_rfl) LL impl_walker_up_an ?_
  intro avs H r H' h
  unfold F_impl_walker_up at h
  split at h
  · refine Awp.cast ?_ ?_ ?_ (impl_walker_up_e _ _ _ h) <;> kernel_rfl
  · simp [Ans.no, Ans.run] at h


/-! loop.example/headtrees/impl.stepsToRoot -/

def impl_stepsToRoot_an : Ann := (.seq (.leaf [0, 1]) (.seq (.leaf [0, 6]) (.seq (.block (.loop (.seq (.seq (.leaf [0, 6, 10]) (.cond (.leaf [0, 6]) (.leaf [6]))) (.block (.seq (.leaf [0, 6, 15]) (.cond (.seq (.leaf [4, 5]) (.leaf [4, 5])) (.leaf [0, 6]))))))) (.seq (.leaf [4, 5]) (.leaf [4, 5])))))

noncomputable def impl_stepsToRoot_ctx : Ctx := ⟨tlook tys, olook [(44, F_impl_walker_up)], ioF, 0, false, []⟩

theorem impl_stepsToRoot_n1_l (x1485 : List Int) (x1486 : Int) : Link impl_stepsToRoot_ctx LL (Code.seq (cq [0] (bodyOf Try.f30)) (cq [0,1] (bodyOf Try.f30))) (Ann.seq (aq [0] impl_stepsToRoot_an) (aq [0,1] impl_stepsToRoot_an)) ⟨mkE 18 0 [(0, dL x1485), (1, dI x1486)], []⟩ (impl_stepsToRoot_n1) (fun (t : Unit) => (Exit.normal, ⟨mkE 18 0 [(0, dL x1485), (6, .ptr 0 0)], [some (.box [dL x1485, dI x1486, dI 0])]⟩)) := .of fun K h => by
  simp only [impl_stepsToRoot_n1, wpW] at h
  exact .of (by kernel_rfl) h

theorem impl_stepsToRoot_n2_l (x1485 : List Int) (x1523 : Int) (x1524 : Int) : Link impl_stepsToRoot_ctx LL (cq [0,0,0,1,1] (bodyOf Try.f30)) (aq [0,0,0,1,1] impl_stepsToRoot_an) ⟨mkE 18 0 [(0, dL x1485), (6, .ptr 0 0)], [some (.box [dL x1485, dI x1523, dI x1524])]⟩ (impl_stepsToRoot_n2 x1485 x1523 x1524) (Sum.elim (fun (t : Int × Int) => (Exit.normal, ⟨mkE 18 0 [(0, dL x1485), (6, .ptr 0 0)], [some (.box [dL x1485, dI t.1, dI t.2])]⟩)) (Sum.elim (fun (t : Int × Bool) => (Exit.ret, ⟨mkE 18 0 [(4, dI t.1), (5, dB t.2)], []⟩)) (fun (t : Int × Int) => ((Exit.exit 0), ⟨mkE 18 0 [(6, .ptr 0 0)], [some (.box [dL x1485, dI t.1, dI t.2])]⟩)))) := .of fun K h => by
  simp only [impl_stepsToRoot_n2, wpW] at h
  exact .of (by kernel_rfl) h

def impl_stepsToRoot_n3_l (x1485 : List Int) (x1486 : Int) := (link_loop (mk := fun (s : Int × Int) => ⟨mkE 18 0 [(0, dL x1485), (6, .ptr 0 0)], [some (.box [dL x1485, dI s.1, dI s.2])]⟩) (fin := (Sum.elim (fun (t : Int × Bool) => (Exit.ret, ⟨mkE 18 0 [(4, dI t.1), (5, dB t.2)], []⟩)) (fun (t : Int × Int) => ((Exit.exit 0), ⟨mkE 18 0 [(6, .ptr 0 0)], [some (.box [dL x1485, dI t.1, dI t.2])]⟩)))) (by
  rintro (t | t) f K h
  · exact h
  · exact h) (fun s => link_map (impl_stepsToRoot_n2_l x1485 s.1 s.2) (Sum.elim (fun (t : Int × Int) => Sum.inl (t.1, t.2)) (Sum.elim (fun (t : Int × Bool) => Sum.inr (Sum.inl t)) (fun (t : Int × Int) => Sum.inr (Sum.inr t)))) (by
  rintro (t | t | t)
  · kernel_rfl
  · kernel_rfl
  · kernel_rfl)) (x1486, 0))

def impl_stepsToRoot_n4_l (x1485 : List Int) (x1486 : Int) := (link_block (fin2 := (Sum.elim (fun (t : Int × Int) => (Exit.normal, ⟨mkE 18 0 [(6, .ptr 0 0)], [some (.box [dL x1485, dI t.1, dI t.2])]⟩)) (fun (t : Int × Bool) => (Exit.ret, ⟨mkE 18 0 [(4, dI t.1), (5, dB t.2)], []⟩)))) (id := 0) (impl_stepsToRoot_n3_l x1485 x1486) (Sum.elim (fun (t : Int × Bool) => (Sum.inr t)) (fun (t : Int × Int) => (Sum.inl (t.1, t.2)))) (by
  rintro (t | t) K h
  · exact Eq.mp (by kernel_rfl) h
  · exact Eq.mp (by kernel_rfl) h))

theorem impl_stepsToRoot_n5_l (x1485 : List Int) (x1531 : Int) (x1532 : Int) : Link impl_stepsToRoot_ctx LL (cq [1,1,1] (bodyOf Try.f30)) (aq [1,1,1] impl_stepsToRoot_an) ⟨mkE 18 0 [(6, .ptr 0 0)], [some (.box [dL x1485, dI x1531, dI x1532])]⟩ (impl_stepsToRoot_n5 x1532) (fun (t : Int × Bool) => (Exit.ret, ⟨mkE 18 0 [(4, dI t.1), (5, dB t.2)], []⟩)) := .of fun K h => by
  simp only [impl_stepsToRoot_n5, wpW] at h
  exact .of (by kernel_rfl) h

def impl_stepsToRoot_n6_l (x1485 : List Int) (x1486 : Int) := (link_seq2 (impl_stepsToRoot_n4_l x1485 x1486) (fun (t : Int × Int) => (impl_stepsToRoot_n5_l x1485 t.1 t.2)) (fun (t : Int × Bool) => t) (by
  rintro t
  · kernel_rfl) (by
  rintro t f K h
  · exact h))

def impl_stepsToRoot_n7_l (x1485 : List Int) (x1486 : Int) := (link_group (c := (cq [0,1] (bodyOf Try.f30))) (a := (aq [0,1] impl_stepsToRoot_an)) [(cq [0] (bodyOf Try.f30))] [(aq [0] impl_stepsToRoot_an)] rfl (link_seq (impl_stepsToRoot_n1_l x1485 x1486) (fun (t : Unit) => (impl_stepsToRoot_n6_l x1485 x1486))))

theorem impl_stepsToRoot_e (x1485 : List Int) (x1486 : Int) {r : AV} {H' : Heap} (h : (Ans.mk _ (impl_stepsToRoot x1485 x1486) (fun (t : Int × Bool) => (.tup [dI t.1, dB t.2], [])) [] none).run = some (r, H')) : Awp impl_stepsToRoot_ctx LL (bodyOf Try.f30) impl_stepsToRoot_an ⟨mkE 18 0 [(0, dL x1485), (1, dI x1486)], []⟩ (Ret (tlook tys) Try.f30.results.toList r H') :=
  ret_of' (Link.cast (by kernel_rfl) (by kernel_rfl) (impl_stepsToRoot_n7_l x1485 x1486)) (by unfold impl_stepsToRoot; kernel_rfl) (by
  intro t
  exact ret_mk [dI t.1, dB t.2] (by kernel_rfl) (by kernel_rfl) (by kernel_rfl) (by kernel_rfl)) h

def F_impl_stepsToRoot : Fun := fun avs H =>
  match avs, H with
  | [.dat (.list (.int .i64)) x1485, .dat (.int .i64) x1486], [] => ⟨_, impl_stepsToRoot x1485 x1486, fun (t : Int × Bool) => (.tup [dI t.1, dB t.2], []), [], none⟩
  | _, _ => Ans.no

theorem impl_stepsToRoot_sound : Sound Try.prog 30 F_impl_stepsToRoot := by
  refine fn_sound' (C := impl_stepsToRoot_ctx) (c := bodyOf Try.f30) (cok_of tys_ok (allc impl_walker_up_sound alln) (allc Try.call44 alln) (by kernel_rfl)) Try.func30 (by kernel_rfl) LL impl_stepsToRoot_an ?_
  intro avs H r H' h
  unfold F_impl_stepsToRoot at h
  split at h
  · refine Awp.cast ?_ ?_ ?_ (impl_stepsToRoot_e _ _ h) <;> kernel_rfl
  · simp [Ans.no, Ans.run] at h


/-! loop.example/headtrees/impl.TreeOk -/

def impl_TreeOk_an : Ann := (.seq (.leaf [0]) (.seq (.seq (.leaf [0, 18]) (.cond (.seq (.leaf [2]) (.leaf [2])) (.leaf [0]))) (.seq (.seq (.leaf [0, 20, 21]) (.block (.loop (.seq (.leaf [0, 20, 21, 22]) (.seq (.cond (.leaf [0, 20, 21]) (.leaf [])) (.seq (.block (.seq (.leaf [0, 3, 20, 21]) (.seq (.leaf [0, 5, 20, 21]) (.seq (.leaf [0, 20, 21, 32]) (.cond (.seq (.leaf [2]) (.leaf [2])) (.leaf [0, 20, 21])))))) (.leaf [0, 20, 21]))))))) (.seq (.leaf [2]) (.leaf [2])))))

noncomputable def impl_TreeOk_ctx : Ctx := ⟨tlook tys, olook [(29, F_impl_oneRoot), (30, F_impl_stepsToRoot)], ioF, 0, false, []⟩

theorem impl_TreeOk_n1_l (x1426 : List Int) : Link impl_TreeOk_ctx LL (Code.seq (cq [0] (bodyOf Try.f12)) (cq [0,1] (bodyOf Try.f12))) (Ann.seq (aq [0] impl_TreeOk_an) (aq [0,1] impl_TreeOk_an)) ⟨mkE 34 0 [(0, dL x1426)], []⟩ (impl_TreeOk_n1 x1426) (Sum.elim (fun (t : Unit) => (Exit.normal, ⟨mkE 34 0 [(0, dL x1426)], []⟩)) (fun (t : Bool) => (Exit.ret, ⟨mkE 34 0 [(2, dB t)], []⟩))) := .of fun K h => by
  simp only [impl_TreeOk_n1, wpW] at h
  exact .of (by kernel_rfl) h

theorem impl_TreeOk_n2_l (x1426 : List Int) : Link impl_TreeOk_ctx LL (cq [0,0,1,1] (bodyOf Try.f12)) (aq [0,0,1,1] impl_TreeOk_an) ⟨mkE 34 0 [(0, dL x1426)], []⟩ (impl_TreeOk_n2 x1426) (fun (t : Int) => (Exit.normal, ⟨mkE 34 0 [(0, dL x1426), (20, dI t), (21, dI 0)], []⟩)) := .of fun K h => by
  simp only [impl_TreeOk_n2, wpW] at h
  exact .of (by kernel_rfl) h

theorem impl_TreeOk_n3_l (x1426 : List Int) (x1480 : Int) (x1548 : Int) : Link impl_TreeOk_ctx LL (cq [0,0,1,0,1,1] (bodyOf Try.f12)) (aq [0,0,1,0,1,1] impl_TreeOk_an) ⟨mkE 34 0 [(0, dL x1426), (20, dI x1480), (21, dI x1548)], []⟩ (impl_TreeOk_n3 x1426 x1480 x1548) (Sum.elim (fun (t : Int) => (Exit.normal, ⟨mkE 34 0 [(0, dL x1426), (20, dI x1480), (21, dI t)], []⟩)) (Sum.elim (fun (t : Bool) => (Exit.ret, ⟨mkE 34 0 [(2, dB t)], []⟩)) (fun (t : Unit) => ((Exit.exit 0), ⟨mkE 34 0 [], []⟩)))) := .of fun K h => by
  simp only [impl_TreeOk_n3, wpW] at h
  exact .of (by kernel_rfl) h

def impl_TreeOk_n4_l (x1426 : List Int) (x1480 : Int) := (link_loop (mk := fun (s : Int) => ⟨mkE 34 0 [(0, dL x1426), (20, dI x1480), (21, dI s)], []⟩) (fin := (Sum.elim (fun (t : Bool) => (Exit.ret, ⟨mkE 34 0 [(2, dB t)], []⟩)) (fun (t : Unit) => ((Exit.exit 0), ⟨mkE 34 0 [], []⟩)))) (by
  rintro (t | t) f K h
  · exact h
  · exact h) (fun s => link_map (impl_TreeOk_n3_l x1426 x1480 s) (Sum.elim (fun (t : Int) => Sum.inl t) (Sum.elim (fun (t : Bool) => Sum.inr (Sum.inl t)) (fun (t : Unit) => Sum.inr (Sum.inr t)))) (by
  rintro (t | t | t)
  · kernel_rfl
  · kernel_rfl
  · kernel_rfl)) 0)

def impl_TreeOk_n5_l (x1426 : List Int) (x1480 : Int) := (link_block (fin2 := (Sum.elim (fun (t : Unit) => (Exit.normal, ⟨mkE 34 0 [], []⟩)) (fun (t : Bool) => (Exit.ret, ⟨mkE 34 0 [(2, dB t)], []⟩)))) (id := 0) (impl_TreeOk_n4_l x1426 x1480) (Sum.elim (fun (t : Bool) => (Sum.inr t)) (fun (t : Unit) => (Sum.inl ()))) (by
  rintro (t | t) K h
  · exact Eq.mp (by kernel_rfl) h
  · exact Eq.mp (by kernel_rfl) h))

def impl_TreeOk_n6_l (x1426 : List Int) := (link_seq (impl_TreeOk_n2_l x1426) (fun (t : Int) => (impl_TreeOk_n5_l x1426 t)))

theorem impl_TreeOk_n7_l : Link impl_TreeOk_ctx LL (cq [1,1,1] (bodyOf Try.f12)) (aq [1,1,1] impl_TreeOk_an) ⟨mkE 34 0 [], []⟩ (impl_TreeOk_n7) (fun (t : Bool) => (Exit.ret, ⟨mkE 34 0 [(2, dB t)], []⟩)) := .of fun K h => by
  simp only [impl_TreeOk_n7, wpW] at h
  exact .of (by kernel_rfl) h

def impl_TreeOk_n8_l (x1426 : List Int) := (link_seq2 (impl_TreeOk_n6_l x1426) (fun (t : Unit) => (impl_TreeOk_n7_l)) (fun (t : Bool) => t) (by
  rintro t
  · kernel_rfl) (by
  rintro t f K h
  · exact h))

def impl_TreeOk_n9_l (x1426 : List Int) := (link_group (c := (cq [0,1] (bodyOf Try.f12))) (a := (aq [0,1] impl_TreeOk_an)) [(cq [0] (bodyOf Try.f12))] [(aq [0] impl_TreeOk_an)] rfl (link_seq2 (impl_TreeOk_n1_l x1426) (fun (t : Unit) => (impl_TreeOk_n8_l x1426)) (fun (t : Bool) => t) (by
  rintro t
  · kernel_rfl) (by
  rintro t f K h
  · exact h)))

theorem impl_TreeOk_e (x1426 : List Int) {r : AV} {H' : Heap} (h : (Ans.mk _ (impl_TreeOk x1426) (fun (t : Bool) => (dB t, [])) [] none).run = some (r, H')) : Awp impl_TreeOk_ctx LL (bodyOf Try.f12) impl_TreeOk_an ⟨mkE 34 0 [(0, dL x1426)], []⟩ (Ret (tlook tys) Try.f12.results.toList r H') :=
  ret_of' (Link.cast (by kernel_rfl) (by kernel_rfl) (impl_TreeOk_n9_l x1426)) (by unfold impl_TreeOk; kernel_rfl) (by
  intro t
  exact ret_mk [dB t] (by kernel_rfl) (by kernel_rfl) (by kernel_rfl) (by kernel_rfl)) h

def F_impl_TreeOk : Fun := fun avs H =>
  match avs, H with
  | [.dat (.list (.int .i64)) x1426], [] => ⟨_, impl_TreeOk x1426, fun (t : Bool) => (dB t, []), [], none⟩
  | _, _ => Ans.no

theorem impl_TreeOk_sound : Sound Try.prog 12 F_impl_TreeOk := by
  refine fn_sound' (C := impl_TreeOk_ctx) (c := bodyOf Try.f12) (cok_of tys_ok (allc impl_oneRoot_sound (allc impl_stepsToRoot_sound alln)) (allc Try.call29 (allc Try.call30 alln)) (by kernel_rfl)) Try.func12 (by kernel_rfl) LL impl_TreeOk_an ?_
  intro avs H r H' h
  unfold F_impl_TreeOk at h
  split at h
  · refine Awp.cast ?_ ?_ ?_ (impl_TreeOk_e _ h) <;> kernel_rfl
  · simp [Ans.no, Ans.run] at h


/-! loop.example/headtrees/impl.arcBetween -/

def impl_arcBetween_an : Ann := (.seq (.leaf [0, 1, 4]) (.seq (.seq (.leaf [0, 1, 4, 16]) (.cond (.seq (.leaf [4, 5]) (.leaf [4, 5])) (.leaf [0, 1, 4]))) (.seq (.leaf [4, 5]) (.leaf [4, 5]))))

noncomputable def impl_arcBetween_ctx : Ctx := ⟨tlook tys, olook [], ioF, 0, false, []⟩

theorem impl_arcBetween_n1_l (x1580 : Int) (x1581 : Int) : Link impl_arcBetween_ctx LL (bodyOf Try.f43) impl_arcBetween_an ⟨mkE 25 0 [(0, dI x1580), (1, dI x1581)], []⟩ (impl_arcBetween_n1 x1580 x1581) (fun (t : Bool × Int × Int) => (Exit.ret, ⟨mkE 25 0 [(4, .ptr 0 0), (5, dB t.1)], [some (.box [dI t.2.1, dI t.2.2])]⟩)) := .of fun K h => by
  simp only [impl_arcBetween_n1, wpW] at h
  exact .of (by kernel_rfl) h

theorem impl_arcBetween_e (x1580 : Int) (x1581 : Int) {r : AV} {H' : Heap} (h : (Ans.mk _ (impl_arcBetween x1580 x1581) (fun (t : Bool × Int × Int) => (.tup [.agg [dI t.2.1, dI t.2.2], dB t.1], [some (.box [dI t.2.1, dI t.2.2])])) [] none).run = some (r, H')) : Awp impl_arcBetween_ctx LL (bodyOf Try.f43) impl_arcBetween_an ⟨mkE 25 0 [(0, dI x1580), (1, dI x1581)], []⟩ (Ret (tlook tys) Try.f43.results.toList r H') :=
  ret_of' (impl_arcBetween_n1_l x1580 x1581) (by unfold impl_arcBetween; kernel_rfl) (by
  intro t
  exact ret_mk [.agg [dI t.2.1, dI t.2.2], dB t.1] (by kernel_rfl) (by kernel_rfl) (by kernel_rfl) (by kernel_rfl)) h

def F_impl_arcBetween : Fun := fun avs H =>
  match avs, H with
  | [.dat (.int .i64) x1580, .dat (.int .i64) x1581], [] => ⟨_, impl_arcBetween x1580 x1581, fun (t : Bool × Int × Int) => (.tup [.agg [dI t.2.1, dI t.2.2], dB t.1], [some (.box [dI t.2.1, dI t.2.2])]), [], none⟩
  | _, _ => Ans.no

theorem impl_arcBetween_sound : Sound Try.prog 43 F_impl_arcBetween := by
  refine fn_sound' (C := impl_arcBetween_ctx) (c := bodyOf Try.f43) (cok_of tys_ok (alln) (alln) (by kernel_rfl)) Try.func43 (by kernel_rfl) LL impl_arcBetween_an ?_
  intro avs H r H' h
  unfold F_impl_arcBetween at h
  split at h
  · refine Awp.cast ?_ ?_ ?_ (impl_arcBetween_e _ _ h) <;> kernel_rfl
  · simp [Ans.no, Ans.run] at h


/-! loop.example/headtrees/impl.arcsOf -/

def impl_arcsOf_an : Ann := (.seq (.leaf [0]) (.seq (.leaf [0, 3]) (.seq (.seq (.leaf [3, 11, 12, 13]) (.block (.loop (.seq (.leaf [3, 11, 12, 13, 14]) (.seq (.cond (.leaf [3, 11, 12, 13]) (.leaf [3])) (.seq (.block (.seq (.leaf [3, 4, 5, 11, 12, 13]) (.seq (.leaf [3, 6, 7, 11, 12, 13]) (.seq (.leaf [3, 6, 11, 12, 13, 25]) (.cond (.leaf [3, 11, 12, 13]) (.leaf [3, 11, 12, 13])))))) (.leaf [3, 11, 12, 13]))))))) (.seq (.leaf [2]) (.leaf [2])))))

noncomputable def impl_arcsOf_ctx : Ctx := ⟨tlook tys, olook [(43, F_impl_arcBetween)], ioF, 0, false, []⟩

theorem impl_arcsOf_n1_l (x1569 : List Int) : Link impl_arcsOf_ctx LL (Code.seq (cq [0] (bodyOf Try.f26)) (cq [0,1] (bodyOf Try.f26))) (Ann.seq (aq [0] impl_arcsOf_an) (aq [0,1] impl_arcsOf_an)) ⟨mkE 32 0 [(0, dL x1569)], []⟩ (impl_arcsOf_n1 x1569) (fun (t : (List (Int × Int × Unit))) => (Exit.normal, ⟨mkE 32 0 [(0, dL x1569), (3, .slc 0)], [some (.seq (.pair (.int .i64) (.pair (.int .i64) .unit)) t)]⟩)) := .of fun K h => by
  simp only [impl_arcsOf_n1, wpW] at h
  exact .of (by kernel_rfl) h

theorem impl_arcsOf_n2_l (x1569 : List Int) (x1573 : List (Int × Int × Unit)) : Link impl_arcsOf_ctx LL (cq [0,0,1,1] (bodyOf Try.f26)) (aq [0,0,1,1] impl_arcsOf_an) ⟨mkE 32 0 [(0, dL x1569), (3, .slc 0)], [some (.seq (.pair (.int .i64) (.pair (.int .i64) .unit)) x1573)]⟩ (impl_arcsOf_n2 x1569) (fun (t : Int) => (Exit.normal, ⟨mkE 32 0 [(3, .slc 0), (11, dL x1569), (12, dI t), (13, dI 0)], [some (.seq (.pair (.int .i64) (.pair (.int .i64) .unit)) x1573)]⟩)) := .of fun K h => by
  simp only [impl_arcsOf_n2, wpW] at h
  exact .of (by kernel_rfl) h

theorem impl_arcsOf_n3_l (x1569 : List Int) (x1574 : Int) (x1626 : Int) (x1627 : List (Int × Int × Unit)) : Link impl_arcsOf_ctx LL (cq [0,0,1,0,1,1] (bodyOf Try.f26)) (aq [0,0,1,0,1,1] impl_arcsOf_an) ⟨mkE 32 0 [(3, .slc 0), (11, dL x1569), (12, dI x1574), (13, dI x1626)], [some (.seq (.pair (.int .i64) (.pair (.int .i64) .unit)) x1627)]⟩ (impl_arcsOf_n3 x1569 x1574 x1626 x1627) (Sum.elim (fun (t : Int × (List (Int × Int × Unit))) => (Exit.normal, ⟨mkE 32 0 [(3, .slc 0), (11, dL x1569), (12, dI x1574), (13, dI t.1)], [some (.seq (.pair (.int .i64) (.pair (.int .i64) .unit)) t.2)]⟩)) (fun (t : (List (Int × Int × Unit))) => ((Exit.exit 0), ⟨mkE 32 0 [(3, .slc 0)], [some (.seq (.pair (.int .i64) (.pair (.int .i64) .unit)) t)]⟩))) := .of fun K h => by
  simp only [impl_arcsOf_n3, wpW] at h
  exact .of (by kernel_rfl) h

def impl_arcsOf_n4_l (x1569 : List Int) (x1574 : Int) (x1573 : List (Int × Int × Unit)) := (link_loop (mk := fun (s : Int × (List (Int × Int × Unit))) => ⟨mkE 32 0 [(3, .slc 0), (11, dL x1569), (12, dI x1574), (13, dI s.1)], [some (.seq (.pair (.int .i64) (.pair (.int .i64) .unit)) s.2)]⟩) (fin := (fun (t : (List (Int × Int × Unit))) => ((Exit.exit 0), ⟨mkE 32 0 [(3, .slc 0)], [some (.seq (.pair (.int .i64) (.pair (.int .i64) .unit)) t)]⟩))) (by
  rintro t f K h
  · exact h) (fun s => link_map (impl_arcsOf_n3_l x1569 x1574 s.1 s.2) (Sum.elim (fun (t : Int × (List (Int × Int × Unit))) => Sum.inl (t.1, t.2)) (fun (t : (List (Int × Int × Unit))) => Sum.inr t)) (by
  rintro (t | t)
  · kernel_rfl
  · kernel_rfl)) (0, x1573))

def impl_arcsOf_n5_l (x1569 : List Int) (x1574 : Int) (x1573 : List (Int × Int × Unit)) := (link_block (fin2 := (fun (t : (List (Int × Int × Unit))) => (Exit.normal, ⟨mkE 32 0 [(3, .slc 0)], [some (.seq (.pair (.int .i64) (.pair (.int .i64) .unit)) t)]⟩))) (id := 0) (impl_arcsOf_n4_l x1569 x1574 x1573) (fun (t : (List (Int × Int × Unit))) => t) (by
  rintro t K h
  · exact Eq.mp (by kernel_rfl) h))

def impl_arcsOf_n6_l (x1569 : List Int) (x1573 : List (Int × Int × Unit)) := (link_seq (impl_arcsOf_n2_l x1569 x1573) (fun (t : Int) => (impl_arcsOf_n5_l x1569 t x1573)))

theorem impl_arcsOf_n7_l (x1627 : List (Int × Int × Unit)) : Link impl_arcsOf_ctx LL (cq [1,1,1] (bodyOf Try.f26)) (aq [1,1,1] impl_arcsOf_an) ⟨mkE 32 0 [(3, .slc 0)], [some (.seq (.pair (.int .i64) (.pair (.int .i64) .unit)) x1627)]⟩ (impl_arcsOf_n7 x1627) (fun (t : (List (Int × Int × Unit))) => (Exit.ret, ⟨mkE 32 0 [(2, .slc 0)], [some (.seq (.pair (.int .i64) (.pair (.int .i64) .unit)) t)]⟩)) := .of fun K h => by
  simp only [impl_arcsOf_n7, wpW] at h
  exact .of (by kernel_rfl) h

def impl_arcsOf_n8_l (x1569 : List Int) (x1573 : List (Int × Int × Unit)) := (link_seq (impl_arcsOf_n6_l x1569 x1573) (fun (t : (List (Int × Int × Unit))) => (impl_arcsOf_n7_l t)))

def impl_arcsOf_n9_l (x1569 : List Int) := (link_group (c := (cq [0,1] (bodyOf Try.f26))) (a := (aq [0,1] impl_arcsOf_an)) [(cq [0] (bodyOf Try.f26))] [(aq [0] impl_arcsOf_an)] rfl (link_seq (impl_arcsOf_n1_l x1569) (fun (t : (List (Int × Int × Unit))) => (impl_arcsOf_n8_l x1569 t))))

theorem impl_arcsOf_e (x1569 : List Int) {r : AV} {H' : Heap} (h : (Ans.mk _ (impl_arcsOf x1569) (fun (t : (List (Int × Int × Unit))) => (.slc 0, [some (.seq (.pair (.int .i64) (.pair (.int .i64) .unit)) t)])) [] none).run = some (r, H')) : Awp impl_arcsOf_ctx LL (bodyOf Try.f26) impl_arcsOf_an ⟨mkE 32 0 [(0, dL x1569)], []⟩ (Ret (tlook tys) Try.f26.results.toList r H') :=
  ret_of' (Link.cast (by kernel_rfl) (by kernel_rfl) (impl_arcsOf_n9_l x1569)) (by unfold impl_arcsOf; kernel_rfl) (by
  intro t
  exact ret_mk [.slc 0] (by kernel_rfl) (by kernel_rfl) (by kernel_rfl) (by kernel_rfl)) h

def F_impl_arcsOf : Fun := fun avs H =>
  match avs, H with
  | [.dat (.list (.int .i64)) x1569], [] => ⟨_, impl_arcsOf x1569, fun (t : (List (Int × Int × Unit))) => (.slc 0, [some (.seq (.pair (.int .i64) (.pair (.int .i64) .unit)) t)]), [], none⟩
  | _, _ => Ans.no

theorem impl_arcsOf_sound : Sound Try.prog 26 F_impl_arcsOf := by
  refine fn_sound' (C := impl_arcsOf_ctx) (c := bodyOf Try.f26) (cok_of tys_ok (allc impl_arcBetween_sound alln) (allc Try.call43 alln) (by kernel_rfl)) Try.func26 (by kernel_rfl) LL impl_arcsOf_an ?_
  intro avs H r H' h
  unfold F_impl_arcsOf at h
  split at h
  · refine Awp.cast ?_ ?_ ?_ (impl_arcsOf_e _ h) <;> kernel_rfl
  · simp [Ans.no, Ans.run] at h


/-! (loop.example/headtrees/impl.arc).length -/

def impl_arc_length_an : Ann := (.seq (.leaf [1]) (.seq (.leaf [2]) (.leaf [2])))

noncomputable def impl_arc_length_ctx : Ctx := ⟨tlook tys, olook [], ioF, 0, false, []⟩

theorem impl_arc_length_n1_l (x1671 : Int) (x1672 : Int) : Link impl_arc_length_ctx LL (bodyOf Try.f27) impl_arc_length_an ⟨mkE 8 0 [(0, .agg [dI x1671, dI x1672])], []⟩ (impl_arc_length_n1 x1671 x1672) (fun (t : Int) => (Exit.ret, ⟨mkE 8 0 [(2, dI t)], []⟩)) := .of fun K h => by
  simp only [impl_arc_length_n1, wpW] at h
  exact .of (by kernel_rfl) h

theorem impl_arc_length_e (x1671 : Int) (x1672 : Int) {r : AV} {H' : Heap} (h : (Ans.mk _ (impl_arc_length x1671 x1672) (fun (t : Int) => (dI t, [])) [] none).run = some (r, H')) : Awp impl_arc_length_ctx LL (bodyOf Try.f27) impl_arc_length_an ⟨mkE 8 0 [(0, .agg [dI x1671, dI x1672])], []⟩ (Ret (tlook tys) Try.f27.results.toList r H') :=
  ret_of' (impl_arc_length_n1_l x1671 x1672) (by unfold impl_arc_length; kernel_rfl) (by
  intro t
  exact ret_mk [dI t] (by kernel_rfl) (by kernel_rfl) (by kernel_rfl) (by kernel_rfl)) h

def F_impl_arc_length : Fun := fun avs H =>
  match avs, H with
  | [.agg [.dat (.int .i64) x1671, .dat (.int .i64) x1672]], [] => ⟨_, impl_arc_length x1671 x1672, fun (t : Int) => (dI t, []), [], none⟩
  | _, _ => Ans.no

theorem impl_arc_length_sound : Sound Try.prog 27 F_impl_arc_length := by
  refine fn_sound' (C := impl_arc_length_ctx) (c := bodyOf Try.f27) (cok_of tys_ok (alln) (alln) (by kernel_rfl)) Try.func27 (by kernel_rfl) LL impl_arc_length_an ?_
  intro avs H r H' h
  unfold F_impl_arc_length at h
  split at h
  · refine Awp.cast ?_ ?_ ?_ (impl_arc_length_e _ _ h) <;> kernel_rfl
  · simp [Ans.no, Ans.run] at h


/-! loop.example/headtrees/impl.LengthOf -/

def impl_LengthOf_an : Ann := (.seq (.leaf [0]) (.seq (.seq (.leaf [0, 8]) (.cond (.seq (.leaf [2]) (.leaf [2])) (.leaf [0]))) (.seq (.leaf [0, 3]) (.seq (.seq (.leaf [3, 10, 11, 12]) (.block (.loop (.seq (.leaf [3, 10, 11, 12, 13]) (.seq (.cond (.leaf [3, 10, 11, 12]) (.leaf [3])) (.seq (.block (.seq (.leaf [3, 5, 10, 11, 12]) (.leaf [3, 10, 11, 12]))) (.leaf [3, 10, 11, 12]))))))) (.seq (.leaf [2]) (.leaf [2]))))))

noncomputable def impl_LengthOf_ctx : Ctx := ⟨tlook tys, olook [(12, F_impl_TreeOk), (26, F_impl_arcsOf), (27, F_impl_arc_length)], ioF, 0, false, []⟩

theorem impl_LengthOf_n1_l (x1425 : List Int) : Link impl_LengthOf_ctx LL (Code.seq (cq [0] (bodyOf Try.f10)) (Code.seq (cq [0,1] (bodyOf Try.f10)) (cq [0,1,1] (bodyOf Try.f10)))) (Ann.seq (aq [0] impl_LengthOf_an) (Ann.seq (aq [0,1] impl_LengthOf_an) (aq [0,1,1] impl_LengthOf_an))) ⟨mkE 22 0 [(0, dL x1425)], []⟩ (impl_LengthOf_n1 x1425) (Sum.elim (fun (t : Unit) => (Exit.normal, ⟨mkE 22 0 [(0, dL x1425), (3, dI 0)], []⟩)) (fun (t : Int) => (Exit.ret, ⟨mkE 22 0 [(2, dI t)], []⟩))) := .of fun K h => by
  simp only [impl_LengthOf_n1, wpW] at h
  exact .of (by kernel_rfl) h

theorem impl_LengthOf_n2_l (x1425 : List Int) : Link impl_LengthOf_ctx LL (cq [0,0,1,1,1] (bodyOf Try.f10)) (aq [0,0,1,1,1] impl_LengthOf_an) ⟨mkE 22 0 [(0, dL x1425), (3, dI 0)], []⟩ (impl_LengthOf_n2 x1425) (fun (t : Int × (List (Int × Int × Unit))) => (Exit.normal, ⟨mkE 22 0 [(3, dI 0), (10, .slc 0), (11, dI t.1), (12, dI 0)], [some (.seq (.pair (.int .i64) (.pair (.int .i64) .unit)) t.2)]⟩)) := .of fun K h => by
  simp only [impl_LengthOf_n2, wpW] at h
  exact .of (by kernel_rfl) h

theorem impl_LengthOf_n3_l (x1687 : Int) (x1661 : Int) (x1688 : Int) (x1660 : List (Int × Int × Unit)) : Link impl_LengthOf_ctx LL (cq [0,0,1,0,1,1,1] (bodyOf Try.f10)) (aq [0,0,1,0,1,1,1] impl_LengthOf_an) ⟨mkE 22 0 [(3, dI x1687), (10, .slc 0), (11, dI x1661), (12, dI x1688)], [some (.seq (.pair (.int .i64) (.pair (.int .i64) .unit)) x1660)]⟩ (impl_LengthOf_n3 x1687 x1661 x1688 x1660) (Sum.elim (fun (t : Int × Int) => (Exit.normal, ⟨mkE 22 0 [(3, dI t.1), (10, .slc 0), (11, dI x1661), (12, dI t.2)], [some (.seq (.pair (.int .i64) (.pair (.int .i64) .unit)) x1660)]⟩)) (fun (t : Int) => ((Exit.exit 0), ⟨mkE 22 0 [(3, dI t)], []⟩))) := .of fun K h => by
  simp only [impl_LengthOf_n3, wpW] at h
  exact .of (by kernel_rfl) h

def impl_LengthOf_n4_l (x1661 : Int) (x1660 : List (Int × Int × Unit)) := (link_loop (mk := fun (s : Int × Int) => ⟨mkE 22 0 [(3, dI s.1), (10, .slc 0), (11, dI x1661), (12, dI s.2)], [some (.seq (.pair (.int .i64) (.pair (.int .i64) .unit)) x1660)]⟩) (fin := (fun (t : Int) => ((Exit.exit 0), ⟨mkE 22 0 [(3, dI t)], []⟩))) (by
  rintro t f K h
  · exact h) (fun s => link_map (impl_LengthOf_n3_l s.1 x1661 s.2 x1660) (Sum.elim (fun (t : Int × Int) => Sum.inl (t.1, t.2)) (fun (t : Int) => Sum.inr t)) (by
  rintro (t | t)
  · kernel_rfl
  · kernel_rfl)) (0, 0))

def impl_LengthOf_n5_l (x1661 : Int) (x1660 : List (Int × Int × Unit)) := (link_block (fin2 := (fun (t : Int) => (Exit.normal, ⟨mkE 22 0 [(3, dI t)], []⟩))) (id := 0) (impl_LengthOf_n4_l x1661 x1660) (fun (t : Int) => t) (by
  rintro t K h
  · exact Eq.mp (by kernel_rfl) h))

def impl_LengthOf_n6_l (x1425 : List Int) := (link_seq (impl_LengthOf_n2_l x1425) (fun (t : Int × (List (Int × Int × Unit))) => (impl_LengthOf_n5_l t.1 t.2)))

theorem impl_LengthOf_n7_l (x1687 : Int) : Link impl_LengthOf_ctx LL (cq [1,1,1,1] (bodyOf Try.f10)) (aq [1,1,1,1] impl_LengthOf_an) ⟨mkE 22 0 [(3, dI x1687)], []⟩ (impl_LengthOf_n7 x1687) (fun (t : Int) => (Exit.ret, ⟨mkE 22 0 [(2, dI t)], []⟩)) := .of fun K h => by
  simp only [impl_LengthOf_n7, wpW] at h
  exact .of (by kernel_rfl) h

def impl_LengthOf_n8_l (x1425 : List Int) := (link_seq (impl_LengthOf_n6_l x1425) (fun (t : Int) => (impl_LengthOf_n7_l t)))

def impl_LengthOf_n9_l (x1425 : List Int) := (link_group (c := (cq [0,1,1] (bodyOf Try.f10))) (a := (aq [0,1,1] impl_LengthOf_an)) [(cq [0] (bodyOf Try.f10)), (cq [0,1] (bodyOf Try.f10))] [(aq [0] impl_LengthOf_an), (aq [0,1] impl_LengthOf_an)] rfl (link_seq2 (impl_LengthOf_n1_l x1425) (fun (t : Unit) => (impl_LengthOf_n8_l x1425)) (fun (t : Int) => t) (by
  rintro t
  · kernel_rfl) (by
  rintro t f K h
  · exact h)))

theorem impl_LengthOf_e (x1425 : List Int) {r : AV} {H' : Heap} (h : (Ans.mk _ (impl_LengthOf x1425) (fun (t : Int) => (dI t, [])) [] none).run = some (r, H')) : Awp impl_LengthOf_ctx LL (bodyOf Try.f10) impl_LengthOf_an ⟨mkE 22 0 [(0, dL x1425)], []⟩ (Ret (tlook tys) Try.f10.results.toList r H') :=
  ret_of' (Link.cast (by kernel_rfl) (by kernel_rfl) (impl_LengthOf_n9_l x1425)) (by unfold impl_LengthOf; kernel_rfl) (by
  intro t
  exact ret_mk [dI t] (by kernel_rfl) (by kernel_rfl) (by kernel_rfl) (by kernel_rfl)) h

def F_impl_LengthOf : Fun := fun avs H =>
  match avs, H with
  | [.dat (.list (.int .i64)) x1425], [] => ⟨_, impl_LengthOf x1425, fun (t : Int) => (dI t, []), [], none⟩
  | _, _ => Ans.no

theorem impl_LengthOf_sound : Sound Try.prog 10 F_impl_LengthOf := by
  refine fn_sound' (C := impl_LengthOf_ctx) (c := bodyOf Try.f10) (cok_of tys_ok (allc impl_TreeOk_sound (allc impl_arcsOf_sound (allc impl_arc_length_sound alln))) (allc Try.call12 (allc Try.call26 (allc Try.call27 alln))) (by kernel_rfl)) Try.func10 (by kernel_rfl) LL impl_LengthOf_an ?_
  intro avs H r H' h
  unfold F_impl_LengthOf at h
  split at h
  · refine Awp.cast ?_ ?_ ?_ (impl_LengthOf_e _ h) <;> kernel_rfl
  · simp [Ans.no, Ans.run] at h


/-! loop.example/headtrees/laws.alive -/

def laws_alive_an : Ann := (.seq (.leaf []) (.seq (.leaf [0]) (.leaf [0])))

noncomputable def laws_alive_ctx : Ctx := ⟨tlook tys, olook [(12, F_impl_TreeOk)], ioF, 0, false, []⟩

theorem laws_alive_n1_l : Link laws_alive_ctx LL (bodyOf Try.f13) laws_alive_an ⟨mkE 8 0 [], []⟩ (laws_alive_n1) (fun (t : Bool) => (Exit.ret, ⟨mkE 8 0 [(0, dB t)], []⟩)) := .of fun K h => by
  simp only [laws_alive_n1, wpW] at h
  exact .of (by kernel_rfl) h

theorem laws_alive_e {r : AV} {H' : Heap} (h : (Ans.mk _ (laws_alive) (fun (t : Bool) => (dB t, [])) [] none).run = some (r, H')) : Awp laws_alive_ctx LL (bodyOf Try.f13) laws_alive_an ⟨mkE 8 0 [], []⟩ (Ret (tlook tys) Try.f13.results.toList r H') :=
  ret_of' (laws_alive_n1_l) (by unfold laws_alive; kernel_rfl) (by
  intro t
  exact ret_mk [dB t] (by kernel_rfl) (by kernel_rfl) (by kernel_rfl) (by kernel_rfl)) h

def F_laws_alive : Fun := fun avs H =>
  match avs, H with
  | [], [] => ⟨_, laws_alive, fun (t : Bool) => (dB t, []), [], none⟩
  | _, _ => Ans.no

theorem laws_alive_sound : Sound Try.prog 13 F_laws_alive := by
  refine fn_sound' (C := laws_alive_ctx) (c := bodyOf Try.f13) (cok_of tys_ok (allc impl_TreeOk_sound alln) (allc Try.call12 alln) (by kernel_rfl)) Try.func13 (by kernel_rfl) LL laws_alive_an ?_
  intro avs H r H' h
  unfold F_laws_alive at h
  split at h
  · refine Awp.cast ?_ ?_ ?_ (laws_alive_e h) <;> kernel_rfl
  · simp [Ans.no, Ans.run] at h


/-! loop.example/headtrees/impl.OrderOk -/

def impl_OrderOk_an : Ann := (.seq (.leaf [0, 1]) (.seq (.seq (.leaf [0, 1, 19]) (.cond (.seq (.leaf [4]) (.leaf [4])) (.leaf [0, 1]))) (.seq (.leaf [0, 1, 5]) (.seq (.seq (.leaf [1, 5, 20, 21, 22]) (.block (.loop (.seq (.leaf [1, 5, 20, 21, 22, 23]) (.seq (.cond (.leaf [1, 5, 20, 21, 22]) (.leaf [])) (.seq (.block (.seq (.leaf [1, 5, 7, 20, 21, 22]) (.seq (.seq (.leaf [1, 5, 7, 20, 21, 22, 37]) (.cond (.seq (.leaf [4]) (.leaf [4])) (.leaf [1, 5, 7, 20, 21, 22]))) (.leaf [1, 5, 20, 21, 22])))) (.leaf [1, 5, 20, 21, 22]))))))) (.seq (.leaf [4]) (.leaf [4]))))))

noncomputable def impl_OrderOk_ctx : Ctx := ⟨tlook tys, olook [], ioF, 0, false, []⟩

theorem impl_OrderOk_n1_l (x1995 : List Int) (x1996 : Int) : Link impl_OrderOk_ctx LL (Code.seq (cq [0] (bodyOf Try.f35)) (Code.seq (cq [0,1] (bodyOf Try.f35)) (cq [0,1,1] (bodyOf Try.f35)))) (Ann.seq (aq [0] impl_OrderOk_an) (Ann.seq (aq [0,1] impl_OrderOk_an) (aq [0,1,1] impl_OrderOk_an))) ⟨mkE 41 0 [(0, dL x1995), (1, dI x1996)], []⟩ (impl_OrderOk_n1 x1995 x1996) (Sum.elim (fun (t : Unit) => (Exit.normal, ⟨mkE 41 0 [(0, dL x1995), (1, dI x1996), (5, .ptr 0 0)], [some (.seq .bool (List.replicate 9 false))]⟩)) (fun (t : Bool) => (Exit.ret, ⟨mkE 41 0 [(4, dB t)], []⟩))) := .of fun K h => by
  simp only [impl_OrderOk_n1, wpW] at h
  exact .of (by kernel_rfl) h

theorem impl_OrderOk_n2_l (x1995 : List Int) (x1996 : Int) : Link impl_OrderOk_ctx LL (cq [0,0,1,1,1] (bodyOf Try.f35)) (aq [0,0,1,1,1] impl_OrderOk_an) ⟨mkE 41 0 [(0, dL x1995), (1, dI x1996), (5, .ptr 0 0)], [some (.seq .bool (List.replicate 9 false))]⟩ (impl_OrderOk_n2 x1995) (fun (t : Int) => (Exit.normal, ⟨mkE 41 0 [(1, dI x1996), (5, .ptr 0 0), (20, dL x1995), (21, dI t), (22, dI 0)], [some (.seq .bool (List.replicate 9 false))]⟩)) := .of fun K h => by
  simp only [impl_OrderOk_n2, wpW] at h
  exact .of (by kernel_rfl) h

theorem impl_OrderOk_n3_l (x1996 : Int) (x1995 : List Int) (x2006 : Int) (x2030 : Int) (x2031 : List Bool) : Link impl_OrderOk_ctx LL (cq [0,0,1,0,1,1,1] (bodyOf Try.f35)) (aq [0,0,1,0,1,1,1] impl_OrderOk_an) ⟨mkE 41 0 [(1, dI x1996), (5, .ptr 0 0), (20, dL x1995), (21, dI x2006), (22, dI x2030)], [some (.seq .bool x2031)]⟩ (impl_OrderOk_n3 x1996 x1995 x2006 x2030 x2031) (Sum.elim (fun (t : Int × (List Bool)) => (Exit.normal, ⟨mkE 41 0 [(1, dI x1996), (5, .ptr 0 0), (20, dL x1995), (21, dI x2006), (22, dI t.1)], [some (.seq .bool t.2)]⟩)) (Sum.elim (fun (t : Bool) => (Exit.ret, ⟨mkE 41 0 [(4, dB t)], []⟩)) (fun (t : Unit) => ((Exit.exit 0), ⟨mkE 41 0 [], []⟩)))) := .of fun K h => by
  simp only [impl_OrderOk_n3, wpW] at h
  exact .of (by kernel_rfl) h

def impl_OrderOk_n4_l (x1996 : Int) (x1995 : List Int) (x2006 : Int) := (link_loop (mk := fun (s : Int × (List Bool)) => ⟨mkE 41 0 [(1, dI x1996), (5, .ptr 0 0), (20, dL x1995), (21, dI x2006), (22, dI s.1)], [some (.seq .bool s.2)]⟩) (fin := (Sum.elim (fun (t : Bool) => (Exit.ret, ⟨mkE 41 0 [(4, dB t)], []⟩)) (fun (t : Unit) => ((Exit.exit 0), ⟨mkE 41 0 [], []⟩)))) (by
  rintro (t | t) f K h
  · exact h
  · exact h) (fun s => link_map (impl_OrderOk_n3_l x1996 x1995 x2006 s.1 s.2) (Sum.elim (fun (t : Int × (List Bool)) => Sum.inl (t.1, t.2)) (Sum.elim (fun (t : Bool) => Sum.inr (Sum.inl t)) (fun (t : Unit) => Sum.inr (Sum.inr t)))) (by
  rintro (t | t | t)
  · kernel_rfl
  · kernel_rfl
  · kernel_rfl)) (0, (List.replicate 9 false)))

def impl_OrderOk_n5_l (x1996 : Int) (x1995 : List Int) (x2006 : Int) := (link_block (fin2 := (Sum.elim (fun (t : Unit) => (Exit.normal, ⟨mkE 41 0 [], []⟩)) (fun (t : Bool) => (Exit.ret, ⟨mkE 41 0 [(4, dB t)], []⟩)))) (id := 0) (impl_OrderOk_n4_l x1996 x1995 x2006) (Sum.elim (fun (t : Bool) => (Sum.inr t)) (fun (t : Unit) => (Sum.inl ()))) (by
  rintro (t | t) K h
  · exact Eq.mp (by kernel_rfl) h
  · exact Eq.mp (by kernel_rfl) h))

def impl_OrderOk_n6_l (x1995 : List Int) (x1996 : Int) := (link_seq (impl_OrderOk_n2_l x1995 x1996) (fun (t : Int) => (impl_OrderOk_n5_l x1996 x1995 t)))

theorem impl_OrderOk_n7_l : Link impl_OrderOk_ctx LL (cq [1,1,1,1] (bodyOf Try.f35)) (aq [1,1,1,1] impl_OrderOk_an) ⟨mkE 41 0 [], []⟩ (impl_OrderOk_n7) (fun (t : Bool) => (Exit.ret, ⟨mkE 41 0 [(4, dB t)], []⟩)) := .of fun K h => by
  simp only [impl_OrderOk_n7, wpW] at h
  exact .of (by kernel_rfl) h

def impl_OrderOk_n8_l (x1995 : List Int) (x1996 : Int) := (link_seq2 (impl_OrderOk_n6_l x1995 x1996) (fun (t : Unit) => (impl_OrderOk_n7_l)) (fun (t : Bool) => t) (by
  rintro t
  · kernel_rfl) (by
  rintro t f K h
  · exact h))

def impl_OrderOk_n9_l (x1995 : List Int) (x1996 : Int) := (link_group (c := (cq [0,1,1] (bodyOf Try.f35))) (a := (aq [0,1,1] impl_OrderOk_an)) [(cq [0] (bodyOf Try.f35)), (cq [0,1] (bodyOf Try.f35))] [(aq [0] impl_OrderOk_an), (aq [0,1] impl_OrderOk_an)] rfl (link_seq2 (impl_OrderOk_n1_l x1995 x1996) (fun (t : Unit) => (impl_OrderOk_n8_l x1995 x1996)) (fun (t : Bool) => t) (by
  rintro t
  · kernel_rfl) (by
  rintro t f K h
  · exact h)))

theorem impl_OrderOk_e (x1995 : List Int) (x1996 : Int) {r : AV} {H' : Heap} (h : (Ans.mk _ (impl_OrderOk x1995 x1996) (fun (t : Bool) => (dB t, [])) [] none).run = some (r, H')) : Awp impl_OrderOk_ctx LL (bodyOf Try.f35) impl_OrderOk_an ⟨mkE 41 0 [(0, dL x1995), (1, dI x1996)], []⟩ (Ret (tlook tys) Try.f35.results.toList r H') :=
  ret_of' (Link.cast (by kernel_rfl) (by kernel_rfl) (impl_OrderOk_n9_l x1995 x1996)) (by unfold impl_OrderOk; kernel_rfl) (by
  intro t
  exact ret_mk [dB t] (by kernel_rfl) (by kernel_rfl) (by kernel_rfl) (by kernel_rfl)) h

def F_impl_OrderOk : Fun := fun avs H =>
  match avs, H with
  | [.dat (.list (.int .i64)) x1995, .dat (.int .i64) x1996], [] => ⟨_, impl_OrderOk x1995 x1996, fun (t : Bool) => (dB t, []), [], none⟩
  | _, _ => Ans.no

theorem impl_OrderOk_sound : Sound Try.prog 35 F_impl_OrderOk := by
  refine fn_sound' (C := impl_OrderOk_ctx) (c := bodyOf Try.f35) (cok_of tys_ok (alln) (alln) (by kernel_rfl)) Try.func35 (by kernel_rfl) LL impl_OrderOk_an ?_
  intro avs H r H' h
  unfold F_impl_OrderOk at h
  split at h
  · refine Awp.cast ?_ ?_ ?_ (impl_OrderOk_e _ _ h) <;> kernel_rfl
  · simp [Ans.no, Ans.run] at h


/-! loop.example/headtrees/impl.placesIn -/

def impl_placesIn_an : Ann := (.seq (.leaf [0]) (.seq (.leaf [0, 3]) (.seq (.seq (.leaf [3, 10, 11, 12]) (.block (.loop (.seq (.leaf [3, 10, 11, 12, 13]) (.seq (.cond (.leaf [3, 10, 11, 12]) (.leaf [3])) (.seq (.block (.seq (.leaf [3, 4, 5, 10, 11, 12]) (.leaf [3, 10, 11, 12]))) (.leaf [3, 10, 11, 12]))))))) (.seq (.leaf [2]) (.leaf [2])))))

noncomputable def impl_placesIn_ctx : Ctx := ⟨tlook tys, olook [], ioF, 0, false, []⟩

theorem impl_placesIn_n1_l (x2063 : List Int) : Link impl_placesIn_ctx LL (Code.seq (cq [0] (bodyOf Try.f36)) (cq [0,1] (bodyOf Try.f36))) (Ann.seq (aq [0] impl_placesIn_an) (aq [0,1] impl_placesIn_an)) ⟨mkE 24 0 [(0, dL x2063)], []⟩ (impl_placesIn_n1 x2063) (fun (t : (List Int)) => (Exit.normal, ⟨mkE 24 0 [(0, dL x2063), (3, .slc 0)], [some (sI t)]⟩)) := .of fun K h => by
  simp only [impl_placesIn_n1, wpW] at h
  exact .of (by kernel_rfl) h

theorem impl_placesIn_n2_l (x2063 : List Int) (x2067 : List Int) : Link impl_placesIn_ctx LL (cq [0,0,1,1] (bodyOf Try.f36)) (aq [0,0,1,1] impl_placesIn_an) ⟨mkE 24 0 [(0, dL x2063), (3, .slc 0)], [some (sI x2067)]⟩ (impl_placesIn_n2 x2063) (fun (t : Int) => (Exit.normal, ⟨mkE 24 0 [(3, .slc 0), (10, dL x2063), (11, dI t), (12, dI 0)], [some (sI x2067)]⟩)) := .of fun K h => by
  simp only [impl_placesIn_n2, wpW] at h
  exact .of (by kernel_rfl) h

theorem impl_placesIn_n3_l (x2063 : List Int) (x2068 : Int) (x2082 : Int) (x2083 : List Int) : Link impl_placesIn_ctx LL (cq [0,0,1,0,1,1] (bodyOf Try.f36)) (aq [0,0,1,0,1,1] impl_placesIn_an) ⟨mkE 24 0 [(3, .slc 0), (10, dL x2063), (11, dI x2068), (12, dI x2082)], [some (sI x2083)]⟩ (impl_placesIn_n3 x2063 x2068 x2082 x2083) (Sum.elim (fun (t : Int × (List Int)) => (Exit.normal, ⟨mkE 24 0 [(3, .slc 0), (10, dL x2063), (11, dI x2068), (12, dI t.1)], [some (sI t.2)]⟩)) (fun (t : (List Int)) => ((Exit.exit 0), ⟨mkE 24 0 [(3, .slc 0)], [some (sI t)]⟩))) := .of fun K h => by
  simp only [impl_placesIn_n3, wpW] at h
  exact .of (by kernel_rfl) h

def impl_placesIn_n4_l (x2063 : List Int) (x2068 : Int) (x2067 : List Int) := (link_loop (mk := fun (s : Int × (List Int)) => ⟨mkE 24 0 [(3, .slc 0), (10, dL x2063), (11, dI x2068), (12, dI s.1)], [some (sI s.2)]⟩) (fin := (fun (t : (List Int)) => ((Exit.exit 0), ⟨mkE 24 0 [(3, .slc 0)], [some (sI t)]⟩))) (by
  rintro t f K h
  · exact h) (fun s => link_map (impl_placesIn_n3_l x2063 x2068 s.1 s.2) (Sum.elim (fun (t : Int × (List Int)) => Sum.inl (t.1, t.2)) (fun (t : (List Int)) => Sum.inr t)) (by
  rintro (t | t)
  · kernel_rfl
  · kernel_rfl)) (0, x2067))

def impl_placesIn_n5_l (x2063 : List Int) (x2068 : Int) (x2067 : List Int) := (link_block (fin2 := (fun (t : (List Int)) => (Exit.normal, ⟨mkE 24 0 [(3, .slc 0)], [some (sI t)]⟩))) (id := 0) (impl_placesIn_n4_l x2063 x2068 x2067) (fun (t : (List Int)) => t) (by
  rintro t K h
  · exact Eq.mp (by kernel_rfl) h))

def impl_placesIn_n6_l (x2063 : List Int) (x2067 : List Int) := (link_seq (impl_placesIn_n2_l x2063 x2067) (fun (t : Int) => (impl_placesIn_n5_l x2063 t x2067)))

theorem impl_placesIn_n7_l (x2083 : List Int) : Link impl_placesIn_ctx LL (cq [1,1,1] (bodyOf Try.f36)) (aq [1,1,1] impl_placesIn_an) ⟨mkE 24 0 [(3, .slc 0)], [some (sI x2083)]⟩ (impl_placesIn_n7 x2083) (fun (t : (List Int)) => (Exit.ret, ⟨mkE 24 0 [(2, .slc 0)], [some (sI t)]⟩)) := .of fun K h => by
  simp only [impl_placesIn_n7, wpW] at h
  exact .of (by kernel_rfl) h

def impl_placesIn_n8_l (x2063 : List Int) (x2067 : List Int) := (link_seq (impl_placesIn_n6_l x2063 x2067) (fun (t : (List Int)) => (impl_placesIn_n7_l t)))

def impl_placesIn_n9_l (x2063 : List Int) := (link_group (c := (cq [0,1] (bodyOf Try.f36))) (a := (aq [0,1] impl_placesIn_an)) [(cq [0] (bodyOf Try.f36))] [(aq [0] impl_placesIn_an)] rfl (link_seq (impl_placesIn_n1_l x2063) (fun (t : (List Int)) => (impl_placesIn_n8_l x2063 t))))

theorem impl_placesIn_e (x2063 : List Int) {r : AV} {H' : Heap} (h : (Ans.mk _ (impl_placesIn x2063) (fun (t : (List Int)) => (.slc 0, [some (sI t)])) [] none).run = some (r, H')) : Awp impl_placesIn_ctx LL (bodyOf Try.f36) impl_placesIn_an ⟨mkE 24 0 [(0, dL x2063)], []⟩ (Ret (tlook tys) Try.f36.results.toList r H') :=
  ret_of' (Link.cast (by kernel_rfl) (by kernel_rfl) (impl_placesIn_n9_l x2063)) (by unfold impl_placesIn; kernel_rfl) (by
  intro t
  exact ret_mk [.slc 0] (by kernel_rfl) (by kernel_rfl) (by kernel_rfl) (by kernel_rfl)) h

def F_impl_placesIn : Fun := fun avs H =>
  match avs, H with
  | [.dat (.list (.int .i64)) x2063], [] => ⟨_, impl_placesIn x2063, fun (t : (List Int)) => (.slc 0, [some (sI t)]), [], none⟩
  | _, _ => Ans.no

theorem impl_placesIn_sound : Sound Try.prog 36 F_impl_placesIn := by
  refine fn_sound' (C := impl_placesIn_ctx) (c := bodyOf Try.f36) (cok_of tys_ok (alln) (alln) (by kernel_rfl)) Try.func36 (by kernel_rfl) LL impl_placesIn_an ?_
  intro avs H r H' h
  unfold F_impl_placesIn at h
  split at h
  · refine Awp.cast ?_ ?_ ?_ (impl_placesIn_e _ h) <;> kernel_rfl
  · simp [Ans.no, Ans.run] at h


/-! loop.example/headtrees/impl.PutInOrder$1 -/

def impl_PutInOrder_1_an : Ann := (.seq (.leaf [0, 1]) (.seq (.leaf [3]) (.leaf [3])))

noncomputable def impl_PutInOrder_1_ctx : Ctx := ⟨tlook tys, olook [], ioF, 2, false, []⟩

theorem impl_PutInOrder_1_n1_l (x2117 : Int) (x2118 : List Int) : Link impl_PutInOrder_1_ctx LL (bodyOf Try.f38) impl_PutInOrder_1_an ⟨mkE 8 0 [(0, dI x2117), (1, .ptr 0 0)], [some (.box [.slc 1]), some (sI x2118)]⟩ (impl_PutInOrder_1_n1 x2117 x2118) (fun (t : Int) => (Exit.ret, ⟨mkE 8 0 [(3, dI t)], [some (.box [.slc 1]), some (sI x2118)]⟩)) := .of fun K h => by
  simp only [impl_PutInOrder_1_n1, wpW] at h
  exact .of (by kernel_rfl) h

theorem impl_PutInOrder_1_e (x2117 : Int) (x2118 : List Int) {r : AV} {H' : Heap} (h : (Ans.mk _ (impl_PutInOrder_1 x2117 x2118) (fun (t : Int) => (dI t, [some (.box [.slc 1]), some (sI x2118)])) [] none).run = some (r, H')) : Awp impl_PutInOrder_1_ctx LL (bodyOf Try.f38) impl_PutInOrder_1_an ⟨mkE 8 0 [(0, dI x2117), (1, .ptr 0 0)], [some (.box [.slc 1]), some (sI x2118)]⟩ (Ret (tlook tys) Try.f38.results.toList r H') :=
  ret_of' (impl_PutInOrder_1_n1_l x2117 x2118) (by unfold impl_PutInOrder_1; kernel_rfl) (by
  intro t
  exact ret_mk [dI t] (by kernel_rfl) (by kernel_rfl) (by kernel_rfl) (by kernel_rfl)) h

def F_impl_PutInOrder_1 : Fun := fun avs H =>
  match avs, H with
  | [.dat (.int .i64) x2117, .ptr 0 0], [some (.box [.slc 1]), some (.seq (.int .i64) x2118)] => ⟨_, impl_PutInOrder_1 x2117 x2118, fun (t : Int) => (dI t, [some (.box [.slc 1]), some (sI x2118)]), [], none⟩
  | _, _ => Ans.no

theorem impl_PutInOrder_1_sound : Sound Try.prog 38 F_impl_PutInOrder_1 := by
  refine fn_sound' (C := impl_PutInOrder_1_ctx) (c := bodyOf Try.f38) (cok_of tys_ok (alln) (alln) (by kernel_rfl)) Try.func38 (by kernel_rfl) LL impl_PutInOrder_1_an ?_
  intro avs H r H' h
  unfold F_impl_PutInOrder_1 at h
  split at h
  · refine Awp.cast ?_ ?_ ?_ (impl_PutInOrder_1_e _ _ h) <;> kernel_rfl
  · simp [Ans.no, Ans.run] at h


/-! loop.example/headtrees/impl.renamed[int] -/

def impl_renamed_int_an : Ann := (.seq (.leaf [0, 1, 2]) (.seq (.leaf [0, 1, 2, 7]) (.seq (.seq (.leaf [0, 2, 7, 13, 14, 15]) (.block (.loop (.seq (.leaf [0, 2, 7, 13, 14, 15, 16]) (.seq (.cond (.leaf [0, 2, 7, 13, 14, 15]) (.leaf [7])) (.seq (.block (.seq (.leaf [0, 2, 7, 8, 9, 13, 14, 15]) (.leaf [0, 2, 7, 13, 14, 15]))) (.leaf [0, 2, 7, 13, 14, 15]))))))) (.seq (.leaf [6]) (.leaf [6])))))

noncomputable def impl_renamed_int_ctx : Ctx := ⟨tlook tys, olook [(38, F_impl_PutInOrder_1)], ioF, 2, false, []⟩

theorem impl_renamed_int_n1_l (x2104 : List Int) (x2105 : List Int) (x2106 : List Int) : Link impl_renamed_int_ctx LL (Code.seq (cq [0] (bodyOf Try.f37)) (cq [0,1] (bodyOf Try.f37))) (Ann.seq (aq [0] impl_renamed_int_an) (aq [0,1] impl_renamed_int_an)) ⟨mkE 32 0 [(0, dL x2104), (1, dL x2105), (2, .fn 38 [] [.ptr 0 0])], [some (.box [.slc 1]), some (sI x2106)]⟩ (impl_renamed_int_n1 x2105) (fun (t : (List Int)) => (Exit.normal, ⟨mkE 32 0 [(0, dL x2104), (1, dL x2105), (2, .fn 38 [] [.ptr 0 0]), (7, .slc 2)], [some (.box [.slc 1]), some (sI x2106), some (sI t)]⟩)) := .of fun K h => by
  simp only [impl_renamed_int_n1, wpW] at h
  exact .of (by kernel_rfl) h

theorem impl_renamed_int_n2_l (x2104 : List Int) (x2105 : List Int) (x2106 : List Int) (x2109 : List Int) : Link impl_renamed_int_ctx LL (cq [0,0,1,1] (bodyOf Try.f37)) (aq [0,0,1,1] impl_renamed_int_an) ⟨mkE 32 0 [(0, dL x2104), (1, dL x2105), (2, .fn 38 [] [.ptr 0 0]), (7, .slc 2)], [some (.box [.slc 1]), some (sI x2106), some (sI x2109)]⟩ (impl_renamed_int_n2 x2105) (fun (t : Int) => (Exit.normal, ⟨mkE 32 0 [(0, dL x2104), (2, .fn 38 [] [.ptr 0 0]), (7, .slc 2), (13, dL x2105), (14, dI t), (15, dI 0)], [some (.box [.slc 1]), some (sI x2106), some (sI x2109)]⟩)) := .of fun K h => by
  simp only [impl_renamed_int_n2, wpW] at h
  exact .of (by kernel_rfl) h

theorem impl_renamed_int_n3_l (x2104 : List Int) (x2105 : List Int) (x2110 : Int) (x2134 : Int) (x2106 : List Int) (x2135 : List Int) : Link impl_renamed_int_ctx LL (cq [0,0,1,0,1,1] (bodyOf Try.f37)) (aq [0,0,1,0,1,1] impl_renamed_int_an) ⟨mkE 32 0 [(0, dL x2104), (2, .fn 38 [] [.ptr 0 0]), (7, .slc 2), (13, dL x2105), (14, dI x2110), (15, dI x2134)], [some (.box [.slc 1]), some (sI x2106), some (sI x2135)]⟩ (impl_renamed_int_n3 x2104 x2105 x2110 x2134 x2106 x2135) (Sum.elim (fun (t : Int × (List Int)) => (Exit.normal, ⟨mkE 32 0 [(0, dL x2104), (2, .fn 38 [] [.ptr 0 0]), (7, .slc 2), (13, dL x2105), (14, dI x2110), (15, dI t.1)], [some (.box [.slc 1]), some (sI x2106), some (sI t.2)]⟩)) (fun (t : (List Int)) => ((Exit.exit 0), ⟨mkE 32 0 [(7, .slc 2)], [some (.box [.slc 1]), some (sI x2106), some (sI t)]⟩))) := .of fun K h => by
  simp only [impl_renamed_int_n3, wpW] at h
  exact .of (by kernel_rfl) h

def impl_renamed_int_n4_l (x2104 : List Int) (x2105 : List Int) (x2110 : Int) (x2106 : List Int) (x2109 : List Int) := (link_loop (mk := fun (s : Int × (List Int)) => ⟨mkE 32 0 [(0, dL x2104), (2, .fn 38 [] [.ptr 0 0]), (7, .slc 2), (13, dL x2105), (14, dI x2110), (15, dI s.1)], [some (.box [.slc 1]), some (sI x2106), some (sI s.2)]⟩) (fin := (fun (t : (List Int)) => ((Exit.exit 0), ⟨mkE 32 0 [(7, .slc 2)], [some (.box [.slc 1]), some (sI x2106), some (sI t)]⟩))) (by
  rintro t f K h
  · exact h) (fun s => link_map (impl_renamed_int_n3_l x2104 x2105 x2110 s.1 x2106 s.2) (Sum.elim (fun (t : Int × (List Int)) => Sum.inl (t.1, t.2)) (fun (t : (List Int)) => Sum.inr t)) (by
  rintro (t | t)
  · kernel_rfl
  · kernel_rfl)) (0, x2109))

def impl_renamed_int_n5_l (x2104 : List Int) (x2105 : List Int) (x2110 : Int) (x2106 : List Int) (x2109 : List Int) := (link_block (fin2 := (fun (t : (List Int)) => (Exit.normal, ⟨mkE 32 0 [(7, .slc 2)], [some (.box [.slc 1]), some (sI x2106), some (sI t)]⟩))) (id := 0) (impl_renamed_int_n4_l x2104 x2105 x2110 x2106 x2109) (fun (t : (List Int)) => t) (by
  rintro t K h
  · exact Eq.mp (by kernel_rfl) h))

def impl_renamed_int_n6_l (x2104 : List Int) (x2105 : List Int) (x2106 : List Int) (x2109 : List Int) := (link_seq (impl_renamed_int_n2_l x2104 x2105 x2106 x2109) (fun (t : Int) => (impl_renamed_int_n5_l x2104 x2105 t x2106 x2109)))

theorem impl_renamed_int_n7_l (x2106 : List Int) (x2135 : List Int) : Link impl_renamed_int_ctx LL (cq [1,1,1] (bodyOf Try.f37)) (aq [1,1,1] impl_renamed_int_an) ⟨mkE 32 0 [(7, .slc 2)], [some (.box [.slc 1]), some (sI x2106), some (sI x2135)]⟩ (impl_renamed_int_n7 x2135) (fun (t : (List Int)) => (Exit.ret, ⟨mkE 32 0 [(6, .slc 2)], [some (.box [.slc 1]), some (sI x2106), some (sI t)]⟩)) := .of fun K h => by
  simp only [impl_renamed_int_n7, wpW] at h
  exact .of (by kernel_rfl) h

def impl_renamed_int_n8_l (x2104 : List Int) (x2105 : List Int) (x2106 : List Int) (x2109 : List Int) := (link_seq (impl_renamed_int_n6_l x2104 x2105 x2106 x2109) (fun (t : (List Int)) => (impl_renamed_int_n7_l x2106 t)))

def impl_renamed_int_n9_l (x2104 : List Int) (x2105 : List Int) (x2106 : List Int) := (link_group (c := (cq [0,1] (bodyOf Try.f37))) (a := (aq [0,1] impl_renamed_int_an)) [(cq [0] (bodyOf Try.f37))] [(aq [0] impl_renamed_int_an)] rfl (link_seq (impl_renamed_int_n1_l x2104 x2105 x2106) (fun (t : (List Int)) => (impl_renamed_int_n8_l x2104 x2105 x2106 t))))

theorem impl_renamed_int_e (x2104 : List Int) (x2105 : List Int) (x2106 : List Int) {r : AV} {H' : Heap} (h : (Ans.mk _ (impl_renamed_int x2104 x2105 x2106) (fun (t : (List Int)) => (.slc 2, [some (.box [.slc 1]), some (sI x2106), some (sI t)])) [] none).run = some (r, H')) : Awp impl_renamed_int_ctx LL (bodyOf Try.f37) impl_renamed_int_an ⟨mkE 32 0 [(0, dL x2104), (1, dL x2105), (2, .fn 38 [] [.ptr 0 0])], [some (.box [.slc 1]), some (sI x2106)]⟩ (Ret (tlook tys) Try.f37.results.toList r H') :=
  ret_of' (Link.cast (by kernel_rfl) (by kernel_rfl) (impl_renamed_int_n9_l x2104 x2105 x2106)) (by unfold impl_renamed_int; kernel_rfl) (by
  intro t
  exact ret_mk [.slc 2] (by kernel_rfl) (by kernel_rfl) (by kernel_rfl) (by kernel_rfl)) h

def F_impl_renamed_int : Fun := fun avs H =>
  match avs, H with
  | [.dat (.list (.int .i64)) x2104, .dat (.list (.int .i64)) x2105, .fn 38 [] [.ptr 0 0]], [some (.box [.slc 1]), some (.seq (.int .i64) x2106)] => ⟨_, impl_renamed_int x2104 x2105 x2106, fun (t : (List Int)) => (.slc 2, [some (.box [.slc 1]), some (sI x2106), some (sI t)]), [], none⟩
  | _, _ => Ans.no

theorem impl_renamed_int_sound : Sound Try.prog 37 F_impl_renamed_int := by
  refine fn_sound' (C := impl_renamed_int_ctx) (c := bodyOf Try.f37) (cok_of tys_ok (allc impl_PutInOrder_1_sound alln) (allc Try.call38 alln) (by kernel_rfl)) Try.func37 (by kernel_rfl) LL impl_renamed_int_an ?_
  intro avs H r H' h
  unfold F_impl_renamed_int at h
  split at h
  · refine Awp.cast ?_ ?_ ?_ (impl_renamed_int_e _ _ _ h) <;> kernel_rfl
  · simp [Ans.no, Ans.run] at h


/-! loop.example/headtrees/impl.PutInOrder -/

def impl_PutInOrder_an : Ann := (.seq (.leaf [0, 1]) (.seq (.seq (.leaf [0, 1, 16]) (.cond (.seq (.leaf [4, 5]) (.leaf [4, 5])) (.leaf [0, 1]))) (.seq (.leaf [0, 1, 6]) (.seq (.leaf [4, 5]) (.leaf [4, 5])))))

noncomputable def impl_PutInOrder_ctx : Ctx := ⟨tlook tys, olook [(12, F_impl_TreeOk), (35, F_impl_OrderOk), (36, F_impl_placesIn), (37, F_impl_renamed_int)], ioF, 0, false, []⟩

theorem impl_PutInOrder_n1_l (x1990 : List Int) (x1991 : List Int) : Link impl_PutInOrder_ctx LL (bodyOf Try.f20) impl_PutInOrder_an ⟨mkE 23 0 [(0, dL x1990), (1, dL x1991)], []⟩ (impl_PutInOrder_n1 x1990 x1991) (fun (t : Bool × (List Int)) => (Exit.ret, ⟨mkE 23 0 [(4, .slc 0), (5, dB t.1)], [some (sI t.2)]⟩)) := .of fun K h => by
  simp only [impl_PutInOrder_n1, wpW] at h
  exact .of (by kernel_rfl) h

theorem impl_PutInOrder_e (x1990 : List Int) (x1991 : List Int) {r : AV} {H' : Heap} (h : (Ans.mk _ (impl_PutInOrder x1990 x1991) (fun (t : Bool × (List Int)) => (.tup [.slc 0, dB t.1], [some (sI t.2)])) [] none).run = some (r, H')) : Awp impl_PutInOrder_ctx LL (bodyOf Try.f20) impl_PutInOrder_an ⟨mkE 23 0 [(0, dL x1990), (1, dL x1991)], []⟩ (Ret (tlook tys) Try.f20.results.toList r H') :=
  ret_of' (impl_PutInOrder_n1_l x1990 x1991) (by unfold impl_PutInOrder; kernel_rfl) (by
  intro t
  exact ret_mk [.slc 0, dB t.1] (by kernel_rfl) (by kernel_rfl) (by kernel_rfl) (by kernel_rfl)) h

def F_impl_PutInOrder : Fun := fun avs H =>
  match avs, H with
  | [.dat (.list (.int .i64)) x1990, .dat (.list (.int .i64)) x1991], [] => ⟨_, impl_PutInOrder x1990 x1991, fun (t : Bool × (List Int)) => (.tup [.slc 0, dB t.1], [some (sI t.2)]), [], none⟩
  | _, _ => Ans.no

theorem impl_PutInOrder_sound : Sound Try.prog 20 F_impl_PutInOrder := by
  refine fn_sound' (C := impl_PutInOrder_ctx) (c := bodyOf Try.f20) (cok_of tys_ok (allc impl_TreeOk_sound (allc impl_OrderOk_sound (allc impl_placesIn_sound (allc impl_renamed_int_sound alln)))) (allc Try.call12 (allc Try.call35 (allc Try.call36 (allc Try.call37 alln)))) (by kernel_rfl)) Try.func20 (by kernel_rfl) LL impl_PutInOrder_an ?_
  intro avs H r H' h
  unfold F_impl_PutInOrder at h
  split at h
  · refine Awp.cast ?_ ?_ ?_ (impl_PutInOrder_e _ _ h) <;> kernel_rfl
  · simp [Ans.no, Ans.run] at h


/-! loop.example/headtrees/spec.DrawLengthsSum -/

def spec_DrawLengthsSum_an : Ann := (.seq (.leaf [0]) (.seq (.leaf [2]) (.leaf [2])))

noncomputable def spec_DrawLengthsSum_ctx : Ctx := ⟨tlook tys, olook [(25, F_spec_l20Open), (32, F_spec_l20Rd_pick)], ioF, 0, false, []⟩

theorem spec_DrawLengthsSum_n1_l (x2320 : List Int) : Link spec_DrawLengthsSum_ctx LL (bodyOf Try.f17) spec_DrawLengthsSum_an ⟨mkE 7 0 [(0, dV x2320)], []⟩ (spec_DrawLengthsSum_n1 x2320) (fun (t : Int) => (Exit.ret, ⟨mkE 7 0 [(2, dI t)], []⟩)) := .of fun K h => by
  simp only [spec_DrawLengthsSum_n1, wpW] at h
  exact .of (by kernel_rfl) h

theorem spec_DrawLengthsSum_e (x2320 : List Int) {r : AV} {H' : Heap} (h : (Ans.mk _ (spec_DrawLengthsSum x2320) (fun (t : Int) => (dI t, [])) [] none).run = some (r, H')) : Awp spec_DrawLengthsSum_ctx LL (bodyOf Try.f17) spec_DrawLengthsSum_an ⟨mkE 7 0 [(0, dV x2320)], []⟩ (Ret (tlook tys) Try.f17.results.toList r H') :=
  ret_of' (spec_DrawLengthsSum_n1_l x2320) (by unfold spec_DrawLengthsSum; kernel_rfl) (by
  intro t
  exact ret_mk [dI t] (by kernel_rfl) (by kernel_rfl) (by kernel_rfl) (by kernel_rfl)) h

def F_spec_DrawLengthsSum : Fun := fun avs H =>
  match avs, H with
  | [.dat (.list (.int .u8)) x2320], [] => ⟨_, spec_DrawLengthsSum x2320, fun (t : Int) => (dI t, []), [], none⟩
  | _, _ => Ans.no

theorem spec_DrawLengthsSum_sound : Sound Try.prog 17 F_spec_DrawLengthsSum := by
  refine fn_sound' (C := spec_DrawLengthsSum_ctx) (c := bodyOf Try.f17) (cok_of tys_ok (allc spec_l20Open_sound (allc spec_l20Rd_pick_sound alln)) (allc Try.call25 (allc Try.call32 alln)) (by kernel_rfl)) Try.func17 (by kernel_rfl) LL spec_DrawLengthsSum_an ?_
  intro avs H r H' h
  unfold F_spec_DrawLengthsSum at h
  split at h
  · refine Awp.cast ?_ ?_ ?_ (spec_DrawLengthsSum_e _ h) <;> kernel_rfl
  · simp [Ans.no, Ans.run] at h


/-! loop.example/headtrees/impl.countOrders -/

def impl_countOrders_an : Ann := (.seq (.leaf [0]) (.seq (.leaf [0, 3]) (.seq (.seq (.leaf [0, 3, 4]) (.block (.loop (.seq (.seq (.leaf [0, 3, 4, 7]) (.cond (.leaf [0, 3, 4]) (.leaf [3]))) (.seq (.block (.leaf [0, 3, 4])) (.leaf [0, 3, 4])))))) (.seq (.leaf [2]) (.leaf [2])))))

noncomputable def impl_countOrders_ctx : Ctx := ⟨tlook tys, olook [], ioF, 0, false, []⟩

theorem impl_countOrders_n1_l (x2341 : Int) : Link impl_countOrders_ctx LL (Code.seq (cq [0] (bodyOf Try.f33)) (cq [0,1] (bodyOf Try.f33))) (Ann.seq (aq [0] impl_countOrders_an) (aq [0,1] impl_countOrders_an)) ⟨mkE 14 0 [(0, dI x2341)], []⟩ (impl_countOrders_n1) (fun (t : Unit) => (Exit.normal, ⟨mkE 14 0 [(0, dI x2341), (3, dI 1)], []⟩)) := .of fun K h => by
  simp only [impl_countOrders_n1, wpW] at h
  exact .of (by kernel_rfl) h

theorem impl_countOrders_n2_l (x2341 : Int) : Link impl_countOrders_ctx LL (cq [0,0,1,1] (bodyOf Try.f33)) (aq [0,0,1,1] impl_countOrders_an) ⟨mkE 14 0 [(0, dI x2341), (3, dI 1)], []⟩ (impl_countOrders_n2) (fun (t : Unit) => (Exit.normal, ⟨mkE 14 0 [(0, dI x2341), (3, dI 1), (4, dI 2)], []⟩)) := .of fun K h => by
  simp only [impl_countOrders_n2, wpW] at h
  exact .of (by kernel_rfl) h

theorem impl_countOrders_n3_l (x2341 : Int) (x2348 : Int) (x2349 : Int) : Link impl_countOrders_ctx LL (cq [0,0,1,0,1,1] (bodyOf Try.f33)) (aq [0,0,1,0,1,1] impl_countOrders_an) ⟨mkE 14 0 [(0, dI x2341), (3, dI x2348), (4, dI x2349)], []⟩ (impl_countOrders_n3 x2341 x2348 x2349) (Sum.elim (fun (t : Int × Int) => (Exit.normal, ⟨mkE 14 0 [(0, dI x2341), (3, dI t.1), (4, dI t.2)], []⟩)) (fun (t : Int) => ((Exit.exit 0), ⟨mkE 14 0 [(3, dI t)], []⟩))) := .of fun K h => by
  simp only [impl_countOrders_n3, wpW] at h
  exact .of (by kernel_rfl) h

def impl_countOrders_n4_l (x2341 : Int) := (link_loop (mk := fun (s : Int × Int) => ⟨mkE 14 0 [(0, dI x2341), (3, dI s.1), (4, dI s.2)], []⟩) (fin := (fun (t : Int) => ((Exit.exit 0), ⟨mkE 14 0 [(3, dI t)], []⟩))) (by
  rintro t f K h
  · exact h) (fun s => link_map (impl_countOrders_n3_l x2341 s.1 s.2) (Sum.elim (fun (t : Int × Int) => Sum.inl (t.1, t.2)) (fun (t : Int) => Sum.inr t)) (by
  rintro (t | t)
  · kernel_rfl
  · kernel_rfl)) (1, 2))

def impl_countOrders_n5_l (x2341 : Int) := (link_block (fin2 := (fun (t : Int) => (Exit.normal, ⟨mkE 14 0 [(3, dI t)], []⟩))) (id := 0) (impl_countOrders_n4_l x2341) (fun (t : Int) => t) (by
  rintro t K h
  · exact Eq.mp (by kernel_rfl) h))

def impl_countOrders_n6_l (x2341 : Int) := (link_seq (impl_countOrders_n2_l x2341) (fun (t : Unit) => (impl_countOrders_n5_l x2341)))

theorem impl_countOrders_n7_l (x2348 : Int) : Link impl_countOrders_ctx LL (cq [1,1,1] (bodyOf Try.f33)) (aq [1,1,1] impl_countOrders_an) ⟨mkE 14 0 [(3, dI x2348)], []⟩ (impl_countOrders_n7 x2348) (fun (t : Int) => (Exit.ret, ⟨mkE 14 0 [(2, dI t)], []⟩)) := .of fun K h => by
  simp only [impl_countOrders_n7, wpW] at h
  exact .of (by kernel_rfl) h

def impl_countOrders_n8_l (x2341 : Int) := (link_seq (impl_countOrders_n6_l x2341) (fun (t : Int) => (impl_countOrders_n7_l t)))

def impl_countOrders_n9_l (x2341 : Int) := (link_group (c := (cq [0,1] (bodyOf Try.f33))) (a := (aq [0,1] impl_countOrders_an)) [(cq [0] (bodyOf Try.f33))] [(aq [0] impl_countOrders_an)] rfl (link_seq (impl_countOrders_n1_l x2341) (fun (t : Unit) => (impl_countOrders_n8_l x2341))))

theorem impl_countOrders_e (x2341 : Int) {r : AV} {H' : Heap} (h : (Ans.mk _ (impl_countOrders x2341) (fun (t : Int) => (dI t, [])) [] none).run = some (r, H')) : Awp impl_countOrders_ctx LL (bodyOf Try.f33) impl_countOrders_an ⟨mkE 14 0 [(0, dI x2341)], []⟩ (Ret (tlook tys) Try.f33.results.toList r H') :=
  ret_of' (Link.cast (by kernel_rfl) (by kernel_rfl) (impl_countOrders_n9_l x2341)) (by unfold impl_countOrders; kernel_rfl) (by
  intro t
  exact ret_mk [dI t] (by kernel_rfl) (by kernel_rfl) (by kernel_rfl) (by kernel_rfl)) h

def F_impl_countOrders : Fun := fun avs H =>
  match avs, H with
  | [.dat (.int .i64) x2341], [] => ⟨_, impl_countOrders x2341, fun (t : Int) => (dI t, []), [], none⟩
  | _, _ => Ans.no

theorem impl_countOrders_sound : Sound Try.prog 33 F_impl_countOrders := by
  refine fn_sound' (C := impl_countOrders_ctx) (c := bodyOf Try.f33) (cok_of tys_ok (alln) (alln) (by kernel_rfl)) Try.func33 (by kernel_rfl) LL impl_countOrders_an ?_
  intro avs H r H' h
  unfold F_impl_countOrders at h
  split at h
  · refine Awp.cast ?_ ?_ ?_ (impl_countOrders_e _ h) <;> kernel_rfl
  · simp [Ans.no, Ans.run] at h


/-! loop.example/headtrees/impl.LengthsSum -/

def impl_LengthsSum_an : Ann := (.seq (.leaf [0]) (.seq (.seq (.leaf [0, 8]) (.cond (.seq (.leaf [2]) (.leaf [2])) (.leaf [0]))) (.seq (.leaf [2]) (.leaf [2]))))

noncomputable def impl_LengthsSum_ctx : Ctx := ⟨tlook tys, olook [(33, F_impl_countOrders)], ioF, 0, false, []⟩

theorem impl_LengthsSum_n1_l (x2336 : Int) : Link impl_LengthsSum_ctx LL (bodyOf Try.f18) impl_LengthsSum_an ⟨mkE 18 0 [(0, dI x2336)], []⟩ (impl_LengthsSum_n1 x2336) (fun (t : Int) => (Exit.ret, ⟨mkE 18 0 [(2, dI t)], []⟩)) := .of fun K h => by
  simp only [impl_LengthsSum_n1, wpW] at h
  exact .of (by kernel_rfl) h

theorem impl_LengthsSum_e (x2336 : Int) {r : AV} {H' : Heap} (h : (Ans.mk _ (impl_LengthsSum x2336) (fun (t : Int) => (dI t, [])) [] none).run = some (r, H')) : Awp impl_LengthsSum_ctx LL (bodyOf Try.f18) impl_LengthsSum_an ⟨mkE 18 0 [(0, dI x2336)], []⟩ (Ret (tlook tys) Try.f18.results.toList r H') :=
  ret_of' (impl_LengthsSum_n1_l x2336) (by unfold impl_LengthsSum; kernel_rfl) (by
  intro t
  exact ret_mk [dI t] (by kernel_rfl) (by kernel_rfl) (by kernel_rfl) (by kernel_rfl)) h

def F_impl_LengthsSum : Fun := fun avs H =>
  match avs, H with
  | [.dat (.int .i64) x2336], [] => ⟨_, impl_LengthsSum x2336, fun (t : Int) => (dI t, []), [], none⟩
  | _, _ => Ans.no

theorem impl_LengthsSum_sound : Sound Try.prog 18 F_impl_LengthsSum := by
  refine fn_sound' (C := impl_LengthsSum_ctx) (c := bodyOf Try.f18) (cok_of tys_ok (allc impl_countOrders_sound alln) (allc Try.call33 alln) (by kernel_rfl)) Try.func18 (by kernel_rfl) LL impl_LengthsSum_an ?_
  intro avs H r H' h
  unfold F_impl_LengthsSum at h
  split at h
  · refine Awp.cast ?_ ?_ ?_ (impl_LengthsSum_e _ h) <;> kernel_rfl
  · simp [Ans.no, Ans.run] at h


/-! loop.example/headtrees/spec.LengthsSum -/

def spec_LengthsSum_an : Ann := (.seq (.leaf [0]) (.seq (.seq (.leaf [0, 7]) (.cond (.seq (.leaf [2]) (.leaf [2])) (.leaf [0]))) (.seq (.leaf [0, 3]) (.seq (.seq (.leaf [0, 3, 4]) (.block (.loop (.seq (.seq (.leaf [0, 3, 4, 10]) (.cond (.leaf [0, 3, 4]) (.leaf [0, 3]))) (.seq (.block (.leaf [0, 3, 4])) (.leaf [0, 3, 4])))))) (.seq (.leaf [2]) (.leaf [2]))))))

noncomputable def spec_LengthsSum_ctx : Ctx := ⟨tlook tys, olook [(34, F_spec_l1In)], ioF, 0, false, []⟩

theorem spec_LengthsSum_n1_l (x2376 : Int) : Link spec_LengthsSum_ctx LL (Code.seq (cq [0] (bodyOf Try.f19)) (Code.seq (cq [0,1] (bodyOf Try.f19)) (cq [0,1,1] (bodyOf Try.f19)))) (Ann.seq (aq [0] spec_LengthsSum_an) (Ann.seq (aq [0,1] spec_LengthsSum_an) (aq [0,1,1] spec_LengthsSum_an))) ⟨mkE 24 0 [(0, dI x2376)], []⟩ (spec_LengthsSum_n1 x2376) (Sum.elim (fun (t : Unit) => (Exit.normal, ⟨mkE 24 0 [(0, dI x2376), (3, dI 1)], []⟩)) (fun (t : Int) => (Exit.ret, ⟨mkE 24 0 [(2, dI t)], []⟩))) := .of fun K h => by
  simp only [spec_LengthsSum_n1, wpW] at h
  exact .of (by kernel_rfl) h

theorem spec_LengthsSum_n2_l (x2376 : Int) : Link spec_LengthsSum_ctx LL (cq [0,0,1,1,1] (bodyOf Try.f19)) (aq [0,0,1,1,1] spec_LengthsSum_an) ⟨mkE 24 0 [(0, dI x2376), (3, dI 1)], []⟩ (spec_LengthsSum_n2) (fun (t : Unit) => (Exit.normal, ⟨mkE 24 0 [(0, dI x2376), (3, dI 1), (4, dI 2)], []⟩)) := .of fun K h => by
  simp only [spec_LengthsSum_n2, wpW] at h
  exact .of (by kernel_rfl) h

theorem spec_LengthsSum_n3_l (x2376 : Int) (x2387 : Int) (x2388 : Int) : Link spec_LengthsSum_ctx LL (cq [0,0,1,0,1,1,1] (bodyOf Try.f19)) (aq [0,0,1,0,1,1,1] spec_LengthsSum_an) ⟨mkE 24 0 [(0, dI x2376), (3, dI x2387), (4, dI x2388)], []⟩ (spec_LengthsSum_n3 x2376 x2387 x2388) (Sum.elim (fun (t : Int × Int) => (Exit.normal, ⟨mkE 24 0 [(0, dI x2376), (3, dI t.1), (4, dI t.2)], []⟩)) (fun (t : Int) => ((Exit.exit 0), ⟨mkE 24 0 [(0, dI x2376), (3, dI t)], []⟩))) := .of fun K h => by
  simp only [spec_LengthsSum_n3, wpW] at h
  exact .of (by kernel_rfl) h

def spec_LengthsSum_n4_l (x2376 : Int) := (link_loop (mk := fun (s : Int × Int) => ⟨mkE 24 0 [(0, dI x2376), (3, dI s.1), (4, dI s.2)], []⟩) (fin := (fun (t : Int) => ((Exit.exit 0), ⟨mkE 24 0 [(0, dI x2376), (3, dI t)], []⟩))) (by
  rintro t f K h
  · exact h) (fun s => link_map (spec_LengthsSum_n3_l x2376 s.1 s.2) (Sum.elim (fun (t : Int × Int) => Sum.inl (t.1, t.2)) (fun (t : Int) => Sum.inr t)) (by
  rintro (t | t)
  · kernel_rfl
  · kernel_rfl)) (1, 2))

def spec_LengthsSum_n5_l (x2376 : Int) := (link_block (fin2 := (fun (t : Int) => (Exit.normal, ⟨mkE 24 0 [(0, dI x2376), (3, dI t)], []⟩))) (id := 0) (spec_LengthsSum_n4_l x2376) (fun (t : Int) => t) (by
  rintro t K h
  · exact Eq.mp (by kernel_rfl) h))

def spec_LengthsSum_n6_l (x2376 : Int) := (link_seq (spec_LengthsSum_n2_l x2376) (fun (t : Unit) => (spec_LengthsSum_n5_l x2376)))

theorem spec_LengthsSum_n7_l (x2376 : Int) (x2387 : Int) : Link spec_LengthsSum_ctx LL (cq [1,1,1,1] (bodyOf Try.f19)) (aq [1,1,1,1] spec_LengthsSum_an) ⟨mkE 24 0 [(0, dI x2376), (3, dI x2387)], []⟩ (spec_LengthsSum_n7 x2376 x2387) (fun (t : Int) => (Exit.ret, ⟨mkE 24 0 [(2, dI t)], []⟩)) := .of fun K h => by
  simp only [spec_LengthsSum_n7, wpW] at h
  exact .of (by kernel_rfl) h

def spec_LengthsSum_n8_l (x2376 : Int) := (link_seq (spec_LengthsSum_n6_l x2376) (fun (t : Int) => (spec_LengthsSum_n7_l x2376 t)))

def spec_LengthsSum_n9_l (x2376 : Int) := (link_group (c := (cq [0,1,1] (bodyOf Try.f19))) (a := (aq [0,1,1] spec_LengthsSum_an)) [(cq [0] (bodyOf Try.f19)), (cq [0,1] (bodyOf Try.f19))] [(aq [0] spec_LengthsSum_an), (aq [0,1] spec_LengthsSum_an)] rfl (link_seq2 (spec_LengthsSum_n1_l x2376) (fun (t : Unit) => (spec_LengthsSum_n8_l x2376)) (fun (t : Int) => t) (by
  rintro t
  · kernel_rfl) (by
  rintro t f K h
  · exact h)))

theorem spec_LengthsSum_e (x2376 : Int) {r : AV} {H' : Heap} (h : (Ans.mk _ (spec_LengthsSum x2376) (fun (t : Int) => (dI t, [])) [] none).run = some (r, H')) : Awp spec_LengthsSum_ctx LL (bodyOf Try.f19) spec_LengthsSum_an ⟨mkE 24 0 [(0, dI x2376)], []⟩ (Ret (tlook tys) Try.f19.results.toList r H') :=
  ret_of' (Link.cast (by kernel_rfl) (by kernel_rfl) (spec_LengthsSum_n9_l x2376)) (by unfold spec_LengthsSum; kernel_rfl) (by
  intro t
  exact ret_mk [dI t] (by kernel_rfl) (by kernel_rfl) (by kernel_rfl) (by kernel_rfl)) h

def F_spec_LengthsSum : Fun := fun avs H =>
  match avs, H with
  | [.dat (.int .i64) x2376], [] => ⟨_, spec_LengthsSum x2376, fun (t : Int) => (dI t, []), [], none⟩
  | _, _ => Ans.no

theorem spec_LengthsSum_sound : Sound Try.prog 19 F_spec_LengthsSum := by
  refine fn_sound' (C := spec_LengthsSum_ctx) (c := bodyOf Try.f19) (cok_of tys_ok (allc spec_l1In_sound alln) (allc Try.call34 alln) (by kernel_rfl)) Try.func19 (by kernel_rfl) LL spec_LengthsSum_an ?_
  intro avs H r H' h
  unfold F_spec_LengthsSum at h
  split at h
  · refine Awp.cast ?_ ?_ ?_ (spec_LengthsSum_e _ h) <;> kernel_rfl
  · simp [Ans.no, Ans.run] at h


/-! loop.example/headtrees/laws.FnLengthsSum -/

def laws_FnLengthsSum_an : Ann := (.seq (.leaf [0]) (.seq (.seq (.leaf [0, 23]) (.cond (.seq (.leaf [2]) (.leaf [2])) (.leaf [0]))) (.seq (.leaf [3]) (.seq (.leaf [3, 4]) (.seq (.seq (.leaf [3, 4, 31]) (.cond (.seq (.leaf [2]) (.leaf [2])) (.leaf [3, 4]))) (.seq (.seq (.leaf [3, 4, 33]) (.cond (.seq (.leaf [2]) (.leaf [2])) (.leaf [3, 4]))) (.seq (.seq (.leaf [3, 4, 48]) (.cond (.seq (.leaf [2]) (.leaf [2])) (.leaf [3, 4]))) (.seq (.leaf [3, 4, 5]) (.seq (.leaf [3, 4, 5, 6]) (.seq (.leaf [3, 4, 5, 6, 7]) (.seq (.seq (.leaf [3, 4, 5, 6, 7, 8]) (.block (.loop (.seq (.seq (.leaf [3, 4, 5, 6, 7, 8, 55]) (.cond (.leaf [3, 4, 5, 6, 7, 8]) (.leaf [3, 4, 5, 6, 7]))) (.seq (.block (.seq (.leaf [3, 4, 5, 6, 7, 8]) (.seq (.leaf [3, 4, 5, 6, 7, 8]) (.leaf [3, 4, 5, 6, 7, 8])))) (.leaf [3, 4, 5, 6, 7, 8])))))) (.seq (.leaf [3, 4, 5, 6, 7, 9]) (.seq (.leaf [3, 4, 5, 6, 7, 9, 10]) (.seq (.seq (.leaf [3, 4, 5, 6, 7, 9, 10, 11]) (.block (.loop (.seq (.seq (.leaf [3, 4, 5, 6, 7, 9, 10, 11, 74]) (.cond (.leaf [3, 4, 5, 6, 7, 9, 10, 11]) (.leaf [4, 9, 10]))) (.seq (.block (.seq (.leaf [3, 4, 5, 6, 7, 9, 10, 11, 12]) (.seq (.leaf [3, 4, 5, 6, 7, 9, 10, 11, 12, 13]) (.seq (.seq (.leaf [3, 4, 5, 6, 7, 9, 10, 11, 12, 13, 14]) (.block (.loop (.seq (.seq (.leaf [3, 4, 5, 6, 7, 9, 10, 11, 12, 13, 14, 81]) (.cond (.leaf [3, 4, 5, 6, 7, 9, 10, 11, 12, 13, 14]) (.leaf [3, 4, 5, 6, 7, 9, 10, 11, 12]))) (.seq (.block (.seq (.leaf [3, 4, 5, 6, 7, 9, 10, 11, 12, 13, 14, 15]) (.seq (.leaf [3, 4, 5, 6, 7, 9, 10, 11, 12, 13, 14, 15]) (.seq (.leaf [3, 4, 5, 6, 7, 9, 10, 11, 12, 13, 14, 15, 16]) (.seq (.leaf [3, 4, 5, 6, 7, 9, 10, 11, 12, 13, 14, 15, 16]) (.leaf [3, 4, 5, 6, 7, 9, 10, 11, 12, 13, 14])))))) (.leaf [3, 4, 5, 6, 7, 9, 10, 11, 12, 13, 14])))))) (.seq (.leaf [3, 4, 5, 6, 7, 9, 10, 11, 12, 17]) (.seq (.leaf [3, 4, 5, 6, 7, 9, 10, 11, 17, 19]) (.seq (.leaf [3, 4, 5, 6, 7, 9, 10, 11, 19]) (.leaf [3, 4, 5, 6, 7, 9, 10, 11])))))))) (.leaf [3, 4, 5, 6, 7, 9, 10, 11])))))) (.seq (.leaf [2]) (.leaf [2]))))))))))))))))

noncomputable def laws_FnLengthsSum_ctx : Ctx := ⟨tlook tys, olook [(17, F_spec_DrawLengthsSum), (18, F_impl_LengthsSum), (19, F_spec_LengthsSum), (13, F_laws_alive), (20, F_impl_PutInOrder), (10, F_impl_LengthOf)], ioF, 0, false, []⟩

theorem laws_FnLengthsSum_n1_l (x2315 : List Int) : Link laws_FnLengthsSum_ctx LL (Code.seq (cq [0] (bodyOf Try.f5)) (Code.seq (cq [0,1] (bodyOf Try.f5)) (Code.seq (cq [0,1,1] (bodyOf Try.f5)) (Code.seq (cq [0,1,1,1] (bodyOf Try.f5)) (Code.seq (cq [0,1,1,1,1] (bodyOf Try.f5)) (Code.seq (cq [0,1,1,1,1,1] (bodyOf Try.f5)) (Code.seq (cq [0,1,1,1,1,1,1] (bodyOf Try.f5)) (Code.seq (cq [0,1,1,1,1,1,1,1] (bodyOf Try.f5)) (Code.seq (cq [0,1,1,1,1,1,1,1,1] (bodyOf Try.f5)) (cq [0,1,1,1,1,1,1,1,1,1] (bodyOf Try.f5))))))))))) (Ann.seq (aq [0] laws_FnLengthsSum_an) (Ann.seq (aq [0,1] laws_FnLengthsSum_an) (Ann.seq (aq [0,1,1] laws_FnLengthsSum_an) (Ann.seq (aq [0,1,1,1] laws_FnLengthsSum_an) (Ann.seq (aq [0,1,1,1,1] laws_FnLengthsSum_an) (Ann.seq (aq [0,1,1,1,1,1] laws_FnLengthsSum_an) (Ann.seq (aq [0,1,1,1,1,1,1] laws_FnLengthsSum_an) (Ann.seq (aq [0,1,1,1,1,1,1,1] laws_FnLengthsSum_an) (Ann.seq (aq [0,1,1,1,1,1,1,1,1] laws_FnLengthsSum_an) (aq [0,1,1,1,1,1,1,1,1,1] laws_FnLengthsSum_an)))))))))) ⟨mkE 132 0 [(0, dV x2315)], []⟩ (laws_FnLengthsSum_n1 x2315) (Sum.elim (fun (t : Int × Int) => (Exit.normal, ⟨mkE 132 0 [(3, dI t.1), (4, dI t.2), (5, .slc 0), (6, .slc 1), (7, dI 1)], [some (sI ([] : List Int)), some (sI ([] : List Int))]⟩)) (fun (t : Bool) => (Exit.ret, ⟨mkE 132 0 [(2, dB t)], []⟩))) := .of fun K h => by
  simp only [laws_FnLengthsSum_n1, wpW] at h
  exact .of (by kernel_rfl) h

theorem laws_FnLengthsSum_n2_l (x2465 : Int) (x2466 : Int) : Link laws_FnLengthsSum_ctx LL (cq [0,0,1,1,1,1,1,1,1,1,1,1] (bodyOf Try.f5)) (aq [0,0,1,1,1,1,1,1,1,1,1,1] laws_FnLengthsSum_an) ⟨mkE 132 0 [(3, dI x2465), (4, dI x2466), (5, .slc 0), (6, .slc 1), (7, dI 1)], [some (sI ([] : List Int)), some (sI ([] : List Int))]⟩ (laws_FnLengthsSum_n2) (fun (t : Unit) => (Exit.normal, ⟨mkE 132 0 [(3, dI x2465), (4, dI x2466), (5, .slc 0), (6, .slc 1), (7, dI 1), (8, dI 1)], [some (sI ([] : List Int)), some (sI ([] : List Int))]⟩)) := .of fun K h => by
  simp only [laws_FnLengthsSum_n2, wpW] at h
  exact .of (by kernel_rfl) h

theorem laws_FnLengthsSum_n3_l (x2465 : Int) (x2466 : Int) (x2505 : Int) (x2506 : Int) (x2507 : List Int) (x2508 : List Int) : Link laws_FnLengthsSum_ctx LL (cq [0,0,1,0,1,1,1,1,1,1,1,1,1,1] (bodyOf Try.f5)) (aq [0,0,1,0,1,1,1,1,1,1,1,1,1,1] laws_FnLengthsSum_an) ⟨mkE 132 0 [(3, dI x2465), (4, dI x2466), (5, .slc 0), (6, .slc 1), (7, dI x2505), (8, dI x2506)], [some (sI x2507), some (sI x2508)]⟩ (laws_FnLengthsSum_n3 x2465 x2505 x2506 x2507 x2508) (Sum.elim (fun (t : Int × Int × (List Int) × (List Int)) => (Exit.normal, ⟨mkE 132 0 [(3, dI x2465), (4, dI x2466), (5, .slc 0), (6, .slc 1), (7, dI t.1), (8, dI t.2.1)], [some (sI t.2.2.1), some (sI t.2.2.2)]⟩)) (fun (t : Int × (List Int) × (List Int)) => ((Exit.exit 0), ⟨mkE 132 0 [(3, dI x2465), (4, dI x2466), (5, .slc 0), (6, .slc 1), (7, dI t.1)], [some (sI t.2.1), some (sI t.2.2)]⟩))) := .of fun K h => by
  simp only [laws_FnLengthsSum_n3, wpW] at h
  exact .of (by kernel_rfl) h

def laws_FnLengthsSum_n4_l (x2465 : Int) (x2466 : Int) := (link_loop (mk := fun (s : Int × Int × (List Int) × (List Int)) => ⟨mkE 132 0 [(3, dI x2465), (4, dI x2466), (5, .slc 0), (6, .slc 1), (7, dI s.1), (8, dI s.2.1)], [some (sI s.2.2.1), some (sI s.2.2.2)]⟩) (fin := (fun (t : Int × (List Int) × (List Int)) => ((Exit.exit 0), ⟨mkE 132 0 [(3, dI x2465), (4, dI x2466), (5, .slc 0), (6, .slc 1), (7, dI t.1)], [some (sI t.2.1), some (sI t.2.2)]⟩))) (by
  rintro t f K h
  · exact h) (fun s => link_map (laws_FnLengthsSum_n3_l x2465 x2466 s.1 s.2.1 s.2.2.1 s.2.2.2) (Sum.elim (fun (t : Int × Int × (List Int) × (List Int)) => Sum.inl (t.1, t.2.1, t.2.2.1, t.2.2.2)) (fun (t : Int × (List Int) × (List Int)) => Sum.inr t)) (by
  rintro (t | t)
  · kernel_rfl
  · kernel_rfl)) (1, 1, ([] : List Int), ([] : List Int)))

def laws_FnLengthsSum_n5_l (x2465 : Int) (x2466 : Int) := (link_block (fin2 := (fun (t : Int × (List Int) × (List Int)) => (Exit.normal, ⟨mkE 132 0 [(3, dI x2465), (4, dI x2466), (5, .slc 0), (6, .slc 1), (7, dI t.1)], [some (sI t.2.1), some (sI t.2.2)]⟩))) (id := 0) (laws_FnLengthsSum_n4_l x2465 x2466) (fun (t : Int × (List Int) × (List Int)) => (t.1, t.2.1, t.2.2)) (by
  rintro t K h
  · exact Eq.mp (by kernel_rfl) h))

def laws_FnLengthsSum_n6_l (x2465 : Int) (x2466 : Int) := (link_seq (laws_FnLengthsSum_n2_l x2465 x2466) (fun (t : Unit) => (laws_FnLengthsSum_n5_l x2465 x2466)))

theorem laws_FnLengthsSum_n7_l (x2465 : Int) (x2466 : Int) (x2505 : Int) (x2507 : List Int) (x2508 : List Int) : Link laws_FnLengthsSum_ctx LL (Code.seq (cq [0,1,1,1,1,1,1,1,1,1,1,1] (bodyOf Try.f5)) (cq [0,1,1,1,1,1,1,1,1,1,1,1,1] (bodyOf Try.f5))) (Ann.seq (aq [0,1,1,1,1,1,1,1,1,1,1,1] laws_FnLengthsSum_an) (aq [0,1,1,1,1,1,1,1,1,1,1,1,1] laws_FnLengthsSum_an)) ⟨mkE 132 0 [(3, dI x2465), (4, dI x2466), (5, .slc 0), (6, .slc 1), (7, dI x2505)], [some (sI x2507), some (sI x2508)]⟩ (laws_FnLengthsSum_n7) (fun (t : Unit) => (Exit.normal, ⟨mkE 132 0 [(3, dI x2465), (4, dI x2466), (5, .slc 0), (6, .slc 1), (7, dI x2505), (9, dI 0), (10, dI 0)], [some (sI x2507), some (sI x2508)]⟩)) := .of fun K h => by
  simp only [laws_FnLengthsSum_n7, wpW] at h
  exact .of (by kernel_rfl) h

theorem laws_FnLengthsSum_n8_l (x2465 : Int) (x2466 : Int) (x2505 : Int) (x2507 : List Int) (x2508 : List Int) : Link laws_FnLengthsSum_ctx LL (cq [0,0,1,1,1,1,1,1,1,1,1,1,1,1,1] (bodyOf Try.f5)) (aq [0,0,1,1,1,1,1,1,1,1,1,1,1,1,1] laws_FnLengthsSum_an) ⟨mkE 132 0 [(3, dI x2465), (4, dI x2466), (5, .slc 0), (6, .slc 1), (7, dI x2505), (9, dI 0), (10, dI 0)], [some (sI x2507), some (sI x2508)]⟩ (laws_FnLengthsSum_n8) (fun (t : Unit) => (Exit.normal, ⟨mkE 132 0 [(3, dI x2465), (4, dI x2466), (5, .slc 0), (6, .slc 1), (7, dI x2505), (9, dI 0), (10, dI 0), (11, dI 0)], [some (sI x2507), some (sI x2508)]⟩)) := .of fun K h => by
  simp only [laws_FnLengthsSum_n8, wpW] at h
  exact .of (by kernel_rfl) h

theorem laws_FnLengthsSum_n9_l (x2465 : Int) (x2466 : Int) (x2505 : Int) (x2657 : Int) (x2658 : Int) (x2659 : Int) (x2507 : List Int) (x2508 : List Int) : Link laws_FnLengthsSum_ctx LL (cq [0,0,0,1,0,1,1,1,1,1,1,1,1,1,1,1,1,1] (bodyOf Try.f5)) (aq [0,0,0,1,0,1,1,1,1,1,1,1,1,1,1,1,1,1] laws_FnLengthsSum_an) ⟨mkE 132 0 [(3, dI x2465), (4, dI x2466), (5, .slc 0), (6, .slc 1), (7, dI x2505), (9, dI x2657), (10, dI x2658), (11, dI x2659)], [some (sI x2507), some (sI x2508)]⟩ (laws_FnLengthsSum_n9 x2505 x2657 x2658 x2659) (Sum.elim (fun (t : Unit) => (Exit.normal, ⟨mkE 132 0 [(3, dI x2465), (4, dI x2466), (5, .slc 0), (6, .slc 1), (7, dI x2505), (9, dI x2657), (10, dI x2658), (11, dI x2659)], [some (sI x2507), some (sI x2508)]⟩)) (fun (t : Int × Int) => ((Exit.exit 2), ⟨mkE 132 0 [(4, dI x2466), (9, dI t.1), (10, dI t.2)], []⟩))) := .of fun K h => by
  simp only [laws_FnLengthsSum_n9, wpW] at h
  exact .of (by kernel_rfl) h

theorem laws_FnLengthsSum_n10_l (x2465 : Int) (x2466 : Int) (x2505 : Int) (x2657 : Int) (x2658 : Int) (x2659 : Int) (x2507 : List Int) (x2508 : List Int) : Link laws_FnLengthsSum_ctx LL (Code.seq (cq [0,0,0,1,0,0,1,0,1,1,1,1,1,1,1,1,1,1,1,1,1] (bodyOf Try.f5)) (cq [0,1,0,0,1,0,0,1,0,1,1,1,1,1,1,1,1,1,1,1,1,1] (bodyOf Try.f5))) (Ann.seq (aq [0,0,0,1,0,0,1,0,1,1,1,1,1,1,1,1,1,1,1,1,1] laws_FnLengthsSum_an) (aq [0,1,0,0,1,0,0,1,0,1,1,1,1,1,1,1,1,1,1,1,1,1] laws_FnLengthsSum_an)) ⟨mkE 132 0 [(3, dI x2465), (4, dI x2466), (5, .slc 0), (6, .slc 1), (7, dI x2505), (9, dI x2657), (10, dI x2658), (11, dI x2659)], [some (sI x2507), some (sI x2508)]⟩ (laws_FnLengthsSum_n10) (fun (t : Unit) => (Exit.normal, ⟨mkE 132 0 [(3, dI x2465), (4, dI x2466), (5, .slc 0), (6, .slc 1), (7, dI x2505), (9, dI x2657), (10, dI x2658), (11, dI x2659), (12, .slc 2), (13, dI x2659)], [some (sI x2507), some (sI x2508), some (sI ([] : List Int))]⟩)) := .of fun K h => by
  simp only [laws_FnLengthsSum_n10, wpW] at h
  exact .of (by kernel_rfl) h

theorem laws_FnLengthsSum_n11_l (x2465 : Int) (x2466 : Int) (x2505 : Int) (x2657 : Int) (x2658 : Int) (x2659 : Int) (x2507 : List Int) (x2508 : List Int) : Link laws_FnLengthsSum_ctx LL (cq [0,0,1,1,0,0,1,0,0,1,0,1,1,1,1,1,1,1,1,1,1,1,1,1] (bodyOf Try.f5)) (aq [0,0,1,1,0,0,1,0,0,1,0,1,1,1,1,1,1,1,1,1,1,1,1,1] laws_FnLengthsSum_an) ⟨mkE 132 0 [(3, dI x2465), (4, dI x2466), (5, .slc 0), (6, .slc 1), (7, dI x2505), (9, dI x2657), (10, dI x2658), (11, dI x2659), (12, .slc 2), (13, dI x2659)], [some (sI x2507), some (sI x2508), some (sI ([] : List Int))]⟩ (laws_FnLengthsSum_n11) (fun (t : Unit) => (Exit.normal, ⟨mkE 132 0 [(3, dI x2465), (4, dI x2466), (5, .slc 0), (6, .slc 1), (7, dI x2505), (9, dI x2657), (10, dI x2658), (11, dI x2659), (12, .slc 2), (13, dI x2659), (14, dI 1)], [some (sI x2507), some (sI x2508), some (sI ([] : List Int))]⟩)) := .of fun K h => by
  simp only [laws_FnLengthsSum_n11, wpW] at h
  exact .of (by kernel_rfl) h

theorem laws_FnLengthsSum_n12_l (x2465 : Int) (x2466 : Int) (x2505 : Int) (x2657 : Int) (x2658 : Int) (x2659 : Int) (x2705 : Int) (x2706 : Int) (x2507 : List Int) (x2508 : List Int) (x2707 : List Int) : Link laws_FnLengthsSum_ctx LL (cq [0,0,1,0,1,1,0,0,1,0,0,1,0,1,1,1,1,1,1,1,1,1,1,1,1,1] (bodyOf Try.f5)) (aq [0,0,1,0,1,1,0,0,1,0,0,1,0,1,1,1,1,1,1,1,1,1,1,1,1,1] laws_FnLengthsSum_an) ⟨mkE 132 0 [(3, dI x2465), (4, dI x2466), (5, .slc 0), (6, .slc 1), (7, dI x2505), (9, dI x2657), (10, dI x2658), (11, dI x2659), (12, .slc 2), (13, dI x2705), (14, dI x2706)], [some (sI x2507), some (sI x2508), some (sI x2707)]⟩ (laws_FnLengthsSum_n12 x2465 x2705 x2706 x2707) (Sum.elim (fun (t : Int × Int × (List Int)) => (Exit.normal, ⟨mkE 132 0 [(3, dI x2465), (4, dI x2466), (5, .slc 0), (6, .slc 1), (7, dI x2505), (9, dI x2657), (10, dI x2658), (11, dI x2659), (12, .slc 2), (13, dI t.1), (14, dI t.2.1)], [some (sI x2507), some (sI x2508), some (sI t.2.2)]⟩)) (fun (t : (List Int)) => ((Exit.exit 4), ⟨mkE 132 0 [(3, dI x2465), (4, dI x2466), (5, .slc 0), (6, .slc 1), (7, dI x2505), (9, dI x2657), (10, dI x2658), (11, dI x2659), (12, .slc 2)], [some (sI x2507), some (sI x2508), some (sI t)]⟩))) := .of fun K h => by
  simp only [laws_FnLengthsSum_n12, wpW] at h
  exact .of (by kernel_rfl) h

def laws_FnLengthsSum_n13_l (x2465 : Int) (x2466 : Int) (x2505 : Int) (x2657 : Int) (x2658 : Int) (x2659 : Int) (x2507 : List Int) (x2508 : List Int) := (link_loop (mk := fun (s : Int × Int × (List Int)) => ⟨mkE 132 0 [(3, dI x2465), (4, dI x2466), (5, .slc 0), (6, .slc 1), (7, dI x2505), (9, dI x2657), (10, dI x2658), (11, dI x2659), (12, .slc 2), (13, dI s.1), (14, dI s.2.1)], [some (sI x2507), some (sI x2508), some (sI s.2.2)]⟩) (fin := (fun (t : (List Int)) => ((Exit.exit 4), ⟨mkE 132 0 [(3, dI x2465), (4, dI x2466), (5, .slc 0), (6, .slc 1), (7, dI x2505), (9, dI x2657), (10, dI x2658), (11, dI x2659), (12, .slc 2)], [some (sI x2507), some (sI x2508), some (sI t)]⟩))) (by
  rintro t f K h
  · exact h) (fun s => link_map (laws_FnLengthsSum_n12_l x2465 x2466 x2505 x2657 x2658 x2659 s.1 s.2.1 x2507 x2508 s.2.2) (Sum.elim (fun (t : Int × Int × (List Int)) => Sum.inl (t.1, t.2.1, t.2.2)) (fun (t : (List Int)) => Sum.inr t)) (by
  rintro (t | t)
  · kernel_rfl
  · kernel_rfl)) (x2659, 1, ([] : List Int)))

def laws_FnLengthsSum_n14_l (x2465 : Int) (x2466 : Int) (x2505 : Int) (x2657 : Int) (x2658 : Int) (x2659 : Int) (x2507 : List Int) (x2508 : List Int) := (link_block (fin2 := (fun (t : (List Int)) => (Exit.normal, ⟨mkE 132 0 [(3, dI x2465), (4, dI x2466), (5, .slc 0), (6, .slc 1), (7, dI x2505), (9, dI x2657), (10, dI x2658), (11, dI x2659), (12, .slc 2)], [some (sI x2507), some (sI x2508), some (sI t)]⟩))) (id := 4) (laws_FnLengthsSum_n13_l x2465 x2466 x2505 x2657 x2658 x2659 x2507 x2508) (fun (t : (List Int)) => t) (by
  rintro t K h
  · exact Eq.mp (by kernel_rfl) h))

def laws_FnLengthsSum_n15_l (x2465 : Int) (x2466 : Int) (x2505 : Int) (x2657 : Int) (x2658 : Int) (x2659 : Int) (x2507 : List Int) (x2508 : List Int) := (link_seq (laws_FnLengthsSum_n11_l x2465 x2466 x2505 x2657 x2658 x2659 x2507 x2508) (fun (t : Unit) => (laws_FnLengthsSum_n14_l x2465 x2466 x2505 x2657 x2658 x2659 x2507 x2508)))

theorem laws_FnLengthsSum_n16_l (x2465 : Int) (x2466 : Int) (x2505 : Int) (x2657 : Int) (x2658 : Int) (x2659 : Int) (x2507 : List Int) (x2508 : List Int) (x2707 : List Int) : Link laws_FnLengthsSum_ctx LL (cq [1,1,1,0,0,1,0,0,1,0,1,1,1,1,1,1,1,1,1,1,1,1,1] (bodyOf Try.f5)) (aq [1,1,1,0,0,1,0,0,1,0,1,1,1,1,1,1,1,1,1,1,1,1,1] laws_FnLengthsSum_an) ⟨mkE 132 0 [(3, dI x2465), (4, dI x2466), (5, .slc 0), (6, .slc 1), (7, dI x2505), (9, dI x2657), (10, dI x2658), (11, dI x2659), (12, .slc 2)], [some (sI x2507), some (sI x2508), some (sI x2707)]⟩ (laws_FnLengthsSum_n16 x2657 x2658 x2507 x2508 x2707) (fun (t : Int × Int) => (Exit.normal, ⟨mkE 132 0 [(3, dI x2465), (4, dI x2466), (5, .slc 0), (6, .slc 1), (7, dI x2505), (9, dI t.1), (10, dI t.2), (11, dI x2659)], [some (sI x2507), some (sI x2508)]⟩)) := .of fun K h => by
  simp only [laws_FnLengthsSum_n16, wpW] at h
  exact .of (by kernel_rfl) h

def laws_FnLengthsSum_n17_l (x2465 : Int) (x2466 : Int) (x2505 : Int) (x2657 : Int) (x2658 : Int) (x2659 : Int) (x2507 : List Int) (x2508 : List Int) := (link_seq (laws_FnLengthsSum_n15_l x2465 x2466 x2505 x2657 x2658 x2659 x2507 x2508) (fun (t : (List Int)) => (laws_FnLengthsSum_n16_l x2465 x2466 x2505 x2657 x2658 x2659 x2507 x2508 t)))

def laws_FnLengthsSum_n18_l (x2465 : Int) (x2466 : Int) (x2505 : Int) (x2657 : Int) (x2658 : Int) (x2659 : Int) (x2507 : List Int) (x2508 : List Int) := (link_group (c := (cq [0,1,0,0,1,0,0,1,0,1,1,1,1,1,1,1,1,1,1,1,1,1] (bodyOf Try.f5))) (a := (aq [0,1,0,0,1,0,0,1,0,1,1,1,1,1,1,1,1,1,1,1,1,1] laws_FnLengthsSum_an)) [(cq [0,0,0,1,0,0,1,0,1,1,1,1,1,1,1,1,1,1,1,1,1] (bodyOf Try.f5))] [(aq [0,0,0,1,0,0,1,0,1,1,1,1,1,1,1,1,1,1,1,1,1] laws_FnLengthsSum_an)] rfl (link_seq (laws_FnLengthsSum_n10_l x2465 x2466 x2505 x2657 x2658 x2659 x2507 x2508) (fun (t : Unit) => (laws_FnLengthsSum_n17_l x2465 x2466 x2505 x2657 x2658 x2659 x2507 x2508))))

def laws_FnLengthsSum_n19_l (x2465 : Int) (x2466 : Int) (x2505 : Int) (x2657 : Int) (x2658 : Int) (x2659 : Int) (x2507 : List Int) (x2508 : List Int) := (link_block (fin2 := (fun (t : Int × Int) => (Exit.normal, ⟨mkE 132 0 [(3, dI x2465), (4, dI x2466), (5, .slc 0), (6, .slc 1), (7, dI x2505), (9, dI t.1), (10, dI t.2), (11, dI x2659)], [some (sI x2507), some (sI x2508)]⟩))) (id := 3) (laws_FnLengthsSum_n18_l x2465 x2466 x2505 x2657 x2658 x2659 x2507 x2508) (fun (t : Int × Int) => (t.1, t.2)) (by
  rintro t K h
  · exact Eq.mp (by kernel_rfl) h))

theorem laws_FnLengthsSum_n20_l (x2465 : Int) (x2466 : Int) (x2505 : Int) (x2776 : Int) (x2778 : Int) (x2659 : Int) (x2507 : List Int) (x2508 : List Int) : Link laws_FnLengthsSum_ctx LL (cq [1,1,0,0,1,0,1,1,1,1,1,1,1,1,1,1,1,1,1] (bodyOf Try.f5)) (aq [1,1,0,0,1,0,1,1,1,1,1,1,1,1,1,1,1,1,1] laws_FnLengthsSum_an) ⟨mkE 132 0 [(3, dI x2465), (4, dI x2466), (5, .slc 0), (6, .slc 1), (7, dI x2505), (9, dI x2776), (10, dI x2778), (11, dI x2659)], [some (sI x2507), some (sI x2508)]⟩ (laws_FnLengthsSum_n20 x2659) (fun (t : Int) => (Exit.normal, ⟨mkE 132 0 [(3, dI x2465), (4, dI x2466), (5, .slc 0), (6, .slc 1), (7, dI x2505), (9, dI x2776), (10, dI x2778), (11, dI t)], [some (sI x2507), some (sI x2508)]⟩)) := .of fun K h => by
  simp only [laws_FnLengthsSum_n20, wpW] at h
  exact .of (by kernel_rfl) h

def laws_FnLengthsSum_n21_l (x2465 : Int) (x2466 : Int) (x2505 : Int) (x2657 : Int) (x2658 : Int) (x2659 : Int) (x2507 : List Int) (x2508 : List Int) := (link_seq (laws_FnLengthsSum_n19_l x2465 x2466 x2505 x2657 x2658 x2659 x2507 x2508) (fun (t : Int × Int) => (link_map (fin2 := (fun (t : Int × Int × Int) => (Exit.normal, ⟨mkE 132 0 [(3, dI x2465), (4, dI x2466), (5, .slc 0), (6, .slc 1), (7, dI x2505), (9, dI t.1), (10, dI t.2.1), (11, dI t.2.2)], [some (sI x2507), some (sI x2508)]⟩))) (laws_FnLengthsSum_n20_l x2465 x2466 x2505 t.1 t.2 x2659 x2507 x2508) (fun (u : Int) => (t.1, t.2, u)) (by
  rintro t
  · kernel_rfl))))

def laws_FnLengthsSum_n22_l (x2465 : Int) (x2466 : Int) (x2505 : Int) (x2657 : Int) (x2658 : Int) (x2659 : Int) (x2507 : List Int) (x2508 : List Int) := (link_seq2 (laws_FnLengthsSum_n9_l x2465 x2466 x2505 x2657 x2658 x2659 x2507 x2508) (fun (t : Unit) => (link_map (fin2 := (Sum.elim (fun (t : Int × Int × Int) => (Exit.normal, ⟨mkE 132 0 [(3, dI x2465), (4, dI x2466), (5, .slc 0), (6, .slc 1), (7, dI x2505), (9, dI t.1), (10, dI t.2.1), (11, dI t.2.2)], [some (sI x2507), some (sI x2508)]⟩)) (fun (t : Int × Int) => ((Exit.exit 2), ⟨mkE 132 0 [(4, dI x2466), (9, dI t.1), (10, dI t.2)], []⟩)))) (laws_FnLengthsSum_n21_l x2465 x2466 x2505 x2657 x2658 x2659 x2507 x2508) (fun (t : Int × Int × Int) => (Sum.inl (t.1, t.2.1, t.2.2))) (by
  rintro t
  · kernel_rfl))) (fun (t : Int × Int) => (Sum.inr t)) (by
  rintro t
  · kernel_rfl) (by
  rintro t f K h
  · exact h))

def laws_FnLengthsSum_n23_l (x2465 : Int) (x2466 : Int) (x2505 : Int) (x2507 : List Int) (x2508 : List Int) := (link_loop (mk := fun (s : Int × Int × Int) => ⟨mkE 132 0 [(3, dI x2465), (4, dI x2466), (5, .slc 0), (6, .slc 1), (7, dI x2505), (9, dI s.1), (10, dI s.2.1), (11, dI s.2.2)], [some (sI x2507), some (sI x2508)]⟩) (fin := (fun (t : Int × Int) => ((Exit.exit 2), ⟨mkE 132 0 [(4, dI x2466), (9, dI t.1), (10, dI t.2)], []⟩))) (by
  rintro t f K h
  · exact h) (fun s => link_map (laws_FnLengthsSum_n22_l x2465 x2466 x2505 s.1 s.2.1 s.2.2 x2507 x2508) (Sum.elim (fun (t : Int × Int × Int) => Sum.inl (t.1, t.2.1, t.2.2)) (fun (t : Int × Int) => Sum.inr t)) (by
  rintro (t | t)
  · kernel_rfl
  · kernel_rfl)) (0, 0, 0))

def laws_FnLengthsSum_n24_l (x2465 : Int) (x2466 : Int) (x2505 : Int) (x2507 : List Int) (x2508 : List Int) := (link_block (fin2 := (fun (t : Int × Int) => (Exit.normal, ⟨mkE 132 0 [(4, dI x2466), (9, dI t.1), (10, dI t.2)], []⟩))) (id := 2) (laws_FnLengthsSum_n23_l x2465 x2466 x2505 x2507 x2508) (fun (t : Int × Int) => (t.1, t.2)) (by
  rintro t K h
  · exact Eq.mp (by kernel_rfl) h))

def laws_FnLengthsSum_n25_l (x2465 : Int) (x2466 : Int) (x2505 : Int) (x2507 : List Int) (x2508 : List Int) := (link_seq (laws_FnLengthsSum_n8_l x2465 x2466 x2505 x2507 x2508) (fun (t : Unit) => (laws_FnLengthsSum_n24_l x2465 x2466 x2505 x2507 x2508)))

theorem laws_FnLengthsSum_n26_l (x2466 : Int) (x2657 : Int) (x2658 : Int) : Link laws_FnLengthsSum_ctx LL (cq [1,1,1,1,1,1,1,1,1,1,1,1,1,1] (bodyOf Try.f5)) (aq [1,1,1,1,1,1,1,1,1,1,1,1,1,1] laws_FnLengthsSum_an) ⟨mkE 132 0 [(4, dI x2466), (9, dI x2657), (10, dI x2658)], []⟩ (laws_FnLengthsSum_n26 x2466 x2657 x2658) (fun (t : Bool) => (Exit.ret, ⟨mkE 132 0 [(2, dB t)], []⟩)) := .of fun K h => by
  simp only [laws_FnLengthsSum_n26, wpW] at h
  exact .of (by kernel_rfl) h

def laws_FnLengthsSum_n27_l (x2465 : Int) (x2466 : Int) (x2505 : Int) (x2507 : List Int) (x2508 : List Int) := (link_seq (laws_FnLengthsSum_n25_l x2465 x2466 x2505 x2507 x2508) (fun (t : Int × Int) => (laws_FnLengthsSum_n26_l x2466 t.1 t.2)))

def laws_FnLengthsSum_n28_l (x2465 : Int) (x2466 : Int) (x2505 : Int) (x2507 : List Int) (x2508 : List Int) := (link_group (c := (cq [0,1,1,1,1,1,1,1,1,1,1,1,1] (bodyOf Try.f5))) (a := (aq [0,1,1,1,1,1,1,1,1,1,1,1,1] laws_FnLengthsSum_an)) [(cq [0,1,1,1,1,1,1,1,1,1,1,1] (bodyOf Try.f5))] [(aq [0,1,1,1,1,1,1,1,1,1,1,1] laws_FnLengthsSum_an)] rfl (link_seq (laws_FnLengthsSum_n7_l x2465 x2466 x2505 x2507 x2508) (fun (t : Unit) => (laws_FnLengthsSum_n27_l x2465 x2466 x2505 x2507 x2508))))

def laws_FnLengthsSum_n29_l (x2465 : Int) (x2466 : Int) := (link_seq (laws_FnLengthsSum_n6_l x2465 x2466) (fun (t : Int × (List Int) × (List Int)) => (laws_FnLengthsSum_n28_l x2465 x2466 t.1 t.2.1 t.2.2)))

def laws_FnLengthsSum_n30_l (x2315 : List Int) := (link_group (c := (cq [0,1,1,1,1,1,1,1,1,1] (bodyOf Try.f5))) (a := (aq [0,1,1,1,1,1,1,1,1,1] laws_FnLengthsSum_an)) [(cq [0] (bodyOf Try.f5)), (cq [0,1] (bodyOf Try.f5)), (cq [0,1,1] (bodyOf Try.f5)), (cq [0,1,1,1] (bodyOf Try.f5)), (cq [0,1,1,1,1] (bodyOf Try.f5)), (cq [0,1,1,1,1,1] (bodyOf Try.f5)), (cq [0,1,1,1,1,1,1] (bodyOf Try.f5)), (cq [0,1,1,1,1,1,1,1] (bodyOf Try.f5)), (cq [0,1,1,1,1,1,1,1,1] (bodyOf Try.f5))] [(aq [0] laws_FnLengthsSum_an), (aq [0,1] laws_FnLengthsSum_an), (aq [0,1,1] laws_FnLengthsSum_an), (aq [0,1,1,1] laws_FnLengthsSum_an), (aq [0,1,1,1,1] laws_FnLengthsSum_an), (aq [0,1,1,1,1,1] laws_FnLengthsSum_an), (aq [0,1,1,1,1,1,1] laws_FnLengthsSum_an), (aq [0,1,1,1,1,1,1,1] laws_FnLengthsSum_an), (aq [0,1,1,1,1,1,1,1,1] laws_FnLengthsSum_an)] rfl (link_seq2 (laws_FnLengthsSum_n1_l x2315) (fun (t : Int × Int) => (laws_FnLengthsSum_n29_l t.1 t.2)) (fun (t : Bool) => t) (by
  rintro t
  · kernel_rfl) (by
  rintro t f K h
  · exact h)))

theorem laws_FnLengthsSum_e (x2315 : List Int) {r : AV} {H' : Heap} (h : (Ans.mk _ (laws_FnLengthsSum x2315) (fun (t : Bool) => (dB t, [])) [] none).run = some (r, H')) : Awp laws_FnLengthsSum_ctx LL (bodyOf Try.f5) laws_FnLengthsSum_an ⟨mkE 132 0 [(0, dV x2315)], []⟩ (Ret (tlook tys) Try.f5.results.toList r H') :=
  ret_of' (Link.cast (by kernel_rfl) (by kernel_rfl) (laws_FnLengthsSum_n30_l x2315)) (by unfold laws_FnLengthsSum; kernel_rfl) (by
  intro t
  exact ret_mk [dB t] (by kernel_rfl) (by kernel_rfl) (by kernel_rfl) (by kernel_rfl)) h

def F_laws_FnLengthsSum : Fun := fun avs H =>
  match avs, H with
  | [.dat (.list (.int .u8)) x2315], [] => ⟨_, laws_FnLengthsSum x2315, fun (t : Bool) => (dB t, []), [], none⟩
  | _, _ => Ans.no

theorem laws_FnLengthsSum_sound : Sound Try.prog 5 F_laws_FnLengthsSum := by
  refine fn_sound' (C := laws_FnLengthsSum_ctx) (c := bodyOf Try.f5) (cok_of tys_ok (allc spec_DrawLengthsSum_sound (allc impl_LengthsSum_sound (allc spec_LengthsSum_sound (allc laws_alive_sound (allc impl_PutInOrder_sound (allc impl_LengthOf_sound alln)))))) (allc Try.call17 (allc Try.call18 (allc Try.call19 (allc Try.call13 (allc Try.call20 (allc Try.call10 alln)))))) (by kernel_rfl)) Try.func5 (by kernel_rfl) LL laws_FnLengthsSum_an ?_
  intro avs H r H' h
  unfold F_laws_FnLengthsSum at h
  split at h
  · refine Awp.cast ?_ ?_ ?_ (laws_FnLengthsSum_e _ h) <;> kernel_rfl
  · simp [Ans.no, Ans.run] at h


end Go.Rv
