/-
  The checked code answers as the plain functions do; written by program. Conditions: none.
-/
import Derived.Test.YtgjhjbankpdcgaaGFnExactSidesOf
import Derived.Test.YtgjhjbankpdcgaaProg
set_option linter.unusedVariables false
set_option linter.unusedSimpArgs false
set_option linter.defProp false
set_option maxRecDepth 100000
namespace Go.Rv
open Go.Proofs
theorem ty3 : TIOk Try.prog 3 ⟨.int .i64, 1, 8, some (.int .i64), [.int .i64 0], false⟩ := ⟨⟨infoOf (Try.prog.info? 3), by kernel_rfl, by kernel_rfl, by kernel_rfl, .int .i64 0, by kernel_rfl, by kernel_rfl⟩, (by kernel_rfl : Try.prog.underlying 3 = some (.int .i64)), no_eq⟩
theorem ty4 : TIOk Try.prog 4 ⟨.bool, 1, 1, some .bool, [.bool false], false⟩ := ⟨⟨infoOf (Try.prog.info? 4), by kernel_rfl, by kernel_rfl, by kernel_rfl, .bool false, by kernel_rfl, by kernel_rfl⟩, (by kernel_rfl : Try.prog.underlying 4 = some .bool), no_eq⟩
theorem ty5 : TIOk Try.prog 5 ⟨.int .u8, 1, 1, some (.int .u8), [.int .u8 0], false⟩ := ⟨⟨infoOf (Try.prog.info? 5), by kernel_rfl, by kernel_rfl, by kernel_rfl, .int .u8 0, by kernel_rfl, by kernel_rfl⟩, (by kernel_rfl : Try.prog.underlying 5 = some (.int .u8)), no_eq⟩
theorem ty22 : TIOk Try.prog 22 ⟨.slice 5, 1, 24, some (.list (.int .u8)), [.slice none 0 0], false⟩ := ⟨⟨infoOf (Try.prog.info? 22), by kernel_rfl, by kernel_rfl, by kernel_rfl, .slice none 0 0, by kernel_rfl, by kernel_rfl⟩, (by kernel_rfl : Try.prog.underlying 22 = some (.slice 5)), no_eq⟩
theorem ty23 : TIOk Try.prog 23 ⟨.slice 3, 1, 24, some (.list (.int .i64)), [.slice none 0 0], false⟩ := ⟨⟨infoOf (Try.prog.info? 23), by kernel_rfl, by kernel_rfl, by kernel_rfl, .slice none 0 0, by kernel_rfl, by kernel_rfl⟩, (by kernel_rfl : Try.prog.underlying 23 = some (.slice 3)), no_eq⟩
theorem ty46 : TIOk Try.prog 46 ⟨.arr 9 4, 9, 9, none, [.bool false, .bool false, .bool false, .bool false, .bool false, .bool false, .bool false, .bool false, .bool false], false⟩ := ⟨⟨infoOf (Try.prog.info? 46), by kernel_rfl, by kernel_rfl, by kernel_rfl, .agg #[.bool false, .bool false, .bool false, .bool false, .bool false, .bool false, .bool false, .bool false, .bool false], by kernel_rfl, by kernel_rfl⟩, (by kernel_rfl : Try.prog.underlying 46 = some (.array 9 4)), no_eq⟩
theorem ty53 : TIOk Try.prog 53 ⟨.strct [(0, 22), (1, 3)], 2, 32, some (.pair (.list (.int .u8)) (.pair (.int .i64) .unit)), [.slice none 0 0, .int .i64 0], false⟩ := ⟨⟨infoOf (Try.prog.info? 53), by kernel_rfl, by kernel_rfl, by kernel_rfl, .agg #[.slice none 0 0, .int .i64 0], by kernel_rfl, by kernel_rfl⟩, ⟨fieldsOf (Try.prog.underlying 53), by kernel_rfl, by kernel_rfl⟩, no_eq⟩
theorem ty62 : TIOk Try.prog 62 ⟨.strct [(0, 23), (1, 3), (2, 3)], 3, 40, some (.pair (.list (.int .i64)) (.pair (.int .i64) (.pair (.int .i64) .unit))), [.slice none 0 0, .int .i64 0, .int .i64 0], false⟩ := ⟨⟨infoOf (Try.prog.info? 62), by kernel_rfl, by kernel_rfl, by kernel_rfl, .agg #[.slice none 0 0, .int .i64 0, .int .i64 0], by kernel_rfl, by kernel_rfl⟩, ⟨fieldsOf (Try.prog.underlying 62), by kernel_rfl, by kernel_rfl⟩, no_eq⟩
theorem ty66 : TIOk Try.prog 66 ⟨.int .u64, 1, 8, some (.int .u64), [.int .u64 0], false⟩ := ⟨⟨infoOf (Try.prog.info? 66), by kernel_rfl, by kernel_rfl, by kernel_rfl, .int .u64 0, by kernel_rfl, by kernel_rfl⟩, (by kernel_rfl : Try.prog.underlying 66 = some (.int .u64)), no_eq⟩
theorem ty67 : TIOk Try.prog 67 ⟨.slice 23, 1, 24, some (.list (.list (.int .i64))), [.slice none 0 0], false⟩ := ⟨⟨infoOf (Try.prog.info? 67), by kernel_rfl, by kernel_rfl, by kernel_rfl, .slice none 0 0, by kernel_rfl, by kernel_rfl⟩, (by kernel_rfl : Try.prog.underlying 67 = some (.slice 23)), no_eq⟩
def tys : List (TypeId × TI) := [(3, ⟨.int .i64, 1, 8, some (.int .i64), [.int .i64 0], false⟩), (4, ⟨.bool, 1, 1, some .bool, [.bool false], false⟩), (5, ⟨.int .u8, 1, 1, some (.int .u8), [.int .u8 0], false⟩), (22, ⟨.slice 5, 1, 24, some (.list (.int .u8)), [.slice none 0 0], false⟩), (23, ⟨.slice 3, 1, 24, some (.list (.int .i64)), [.slice none 0 0], false⟩), (46, ⟨.arr 9 4, 9, 9, none, [.bool false, .bool false, .bool false, .bool false, .bool false, .bool false, .bool false, .bool false, .bool false], false⟩), (53, ⟨.strct [(0, 22), (1, 3)], 2, 32, some (.pair (.list (.int .u8)) (.pair (.int .i64) .unit)), [.slice none 0 0, .int .i64 0], false⟩), (62, ⟨.strct [(0, 23), (1, 3), (2, 3)], 3, 40, some (.pair (.list (.int .i64)) (.pair (.int .i64) (.pair (.int .i64) .unit))), [.slice none 0 0, .int .i64 0, .int .i64 0], false⟩), (66, ⟨.int .u64, 1, 8, some (.int .u64), [.int .u64 0], false⟩), (67, ⟨.slice 23, 1, 24, some (.list (.list (.int .i64))), [.slice none 0 0], false⟩)]
theorem tys_ok : TOk Try.prog (tlook tys) := tok_of (allc ty3 (allc ty4 (allc ty5 (allc ty22 (allc ty23 (allc ty46 (allc ty53 (allc ty62 (allc ty66 (allc ty67 alln))))))))))
def ioF (f : FuncId) (i : Nat) : Bool := [(22, 0), (48, 0)].any fun (p : Nat × Nat) => Nat.beq p.1 f && Nat.beq p.2 i


/-! loop.example/headtrees/spec.l1In -/

def spec_l1In_an : Ann := (.seq (.leaf [0, 1, 2]) (.seq (.leaf [6]) (.leaf [6])))

noncomputable def spec_l1In_ctx : Ctx := ⟨tlook tys, olook [], ioF, 0, false, []⟩

theorem spec_l1In_n1_l (x1281 : Int) (x1282 : Int) (x1283 : Int) : Link spec_l1In_ctx LL (bodyOf Try.f32) spec_l1In_an ⟨mkE 15 0 [(0, dI x1281), (1, dI x1282), (2, dI x1283)], []⟩ (spec_l1In_n1 x1281 x1282 x1283) (fun (t : Bool) => (Exit.ret, ⟨mkE 15 0 [(6, dB t)], []⟩)) := by
  refine Link.of fun K h => ?_
  simp only [spec_l1In_n1, wpO_bind, wpO_cond, wpO_map, wpO_some] at h
  exact Awp.of (by kernel_rfl) h

theorem spec_l1In_e (x1281 : Int) (x1282 : Int) (x1283 : Int) {r : AV} {H' : Heap} (h : (Ans.mk _ (spec_l1In x1281 x1282 x1283) (fun (t : Bool) => (dB t, [])) [] none).run = some (r, H')) : Awp spec_l1In_ctx LL (bodyOf Try.f32) spec_l1In_an ⟨mkE 15 0 [(0, dI x1281), (1, dI x1282), (2, dI x1283)], []⟩ (Ret (tlook tys) Try.f32.results.toList r H') :=
  ret_of' (spec_l1In_n1_l x1281 x1282 x1283) (by unfold spec_l1In; kernel_rfl) (by
  intro t
  exact ret_mk [dB t] (by kernel_rfl) (by kernel_rfl) (by kernel_rfl) (by kernel_rfl)) h

def F_spec_l1In : Fun := fun avs H =>
  match avs, H with
  | [.dat (.int .i64) x1281, .dat (.int .i64) x1282, .dat (.int .i64) x1283], [] => ⟨_, spec_l1In x1281 x1282 x1283, fun (t : Bool) => (dB t, []), [], none⟩
  | _, _ => Ans.no

theorem spec_l1In_sound : Sound Try.prog 32 F_spec_l1In := by
  refine fn_sound' (C := spec_l1In_ctx) (c := bodyOf Try.f32) (cok_of tys_ok (alln) (alln) (by kernel_rfl)) Try.func32 (by kernel_rfl) LL spec_l1In_an ?_
  intro avs H r H' h
  unfold F_spec_l1In at h
  split at h
  · refine Awp.cast ?_ ?_ ?_ (spec_l1In_e _ _ _ h) <;> kernel_rfl
  · simp [Ans.no, Ans.run] at h


/-! loop.example/headtrees/impl.oneRoot -/

def impl_oneRoot_an : Ann := (.seq (.leaf [0]) (.seq (.leaf [0, 3]) (.seq (.seq (.leaf [0, 3, 6, 7, 8]) (.block (.loop (.seq (.leaf [0, 3, 6, 7, 8, 9]) (.seq (.cond (.leaf [0, 3, 6, 7, 8]) (.leaf [3])) (.seq (.block (.seq (.leaf [0, 3, 5, 6, 7, 8]) (.seq (.seq (.leaf [0, 3, 5, 6, 7, 8, 19]) (.cond (.seq (.leaf [2]) (.leaf [2])) (.leaf [0, 3, 5, 6, 7, 8]))) (.seq (.leaf [0, 3, 6, 7, 8, 21]) (.cond (.leaf [0, 3, 6, 7, 8]) (.leaf [0, 3, 6, 7, 8])))))) (.leaf [0, 3, 6, 7, 8]))))))) (.seq (.leaf [2]) (.leaf [2])))))

noncomputable def impl_oneRoot_ctx : Ctx := ⟨tlook tys, olook [], ioF, 0, false, []⟩

theorem impl_oneRoot_n1_l (x1448 : List Int) : Link impl_oneRoot_ctx LL (Code.seq (cq [0] (bodyOf Try.f38)) (cq [0,1] (bodyOf Try.f38))) (Ann.seq (aq [0] impl_oneRoot_an) (aq [0,1] impl_oneRoot_an)) ⟨mkE 27 0 [(0, dL x1448)], []⟩ (impl_oneRoot_n1) (fun (t : Unit) => (Exit.normal, ⟨mkE 27 0 [(0, dL x1448), (3, dI 0)], []⟩)) := by
  refine Link.of fun K h => ?_
  simp only [impl_oneRoot_n1, wpO_bind, wpO_cond, wpO_map, wpO_some] at h
  exact Awp.of (by kernel_rfl) h

theorem impl_oneRoot_n2_l (x1448 : List Int) : Link impl_oneRoot_ctx LL (cq [0,0,1,1] (bodyOf Try.f38)) (aq [0,0,1,1] impl_oneRoot_an) ⟨mkE 27 0 [(0, dL x1448), (3, dI 0)], []⟩ (impl_oneRoot_n2 x1448) (fun (t : Int) => (Exit.normal, ⟨mkE 27 0 [(0, dL x1448), (3, dI 0), (6, dL x1448), (7, dI t), (8, dI 0)], []⟩)) := by
  refine Link.of fun K h => ?_
  simp only [impl_oneRoot_n2, wpO_bind, wpO_cond, wpO_map, wpO_some] at h
  exact Awp.of (by kernel_rfl) h

theorem impl_oneRoot_n3_l (x1448 : List Int) (x1470 : Int) (x1449 : Int) (x1471 : Int) : Link impl_oneRoot_ctx LL (cq [0,0,1,0,1,1] (bodyOf Try.f38)) (aq [0,0,1,0,1,1] impl_oneRoot_an) ⟨mkE 27 0 [(0, dL x1448), (3, dI x1470), (6, dL x1448), (7, dI x1449), (8, dI x1471)], []⟩ (impl_oneRoot_n3 x1448 x1470 x1449 x1471) (Sum.elim (fun (t : Int × Int) => (Exit.normal, ⟨mkE 27 0 [(0, dL x1448), (3, dI t.1), (6, dL x1448), (7, dI x1449), (8, dI t.2)], []⟩)) (Sum.elim (fun (t : Bool) => (Exit.ret, ⟨mkE 27 0 [(2, dB t)], []⟩)) (fun (t : Int) => ((Exit.exit 0), ⟨mkE 27 0 [(3, dI t)], []⟩)))) := by
  refine Link.of fun K h => ?_
  simp only [impl_oneRoot_n3, wpO_bind, wpO_cond, wpO_map, wpO_some] at h
  exact Awp.of (by kernel_rfl) h

def impl_oneRoot_n4_l (x1448 : List Int) (x1449 : Int) := (link_loop (mk := fun (s : Int × Int) => ⟨mkE 27 0 [(0, dL x1448), (3, dI s.1), (6, dL x1448), (7, dI x1449), (8, dI s.2)], []⟩) (fin := (Sum.elim (fun (t : Bool) => (Exit.ret, ⟨mkE 27 0 [(2, dB t)], []⟩)) (fun (t : Int) => ((Exit.exit 0), ⟨mkE 27 0 [(3, dI t)], []⟩)))) (by
  rintro (t | t) f K h
  · exact h
  · exact h) (fun s => link_map (impl_oneRoot_n3_l x1448 s.1 x1449 s.2) (Sum.elim (fun (t : Int × Int) => Sum.inl (t.1, t.2)) (Sum.elim (fun (t : Bool) => Sum.inr (Sum.inl t)) (fun (t : Int) => Sum.inr (Sum.inr t)))) (by
  rintro (t | t | t)
  · kernel_rfl
  · kernel_rfl
  · kernel_rfl)) (0, 0))

def impl_oneRoot_n5_l (x1448 : List Int) (x1449 : Int) := (link_block (fin2 := (Sum.elim (fun (t : Int) => (Exit.normal, ⟨mkE 27 0 [(3, dI t)], []⟩)) (fun (t : Bool) => (Exit.ret, ⟨mkE 27 0 [(2, dB t)], []⟩)))) (id := 0) (impl_oneRoot_n4_l x1448 x1449) (Sum.elim (fun (t : Bool) => (Sum.inr t)) (fun (t : Int) => (Sum.inl t))) (by
  rintro (t | t) K h
  · exact Eq.mp (by kernel_rfl) h
  · exact Eq.mp (by kernel_rfl) h))

def impl_oneRoot_n6_l (x1448 : List Int) := (link_seq (impl_oneRoot_n2_l x1448) (fun (t : Int) => (impl_oneRoot_n5_l x1448 t)))

theorem impl_oneRoot_n7_l (x1470 : Int) : Link impl_oneRoot_ctx LL (cq [1,1,1] (bodyOf Try.f38)) (aq [1,1,1] impl_oneRoot_an) ⟨mkE 27 0 [(3, dI x1470)], []⟩ (impl_oneRoot_n7 x1470) (fun (t : Bool) => (Exit.ret, ⟨mkE 27 0 [(2, dB t)], []⟩)) := by
  refine Link.of fun K h => ?_
  simp only [impl_oneRoot_n7, wpO_bind, wpO_cond, wpO_map, wpO_some] at h
  exact Awp.of (by kernel_rfl) h

def impl_oneRoot_n8_l (x1448 : List Int) := (link_seq2 (impl_oneRoot_n6_l x1448) (fun (t : Int) => (impl_oneRoot_n7_l t)) (fun (t : Bool) => t) (by
  rintro t
  · kernel_rfl) (by
  rintro t f K h
  · exact h))

def impl_oneRoot_n9_l (x1448 : List Int) := (link_group (c := (cq [0,1] (bodyOf Try.f38))) (a := (aq [0,1] impl_oneRoot_an)) [(cq [0] (bodyOf Try.f38))] [(aq [0] impl_oneRoot_an)] rfl (link_seq (impl_oneRoot_n1_l x1448) (fun (t : Unit) => (impl_oneRoot_n8_l x1448))))

theorem impl_oneRoot_e (x1448 : List Int) {r : AV} {H' : Heap} (h : (Ans.mk _ (impl_oneRoot x1448) (fun (t : Bool) => (dB t, [])) [] none).run = some (r, H')) : Awp impl_oneRoot_ctx LL (bodyOf Try.f38) impl_oneRoot_an ⟨mkE 27 0 [(0, dL x1448)], []⟩ (Ret (tlook tys) Try.f38.results.toList r H') :=
  ret_of' (Link.cast (by kernel_rfl) (by kernel_rfl) (impl_oneRoot_n9_l x1448)) (by unfold impl_oneRoot; kernel_rfl) (by
  intro t
  exact ret_mk [dB t] (by kernel_rfl) (by kernel_rfl) (by kernel_rfl) (by kernel_rfl)) h

def F_impl_oneRoot : Fun := fun avs H =>
  match avs, H with
  | [.dat (.list (.int .i64)) x1448], [] => ⟨_, impl_oneRoot x1448, fun (t : Bool) => (dB t, []), [], none⟩
  | _, _ => Ans.no

theorem impl_oneRoot_sound : Sound Try.prog 38 F_impl_oneRoot := by
  refine fn_sound' (C := impl_oneRoot_ctx) (c := bodyOf Try.f38) (cok_of tys_ok (alln) (alln) (by kernel_rfl)) Try.func38 (by kernel_rfl) LL impl_oneRoot_an ?_
  intro avs H r H' h
  unfold F_impl_oneRoot at h
  split at h
  · refine Awp.cast ?_ ?_ ?_ (impl_oneRoot_e _ h) <;> kernel_rfl
  · simp [Ans.no, Ans.run] at h


/-! (*loop.example/headtrees/impl.walker).up -/

def impl_walker_up_an : Ann := (.seq (.leaf [0]) (.seq (.draw [] [0, 1, 2, 3, 4, 5, 6, 7, 8, 9, 10, 11] [] [0, 3]) (.seq (.seq (.leaf [0, 3, 16]) (.cond (.seq (.leaf [2]) (.leaf [2])) (.leaf [0, 3]))) (.seq (.leaf [0]) (.seq (.leaf []) (.seq (.leaf [2]) (.leaf [2])))))))

noncomputable def impl_walker_up_ctx : Ctx := ⟨tlook tys, olook [], ioF, 1, false, []⟩

theorem impl_walker_up_n1_l (x1504 : List Int) (x1505 : Int) (x1506 : Int) : Link impl_walker_up_ctx LL (bodyOf Try.f44) impl_walker_up_an ⟨mkE 28 0 [(0, .ptr 0 0)], [some (.box [dL x1504, dI x1505, dI x1506])]⟩ (impl_walker_up_n1 x1504 x1505 x1506) (fun (t : Bool × Int × Int) => (Exit.ret, ⟨mkE 28 0 [(2, dB t.1)], [some (.box [dL x1504, dI t.2.1, dI t.2.2])]⟩)) := by
  refine Link.of fun K h => ?_
  simp only [impl_walker_up_n1, wpO_bind, wpO_cond, wpO_map, wpO_some] at h
  exact Awp.of (by kernel_rfl) h

theorem impl_walker_up_e (x1504 : List Int) (x1505 : Int) (x1506 : Int) {r : AV} {H' : Heap} (h : (Ans.mk _ (impl_walker_up x1504 x1505 x1506) (fun (t : Bool × Int × Int) => (dB t.1, [some (.box [dL x1504, dI t.2.1, dI t.2.2])])) [] none).run = some (r, H')) : Awp impl_walker_up_ctx LL (bodyOf Try.f44) impl_walker_up_an ⟨mkE 28 0 [(0, .ptr 0 0)], [some (.box [dL x1504, dI x1505, dI x1506])]⟩ (Ret (tlook tys) Try.f44.results.toList r H') :=
  ret_of' (impl_walker_up_n1_l x1504 x1505 x1506) (by unfold impl_walker_up; kernel_rfl) (by
  intro t
  exact ret_mk [dB t.1] (by kernel_rfl) (by kernel_rfl) (by kernel_rfl) (by kernel_rfl)) h

def F_impl_walker_up : Fun := fun avs H =>
  match avs, H with
  | [.ptr 0 0], [some (.box [.dat (.list (.int .i64)) x1504, .dat (.int .i64) x1505, .dat (.int .i64) x1506])] => ⟨_, impl_walker_up x1504 x1505 x1506, fun (t : Bool × Int × Int) => (dB t.1, [some (.box [dL x1504, dI t.2.1, dI t.2.2])]), [], none⟩
  | _, _ => Ans.no

theorem impl_walker_up_sound : Sound Try.prog 44 F_impl_walker_up := by
  refine fn_sound' (C := impl_walker_up_ctx) (c := bodyOf Try.f44) (cok_of tys_ok (alln) (alln) (by kernel_rfl)) Try.func44 (by kernel_rfl) LL impl_walker_up_an ?_
  intro avs H r H' h
  unfold F_impl_walker_up at h
  split at h
  · refine Awp.cast ?_ ?_ ?_ (impl_walker_up_e _ _ _ h) <;> kernel_rfl
  · simp [Ans.no, Ans.run] at h


/-! loop.example/headtrees/impl.stepsToRoot -/

def impl_stepsToRoot_an : Ann := (.seq (.leaf [0, 1]) (.seq (.leaf [0, 6]) (.seq (.block (.loop (.seq (.seq (.leaf [0, 6, 10]) (.cond (.leaf [0, 6]) (.leaf [6]))) (.block (.seq (.leaf [0, 6, 15]) (.cond (.seq (.leaf [4, 5]) (.leaf [4, 5])) (.leaf [0, 6]))))))) (.seq (.leaf [4, 5]) (.leaf [4, 5])))))

noncomputable def impl_stepsToRoot_ctx : Ctx := ⟨tlook tys, olook [(44, F_impl_walker_up)], ioF, 0, false, []⟩

theorem impl_stepsToRoot_n1_l (x1502 : List Int) (x1503 : Int) : Link impl_stepsToRoot_ctx LL (Code.seq (cq [0] (bodyOf Try.f39)) (cq [0,1] (bodyOf Try.f39))) (Ann.seq (aq [0] impl_stepsToRoot_an) (aq [0,1] impl_stepsToRoot_an)) ⟨mkE 18 0 [(0, dL x1502), (1, dI x1503)], []⟩ (impl_stepsToRoot_n1) (fun (t : Unit) => (Exit.normal, ⟨mkE 18 0 [(0, dL x1502), (6, .ptr 0 0)], [some (.box [dL x1502, dI x1503, dI 0])]⟩)) := by
  refine Link.of fun K h => ?_
  simp only [impl_stepsToRoot_n1, wpO_bind, wpO_cond, wpO_map, wpO_some] at h
  exact Awp.of (by kernel_rfl) h

theorem impl_stepsToRoot_n2_l (x1502 : List Int) (x1540 : Int) (x1541 : Int) : Link impl_stepsToRoot_ctx LL (cq [0,0,0,1,1] (bodyOf Try.f39)) (aq [0,0,0,1,1] impl_stepsToRoot_an) ⟨mkE 18 0 [(0, dL x1502), (6, .ptr 0 0)], [some (.box [dL x1502, dI x1540, dI x1541])]⟩ (impl_stepsToRoot_n2 x1502 x1540 x1541) (Sum.elim (fun (t : Int × Int) => (Exit.normal, ⟨mkE 18 0 [(0, dL x1502), (6, .ptr 0 0)], [some (.box [dL x1502, dI t.1, dI t.2])]⟩)) (Sum.elim (fun (t : Int × Bool) => (Exit.ret, ⟨mkE 18 0 [(4, dI t.1), (5, dB t.2)], []⟩)) (fun (t : Int × Int) => ((Exit.exit 0), ⟨mkE 18 0 [(6, .ptr 0 0)], [some (.box [dL x1502, dI t.1, dI t.2])]⟩)))) := by
  refine Link.of fun K h => ?_
  simp only [impl_stepsToRoot_n2, wpO_bind, wpO_cond, wpO_map, wpO_some] at h
  exact Awp.of (by kernel_rfl) h

def impl_stepsToRoot_n3_l (x1502 : List Int) (x1503 : Int) := (link_loop (mk := fun (s : Int × Int) => ⟨mkE 18 0 [(0, dL x1502), (6, .ptr 0 0)], [some (.box [dL x1502, dI s.1, dI s.2])]⟩) (fin := (Sum.elim (fun (t : Int × Bool) => (Exit.ret, ⟨mkE 18 0 [(4, dI t.1), (5, dB t.2)], []⟩)) (fun (t : Int × Int) => ((Exit.exit 0), ⟨mkE 18 0 [(6, .ptr 0 0)], [some (.box [dL x1502, dI t.1, dI t.2])]⟩)))) (by
  rintro (t | t) f K h
  · exact h
  · exact h) (fun s => link_map (impl_stepsToRoot_n2_l x1502 s.1 s.2) (Sum.elim (fun (t : Int × Int) => Sum.inl (t.1, t.2)) (Sum.elim (fun (t : Int × Bool) => Sum.inr (Sum.inl t)) (fun (t : Int × Int) => Sum.inr (Sum.inr t)))) (by
  rintro (t | t | t)
  · kernel_rfl
  · kernel_rfl
  · kernel_rfl)) (x1503, 0))

def impl_stepsToRoot_n4_l (x1502 : List Int) (x1503 : Int) := (link_block (fin2 := (Sum.elim (fun (t : Int × Int) => (Exit.normal, ⟨mkE 18 0 [(6, .ptr 0 0)], [some (.box [dL x1502, dI t.1, dI t.2])]⟩)) (fun (t : Int × Bool) => (Exit.ret, ⟨mkE 18 0 [(4, dI t.1), (5, dB t.2)], []⟩)))) (id := 0) (impl_stepsToRoot_n3_l x1502 x1503) (Sum.elim (fun (t : Int × Bool) => (Sum.inr t)) (fun (t : Int × Int) => (Sum.inl (t.1, t.2)))) (by
  rintro (t | t) K h
  · exact Eq.mp (by kernel_rfl) h
  · exact Eq.mp (by kernel_rfl) h))

theorem impl_stepsToRoot_n5_l (x1502 : List Int) (x1548 : Int) (x1549 : Int) : Link impl_stepsToRoot_ctx LL (cq [1,1,1] (bodyOf Try.f39)) (aq [1,1,1] impl_stepsToRoot_an) ⟨mkE 18 0 [(6, .ptr 0 0)], [some (.box [dL x1502, dI x1548, dI x1549])]⟩ (impl_stepsToRoot_n5 x1549) (fun (t : Int × Bool) => (Exit.ret, ⟨mkE 18 0 [(4, dI t.1), (5, dB t.2)], []⟩)) := by
  refine Link.of fun K h => ?_
  simp only [impl_stepsToRoot_n5, wpO_bind, wpO_cond, wpO_map, wpO_some] at h
  exact Awp.of (by kernel_rfl) h

def impl_stepsToRoot_n6_l (x1502 : List Int) (x1503 : Int) := (link_seq2 (impl_stepsToRoot_n4_l x1502 x1503) (fun (t : Int × Int) => (impl_stepsToRoot_n5_l x1502 t.1 t.2)) (fun (t : Int × Bool) => t) (by
  rintro t
  · kernel_rfl) (by
  rintro t f K h
  · exact h))

def impl_stepsToRoot_n7_l (x1502 : List Int) (x1503 : Int) := (link_group (c := (cq [0,1] (bodyOf Try.f39))) (a := (aq [0,1] impl_stepsToRoot_an)) [(cq [0] (bodyOf Try.f39))] [(aq [0] impl_stepsToRoot_an)] rfl (link_seq (impl_stepsToRoot_n1_l x1502 x1503) (fun (t : Unit) => (impl_stepsToRoot_n6_l x1502 x1503))))

theorem impl_stepsToRoot_e (x1502 : List Int) (x1503 : Int) {r : AV} {H' : Heap} (h : (Ans.mk _ (impl_stepsToRoot x1502 x1503) (fun (t : Int × Bool) => (.tup [dI t.1, dB t.2], [])) [] none).run = some (r, H')) : Awp impl_stepsToRoot_ctx LL (bodyOf Try.f39) impl_stepsToRoot_an ⟨mkE 18 0 [(0, dL x1502), (1, dI x1503)], []⟩ (Ret (tlook tys) Try.f39.results.toList r H') :=
  ret_of' (Link.cast (by kernel_rfl) (by kernel_rfl) (impl_stepsToRoot_n7_l x1502 x1503)) (by unfold impl_stepsToRoot; kernel_rfl) (by
  intro t
  exact ret_mk [dI t.1, dB t.2] (by kernel_rfl) (by kernel_rfl) (by kernel_rfl) (by kernel_rfl)) h

def F_impl_stepsToRoot : Fun := fun avs H =>
  match avs, H with
  | [.dat (.list (.int .i64)) x1502, .dat (.int .i64) x1503], [] => ⟨_, impl_stepsToRoot x1502 x1503, fun (t : Int × Bool) => (.tup [dI t.1, dB t.2], []), [], none⟩
  | _, _ => Ans.no

theorem impl_stepsToRoot_sound : Sound Try.prog 39 F_impl_stepsToRoot := by
  refine fn_sound' (C := impl_stepsToRoot_ctx) (c := bodyOf Try.f39) (cok_of tys_ok (allc impl_walker_up_sound alln) (allc Try.call44 alln) (by kernel_rfl)) Try.func39 (by kernel_rfl) LL impl_stepsToRoot_an ?_
  intro avs H r H' h
  unfold F_impl_stepsToRoot at h
  split at h
  · refine Awp.cast ?_ ?_ ?_ (impl_stepsToRoot_e _ _ h) <;> kernel_rfl
  · simp [Ans.no, Ans.run] at h


/-! loop.example/headtrees/impl.TreeOk -/

def impl_TreeOk_an : Ann := (.seq (.leaf [0]) (.seq (.seq (.leaf [0, 18]) (.cond (.seq (.leaf [2]) (.leaf [2])) (.leaf [0]))) (.seq (.seq (.leaf [0, 20, 21]) (.block (.loop (.seq (.leaf [0, 20, 21, 22]) (.seq (.cond (.leaf [0, 20, 21]) (.leaf [])) (.seq (.block (.seq (.leaf [0, 3, 20, 21]) (.seq (.leaf [0, 5, 20, 21]) (.seq (.leaf [0, 20, 21, 32]) (.cond (.seq (.leaf [2]) (.leaf [2])) (.leaf [0, 20, 21])))))) (.leaf [0, 20, 21]))))))) (.seq (.leaf [2]) (.leaf [2])))))

noncomputable def impl_TreeOk_ctx : Ctx := ⟨tlook tys, olook [(38, F_impl_oneRoot), (39, F_impl_stepsToRoot)], ioF, 0, false, []⟩

theorem impl_TreeOk_n1_l (x1443 : List Int) : Link impl_TreeOk_ctx LL (Code.seq (cq [0] (bodyOf Try.f30)) (cq [0,1] (bodyOf Try.f30))) (Ann.seq (aq [0] impl_TreeOk_an) (aq [0,1] impl_TreeOk_an)) ⟨mkE 34 0 [(0, dL x1443)], []⟩ (impl_TreeOk_n1 x1443) (Sum.elim (fun (t : Unit) => (Exit.normal, ⟨mkE 34 0 [(0, dL x1443)], []⟩)) (fun (t : Bool) => (Exit.ret, ⟨mkE 34 0 [(2, dB t)], []⟩))) := by
  refine Link.of fun K h => ?_
  simp only [impl_TreeOk_n1, wpO_bind, wpO_cond, wpO_map, wpO_some] at h
  exact Awp.of (by kernel_rfl) h

theorem impl_TreeOk_n2_l (x1443 : List Int) : Link impl_TreeOk_ctx LL (cq [0,0,1,1] (bodyOf Try.f30)) (aq [0,0,1,1] impl_TreeOk_an) ⟨mkE 34 0 [(0, dL x1443)], []⟩ (impl_TreeOk_n2 x1443) (fun (t : Int) => (Exit.normal, ⟨mkE 34 0 [(0, dL x1443), (20, dI t), (21, dI 0)], []⟩)) := by
  refine Link.of fun K h => ?_
  simp only [impl_TreeOk_n2, wpO_bind, wpO_cond, wpO_map, wpO_some] at h
  exact Awp.of (by kernel_rfl) h

theorem impl_TreeOk_n3_l (x1443 : List Int) (x1497 : Int) (x1565 : Int) : Link impl_TreeOk_ctx LL (cq [0,0,1,0,1,1] (bodyOf Try.f30)) (aq [0,0,1,0,1,1] impl_TreeOk_an) ⟨mkE 34 0 [(0, dL x1443), (20, dI x1497), (21, dI x1565)], []⟩ (impl_TreeOk_n3 x1443 x1497 x1565) (Sum.elim (fun (t : Int) => (Exit.normal, ⟨mkE 34 0 [(0, dL x1443), (20, dI x1497), (21, dI t)], []⟩)) (Sum.elim (fun (t : Bool) => (Exit.ret, ⟨mkE 34 0 [(2, dB t)], []⟩)) (fun (t : Unit) => ((Exit.exit 0), ⟨mkE 34 0 [], []⟩)))) := by
  refine Link.of fun K h => ?_
  simp only [impl_TreeOk_n3, wpO_bind, wpO_cond, wpO_map, wpO_some] at h
  exact Awp.of (by kernel_rfl) h

def impl_TreeOk_n4_l (x1443 : List Int) (x1497 : Int) := (link_loop (mk := fun (s : Int) => ⟨mkE 34 0 [(0, dL x1443), (20, dI x1497), (21, dI s)], []⟩) (fin := (Sum.elim (fun (t : Bool) => (Exit.ret, ⟨mkE 34 0 [(2, dB t)], []⟩)) (fun (t : Unit) => ((Exit.exit 0), ⟨mkE 34 0 [], []⟩)))) (by
  rintro (t | t) f K h
  · exact h
  · exact h) (fun s => link_map (impl_TreeOk_n3_l x1443 x1497 s) (Sum.elim (fun (t : Int) => Sum.inl t) (Sum.elim (fun (t : Bool) => Sum.inr (Sum.inl t)) (fun (t : Unit) => Sum.inr (Sum.inr t)))) (by
  rintro (t | t | t)
  · kernel_rfl
  · kernel_rfl
  · kernel_rfl)) 0)

def impl_TreeOk_n5_l (x1443 : List Int) (x1497 : Int) := (link_block (fin2 := (Sum.elim (fun (t : Unit) => (Exit.normal, ⟨mkE 34 0 [], []⟩)) (fun (t : Bool) => (Exit.ret, ⟨mkE 34 0 [(2, dB t)], []⟩)))) (id := 0) (impl_TreeOk_n4_l x1443 x1497) (Sum.elim (fun (t : Bool) => (Sum.inr t)) (fun (t : Unit) => (Sum.inl ()))) (by
  rintro (t | t) K h
  · exact Eq.mp (by kernel_rfl) h
  · exact Eq.mp (by kernel_rfl) h))

def impl_TreeOk_n6_l (x1443 : List Int) := (link_seq (impl_TreeOk_n2_l x1443) (fun (t : Int) => (impl_TreeOk_n5_l x1443 t)))

theorem impl_TreeOk_n7_l : Link impl_TreeOk_ctx LL (cq [1,1,1] (bodyOf Try.f30)) (aq [1,1,1] impl_TreeOk_an) ⟨mkE 34 0 [], []⟩ (impl_TreeOk_n7) (fun (t : Bool) => (Exit.ret, ⟨mkE 34 0 [(2, dB t)], []⟩)) := by
  refine Link.of fun K h => ?_
  simp only [impl_TreeOk_n7, wpO_bind, wpO_cond, wpO_map, wpO_some] at h
  exact Awp.of (by kernel_rfl) h

def impl_TreeOk_n8_l (x1443 : List Int) := (link_seq2 (impl_TreeOk_n6_l x1443) (fun (t : Unit) => (impl_TreeOk_n7_l)) (fun (t : Bool) => t) (by
  rintro t
  · kernel_rfl) (by
  rintro t f K h
  · exact h))

def impl_TreeOk_n9_l (x1443 : List Int) := (link_group (c := (cq [0,1] (bodyOf Try.f30))) (a := (aq [0,1] impl_TreeOk_an)) [(cq [0] (bodyOf Try.f30))] [(aq [0] impl_TreeOk_an)] rfl (link_seq2 (impl_TreeOk_n1_l x1443) (fun (t : Unit) => (impl_TreeOk_n8_l x1443)) (fun (t : Bool) => t) (by
  rintro t
  · kernel_rfl) (by
  rintro t f K h
  · exact h)))

theorem impl_TreeOk_e (x1443 : List Int) {r : AV} {H' : Heap} (h : (Ans.mk _ (impl_TreeOk x1443) (fun (t : Bool) => (dB t, [])) [] none).run = some (r, H')) : Awp impl_TreeOk_ctx LL (bodyOf Try.f30) impl_TreeOk_an ⟨mkE 34 0 [(0, dL x1443)], []⟩ (Ret (tlook tys) Try.f30.results.toList r H') :=
  ret_of' (Link.cast (by kernel_rfl) (by kernel_rfl) (impl_TreeOk_n9_l x1443)) (by unfold impl_TreeOk; kernel_rfl) (by
  intro t
  exact ret_mk [dB t] (by kernel_rfl) (by kernel_rfl) (by kernel_rfl) (by kernel_rfl)) h

def F_impl_TreeOk : Fun := fun avs H =>
  match avs, H with
  | [.dat (.list (.int .i64)) x1443], [] => ⟨_, impl_TreeOk x1443, fun (t : Bool) => (dB t, []), [], none⟩
  | _, _ => Ans.no

theorem impl_TreeOk_sound : Sound Try.prog 30 F_impl_TreeOk := by
  refine fn_sound' (C := impl_TreeOk_ctx) (c := bodyOf Try.f30) (cok_of tys_ok (allc impl_oneRoot_sound (allc impl_stepsToRoot_sound alln)) (allc Try.call38 (allc Try.call39 alln)) (by kernel_rfl)) Try.func30 (by kernel_rfl) LL impl_TreeOk_an ?_
  intro avs H r H' h
  unfold F_impl_TreeOk at h
  split at h
  · refine Awp.cast ?_ ?_ ?_ (impl_TreeOk_e _ h) <;> kernel_rfl
  · simp [Ans.no, Ans.run] at h


/-! loop.example/headtrees/laws.toIntS -/

def laws_toIntS_an : Ann := (.seq (.leaf [0]) (.seq (.leaf [0, 3]) (.seq (.seq (.leaf [0, 3, 4]) (.block (.loop (.seq (.seq (.leaf [0, 3, 4, 11]) (.cond (.leaf [0, 3, 4]) (.leaf [3]))) (.seq (.block (.leaf [0, 3, 4])) (.leaf [0, 3, 4])))))) (.seq (.leaf [2]) (.leaf [2])))))

noncomputable def laws_toIntS_ctx : Ctx := ⟨tlook tys, olook [], ioF, 0, false, []⟩

theorem laws_toIntS_n1_l (x2238 : List Int) : Link laws_toIntS_ctx LL (Code.seq (cq [0] (bodyOf Try.f19)) (cq [0,1] (bodyOf Try.f19))) (Ann.seq (aq [0] laws_toIntS_an) (aq [0,1] laws_toIntS_an)) ⟨mkE 22 0 [(0, dL x2238)], []⟩ (laws_toIntS_n1 x2238) (fun (t : (List Int)) => (Exit.normal, ⟨mkE 22 0 [(0, dL x2238), (3, .slc 0)], [some (sI t)]⟩)) := by
  refine Link.of fun K h => ?_
  simp only [laws_toIntS_n1, wpO_bind, wpO_cond, wpO_map, wpO_some] at h
  exact Awp.of (by kernel_rfl) h

theorem laws_toIntS_n2_l (x2238 : List Int) (x2241 : List Int) : Link laws_toIntS_ctx LL (cq [0,0,1,1] (bodyOf Try.f19)) (aq [0,0,1,1] laws_toIntS_an) ⟨mkE 22 0 [(0, dL x2238), (3, .slc 0)], [some (sI x2241)]⟩ (laws_toIntS_n2) (fun (t : Unit) => (Exit.normal, ⟨mkE 22 0 [(0, dL x2238), (3, .slc 0), (4, dI 0)], [some (sI x2241)]⟩)) := by
  refine Link.of fun K h => ?_
  simp only [laws_toIntS_n2, wpO_bind, wpO_cond, wpO_map, wpO_some] at h
  exact Awp.of (by kernel_rfl) h

theorem laws_toIntS_n3_l (x2238 : List Int) (x2255 : Int) (x2256 : List Int) : Link laws_toIntS_ctx LL (cq [0,0,1,0,1,1] (bodyOf Try.f19)) (aq [0,0,1,0,1,1] laws_toIntS_an) ⟨mkE 22 0 [(0, dL x2238), (3, .slc 0), (4, dI x2255)], [some (sI x2256)]⟩ (laws_toIntS_n3 x2238 x2255 x2256) (Sum.elim (fun (t : Int × (List Int)) => (Exit.normal, ⟨mkE 22 0 [(0, dL x2238), (3, .slc 0), (4, dI t.1)], [some (sI t.2)]⟩)) (fun (t : (List Int)) => ((Exit.exit 0), ⟨mkE 22 0 [(3, .slc 0)], [some (sI t)]⟩))) := by
  refine Link.of fun K h => ?_
  simp only [laws_toIntS_n3, wpO_bind, wpO_cond, wpO_map, wpO_some] at h
  exact Awp.of (by kernel_rfl) h

def laws_toIntS_n4_l (x2238 : List Int) (x2241 : List Int) := (link_loop (mk := fun (s : Int × (List Int)) => ⟨mkE 22 0 [(0, dL x2238), (3, .slc 0), (4, dI s.1)], [some (sI s.2)]⟩) (fin := (fun (t : (List Int)) => ((Exit.exit 0), ⟨mkE 22 0 [(3, .slc 0)], [some (sI t)]⟩))) (by
  rintro t f K h
  · exact h) (fun s => link_map (laws_toIntS_n3_l x2238 s.1 s.2) (Sum.elim (fun (t : Int × (List Int)) => Sum.inl (t.1, t.2)) (fun (t : (List Int)) => Sum.inr t)) (by
  rintro (t | t)
  · kernel_rfl
  · kernel_rfl)) (0, x2241))

def laws_toIntS_n5_l (x2238 : List Int) (x2241 : List Int) := (link_block (fin2 := (fun (t : (List Int)) => (Exit.normal, ⟨mkE 22 0 [(3, .slc 0)], [some (sI t)]⟩))) (id := 0) (laws_toIntS_n4_l x2238 x2241) (fun (t : (List Int)) => t) (by
  rintro t K h
  · exact Eq.mp (by kernel_rfl) h))

def laws_toIntS_n6_l (x2238 : List Int) (x2241 : List Int) := (link_seq (laws_toIntS_n2_l x2238 x2241) (fun (t : Unit) => (laws_toIntS_n5_l x2238 x2241)))

theorem laws_toIntS_n7_l (x2256 : List Int) : Link laws_toIntS_ctx LL (cq [1,1,1] (bodyOf Try.f19)) (aq [1,1,1] laws_toIntS_an) ⟨mkE 22 0 [(3, .slc 0)], [some (sI x2256)]⟩ (laws_toIntS_n7 x2256) (fun (t : (List Int)) => (Exit.ret, ⟨mkE 22 0 [(2, .slc 0)], [some (sI t)]⟩)) := by
  refine Link.of fun K h => ?_
  simp only [laws_toIntS_n7, wpO_bind, wpO_cond, wpO_map, wpO_some] at h
  exact Awp.of (by kernel_rfl) h

def laws_toIntS_n8_l (x2238 : List Int) (x2241 : List Int) := (link_seq (laws_toIntS_n6_l x2238 x2241) (fun (t : (List Int)) => (laws_toIntS_n7_l t)))

def laws_toIntS_n9_l (x2238 : List Int) := (link_group (c := (cq [0,1] (bodyOf Try.f19))) (a := (aq [0,1] laws_toIntS_an)) [(cq [0] (bodyOf Try.f19))] [(aq [0] laws_toIntS_an)] rfl (link_seq (laws_toIntS_n1_l x2238) (fun (t : (List Int)) => (laws_toIntS_n8_l x2238 t))))

theorem laws_toIntS_e (x2238 : List Int) {r : AV} {H' : Heap} (h : (Ans.mk _ (laws_toIntS x2238) (fun (t : (List Int)) => (.slc 0, [some (sI t)])) [] none).run = some (r, H')) : Awp laws_toIntS_ctx LL (bodyOf Try.f19) laws_toIntS_an ⟨mkE 22 0 [(0, dL x2238)], []⟩ (Ret (tlook tys) Try.f19.results.toList r H') :=
  ret_of' (Link.cast (by kernel_rfl) (by kernel_rfl) (laws_toIntS_n9_l x2238)) (by unfold laws_toIntS; kernel_rfl) (by
  intro t
  exact ret_mk [.slc 0] (by kernel_rfl) (by kernel_rfl) (by kernel_rfl) (by kernel_rfl)) h

def F_laws_toIntS : Fun := fun avs H =>
  match avs, H with
  | [.dat (.list (.int .i64)) x2238], [] => ⟨_, laws_toIntS x2238, fun (t : (List Int)) => (.slc 0, [some (sI t)]), [], none⟩
  | _, _ => Ans.no

theorem laws_toIntS_sound : Sound Try.prog 19 F_laws_toIntS := by
  refine fn_sound' (C := laws_toIntS_ctx) (c := bodyOf Try.f19) (cok_of tys_ok (alln) (alln) (by kernel_rfl)) Try.func19 (by kernel_rfl) LL laws_toIntS_an ?_
  intro avs H r H' h
  unfold F_laws_toIntS at h
  split at h
  · refine Awp.cast ?_ ?_ ?_ (laws_toIntS_e _ h) <;> kernel_rfl
  · simp [Ans.no, Ans.run] at h


/-! loop.example/headtrees/spec.TreeOk -/

def spec_TreeOk_an : Ann := (.seq (.leaf [0]) (.seq (.leaf [0, 3]) (.seq (.seq (.leaf [0, 3, 12]) (.cond (.seq (.leaf [2]) (.leaf [2])) (.leaf [0, 3]))) (.seq (.leaf [0, 3, 4]) (.seq (.seq (.leaf [0, 3, 4, 5]) (.block (.loop (.seq (.seq (.leaf [0, 3, 4, 5, 15]) (.cond (.leaf [0, 3, 4, 5]) (.leaf [4]))) (.seq (.block (.seq (.seq (.leaf [0, 3, 4, 5, 33]) (.cond (.seq (.leaf [2]) (.leaf [2])) (.leaf [0, 3, 4, 5]))) (.seq (.seq (.leaf [0, 3, 4, 5, 38]) (.cond (.leaf [0, 3, 4, 5]) (.leaf [0, 3, 4, 5]))) (.seq (.leaf [0, 3, 4, 5, 6]) (.seq (.seq (.leaf [0, 3, 4, 5, 6, 7]) (.block (.loop (.seq (.seq (.leaf [0, 3, 4, 5, 6, 7, 49]) (.cond (.leaf [0, 3, 4, 5, 6, 7]) (.leaf [0, 3, 4, 5, 6]))) (.seq (.block (.seq (.leaf [0, 3, 4, 5, 6, 7]) (.seq (.leaf [0, 3, 4, 5, 6, 7, 60]) (.cond (.seq (.leaf [2]) (.leaf [2])) (.leaf [0, 3, 4, 5, 6, 7]))))) (.leaf [0, 3, 4, 5, 6, 7])))))) (.seq (.leaf [0, 3, 4, 5, 62]) (.cond (.seq (.leaf [2]) (.leaf [2])) (.leaf [0, 3, 4, 5])))))))) (.leaf [0, 3, 4, 5])))))) (.seq (.leaf [2]) (.leaf [2])))))))

noncomputable def spec_TreeOk_ctx : Ctx := ⟨tlook tys, olook [(32, F_spec_l1In)], ioF, 0, false, []⟩

theorem spec_TreeOk_n1_l (x2273 : List Int) : Link spec_TreeOk_ctx LL (Code.seq (cq [0] (bodyOf Try.f33)) (Code.seq (cq [0,1] (bodyOf Try.f33)) (Code.seq (cq [0,1,1] (bodyOf Try.f33)) (cq [0,1,1,1] (bodyOf Try.f33))))) (Ann.seq (aq [0] spec_TreeOk_an) (Ann.seq (aq [0,1] spec_TreeOk_an) (Ann.seq (aq [0,1,1] spec_TreeOk_an) (aq [0,1,1,1] spec_TreeOk_an)))) ⟨mkE 65 0 [(0, dL x2273)], []⟩ (spec_TreeOk_n1 x2273) (Sum.elim (fun (t : Int) => (Exit.normal, ⟨mkE 65 0 [(0, dL x2273), (3, dI t), (4, dI 0)], []⟩)) (fun (t : Bool) => (Exit.ret, ⟨mkE 65 0 [(2, dB t)], []⟩))) := by
  refine Link.of fun K h => ?_
  simp only [spec_TreeOk_n1, wpO_bind, wpO_cond, wpO_map, wpO_some] at h
  exact Awp.of (by kernel_rfl) h

theorem spec_TreeOk_n2_l (x2273 : List Int) (x2278 : Int) : Link spec_TreeOk_ctx LL (cq [0,0,1,1,1,1] (bodyOf Try.f33)) (aq [0,0,1,1,1,1] spec_TreeOk_an) ⟨mkE 65 0 [(0, dL x2273), (3, dI x2278), (4, dI 0)], []⟩ (spec_TreeOk_n2) (fun (t : Unit) => (Exit.normal, ⟨mkE 65 0 [(0, dL x2273), (3, dI x2278), (4, dI 0), (5, dI 0)], []⟩)) := by
  refine Link.of fun K h => ?_
  simp only [spec_TreeOk_n2, wpO_bind, wpO_cond, wpO_map, wpO_some] at h
  exact Awp.of (by kernel_rfl) h

theorem spec_TreeOk_n3_l (x2273 : List Int) (x2278 : Int) (x2345 : Int) (x2346 : Int) : Link spec_TreeOk_ctx LL (cq [0,0,0,1,0,1,1,1,1] (bodyOf Try.f33)) (aq [0,0,0,1,0,1,1,1,1] spec_TreeOk_an) ⟨mkE 65 0 [(0, dL x2273), (3, dI x2278), (4, dI x2345), (5, dI x2346)], []⟩ (spec_TreeOk_n3 x2278 x2345 x2346) (Sum.elim (fun (t : Unit) => (Exit.normal, ⟨mkE 65 0 [(0, dL x2273), (3, dI x2278), (4, dI x2345), (5, dI x2346)], []⟩)) (fun (t : Int) => ((Exit.exit 0), ⟨mkE 65 0 [(4, dI t)], []⟩))) := by
  refine Link.of fun K h => ?_
  simp only [spec_TreeOk_n3, wpO_bind, wpO_cond, wpO_map, wpO_some] at h
  exact Awp.of (by kernel_rfl) h

theorem spec_TreeOk_n4_l (x2273 : List Int) (x2278 : Int) (x2345 : Int) (x2346 : Int) : Link spec_TreeOk_ctx LL (Code.seq (cq [0,0,0,1,0,0,1,0,1,1,1,1] (bodyOf Try.f33)) (Code.seq (cq [0,1,0,0,1,0,0,1,0,1,1,1,1] (bodyOf Try.f33)) (cq [0,1,1,0,0,1,0,0,1,0,1,1,1,1] (bodyOf Try.f33)))) (Ann.seq (aq [0,0,0,1,0,0,1,0,1,1,1,1] spec_TreeOk_an) (Ann.seq (aq [0,1,0,0,1,0,0,1,0,1,1,1,1] spec_TreeOk_an) (aq [0,1,1,0,0,1,0,0,1,0,1,1,1,1] spec_TreeOk_an))) ⟨mkE 65 0 [(0, dL x2273), (3, dI x2278), (4, dI x2345), (5, dI x2346)], []⟩ (spec_TreeOk_n4 x2273 x2278 x2345 x2346) (Sum.elim (fun (t : Int × Int) => (Exit.normal, ⟨mkE 65 0 [(0, dL x2273), (3, dI x2278), (4, dI t.1), (5, dI x2346), (6, dI t.2)], []⟩)) (fun (t : Bool) => (Exit.ret, ⟨mkE 65 0 [(2, dB t)], []⟩))) := by
  refine Link.of fun K h => ?_
  simp only [spec_TreeOk_n4, wpO_bind, wpO_cond, wpO_map, wpO_some] at h
  exact Awp.of (by kernel_rfl) h

theorem spec_TreeOk_n5_l (x2273 : List Int) (x2278 : Int) (x2374 : Int) (x2346 : Int) (x2375 : Int) : Link spec_TreeOk_ctx LL (cq [0,0,1,1,1,0,0,1,0,0,1,0,1,1,1,1] (bodyOf Try.f33)) (aq [0,0,1,1,1,0,0,1,0,0,1,0,1,1,1,1] spec_TreeOk_an) ⟨mkE 65 0 [(0, dL x2273), (3, dI x2278), (4, dI x2374), (5, dI x2346), (6, dI x2375)], []⟩ (spec_TreeOk_n5) (fun (t : Unit) => (Exit.normal, ⟨mkE 65 0 [(0, dL x2273), (3, dI x2278), (4, dI x2374), (5, dI x2346), (6, dI x2375), (7, dI 0)], []⟩)) := by
  refine Link.of fun K h => ?_
  simp only [spec_TreeOk_n5, wpO_bind, wpO_cond, wpO_map, wpO_some] at h
  exact Awp.of (by kernel_rfl) h

theorem spec_TreeOk_n6_l (x2273 : List Int) (x2278 : Int) (x2374 : Int) (x2346 : Int) (x2391 : Int) (x2392 : Int) : Link spec_TreeOk_ctx LL (cq [0,0,1,0,1,1,1,0,0,1,0,0,1,0,1,1,1,1] (bodyOf Try.f33)) (aq [0,0,1,0,1,1,1,0,0,1,0,0,1,0,1,1,1,1] spec_TreeOk_an) ⟨mkE 65 0 [(0, dL x2273), (3, dI x2278), (4, dI x2374), (5, dI x2346), (6, dI x2391), (7, dI x2392)], []⟩ (spec_TreeOk_n6 x2273 x2278 x2391 x2392) (Sum.elim (fun (t : Int × Int) => (Exit.normal, ⟨mkE 65 0 [(0, dL x2273), (3, dI x2278), (4, dI x2374), (5, dI x2346), (6, dI t.1), (7, dI t.2)], []⟩)) (Sum.elim (fun (t : Bool) => (Exit.ret, ⟨mkE 65 0 [(2, dB t)], []⟩)) (fun (t : Int) => ((Exit.exit 2), ⟨mkE 65 0 [(0, dL x2273), (3, dI x2278), (4, dI x2374), (5, dI x2346), (6, dI t)], []⟩)))) := by
  refine Link.of fun K h => ?_
  simp only [spec_TreeOk_n6, wpO_bind, wpO_cond, wpO_map, wpO_some] at h
  exact Awp.of (by kernel_rfl) h

def spec_TreeOk_n7_l (x2273 : List Int) (x2278 : Int) (x2374 : Int) (x2346 : Int) (x2375 : Int) := (link_loop (mk := fun (s : Int × Int) => ⟨mkE 65 0 [(0, dL x2273), (3, dI x2278), (4, dI x2374), (5, dI x2346), (6, dI s.1), (7, dI s.2)], []⟩) (fin := (Sum.elim (fun (t : Bool) => (Exit.ret, ⟨mkE 65 0 [(2, dB t)], []⟩)) (fun (t : Int) => ((Exit.exit 2), ⟨mkE 65 0 [(0, dL x2273), (3, dI x2278), (4, dI x2374), (5, dI x2346), (6, dI t)], []⟩)))) (by
  rintro (t | t) f K h
  · exact h
  · exact h) (fun s => link_map (spec_TreeOk_n6_l x2273 x2278 x2374 x2346 s.1 s.2) (Sum.elim (fun (t : Int × Int) => Sum.inl (t.1, t.2)) (Sum.elim (fun (t : Bool) => Sum.inr (Sum.inl t)) (fun (t : Int) => Sum.inr (Sum.inr t)))) (by
  rintro (t | t | t)
  · kernel_rfl
  · kernel_rfl
  · kernel_rfl)) (x2375, 0))

def spec_TreeOk_n8_l (x2273 : List Int) (x2278 : Int) (x2374 : Int) (x2346 : Int) (x2375 : Int) := (link_block (fin2 := (Sum.elim (fun (t : Int) => (Exit.normal, ⟨mkE 65 0 [(0, dL x2273), (3, dI x2278), (4, dI x2374), (5, dI x2346), (6, dI t)], []⟩)) (fun (t : Bool) => (Exit.ret, ⟨mkE 65 0 [(2, dB t)], []⟩)))) (id := 2) (spec_TreeOk_n7_l x2273 x2278 x2374 x2346 x2375) (Sum.elim (fun (t : Bool) => (Sum.inr t)) (fun (t : Int) => (Sum.inl t))) (by
  rintro (t | t) K h
  · exact Eq.mp (by kernel_rfl) h
  · exact Eq.mp (by kernel_rfl) h))

def spec_TreeOk_n9_l (x2273 : List Int) (x2278 : Int) (x2374 : Int) (x2346 : Int) (x2375 : Int) := (link_seq (spec_TreeOk_n5_l x2273 x2278 x2374 x2346 x2375) (fun (t : Unit) => (spec_TreeOk_n8_l x2273 x2278 x2374 x2346 x2375)))

theorem spec_TreeOk_n10_l (x2273 : List Int) (x2278 : Int) (x2374 : Int) (x2346 : Int) (x2391 : Int) : Link spec_TreeOk_ctx LL (cq [1,1,1,1,0,0,1,0,0,1,0,1,1,1,1] (bodyOf Try.f33)) (aq [1,1,1,1,0,0,1,0,0,1,0,1,1,1,1] spec_TreeOk_an) ⟨mkE 65 0 [(0, dL x2273), (3, dI x2278), (4, dI x2374), (5, dI x2346), (6, dI x2391)], []⟩ (spec_TreeOk_n10 x2391) (Sum.elim (fun (t : Unit) => (Exit.normal, ⟨mkE 65 0 [(0, dL x2273), (3, dI x2278), (4, dI x2374), (5, dI x2346)], []⟩)) (fun (t : Bool) => (Exit.ret, ⟨mkE 65 0 [(2, dB t)], []⟩))) := by
  refine Link.of fun K h => ?_
  simp only [spec_TreeOk_n10, wpO_bind, wpO_cond, wpO_map, wpO_some] at h
  exact Awp.of (by kernel_rfl) h

def spec_TreeOk_n11_l (x2273 : List Int) (x2278 : Int) (x2374 : Int) (x2346 : Int) (x2375 : Int) := (link_seq2 (spec_TreeOk_n9_l x2273 x2278 x2374 x2346 x2375) (fun (t : Int) => (spec_TreeOk_n10_l x2273 x2278 x2374 x2346 t)) (fun (t : Bool) => (Sum.inr t)) (by
  rintro t
  · kernel_rfl) (by
  rintro t f K h
  · exact h))

def spec_TreeOk_n12_l (x2273 : List Int) (x2278 : Int) (x2345 : Int) (x2346 : Int) := (link_group (c := (cq [0,1,1,0,0,1,0,0,1,0,1,1,1,1] (bodyOf Try.f33))) (a := (aq [0,1,1,0,0,1,0,0,1,0,1,1,1,1] spec_TreeOk_an)) [(cq [0,0,0,1,0,0,1,0,1,1,1,1] (bodyOf Try.f33)), (cq [0,1,0,0,1,0,0,1,0,1,1,1,1] (bodyOf Try.f33))] [(aq [0,0,0,1,0,0,1,0,1,1,1,1] spec_TreeOk_an), (aq [0,1,0,0,1,0,0,1,0,1,1,1,1] spec_TreeOk_an)] rfl (link_seq2 (spec_TreeOk_n4_l x2273 x2278 x2345 x2346) (fun (t : Int × Int) => (link_map (fin2 := (Sum.elim (fun (t : Int) => (Exit.normal, ⟨mkE 65 0 [(0, dL x2273), (3, dI x2278), (4, dI t), (5, dI x2346)], []⟩)) (fun (t : Bool) => (Exit.ret, ⟨mkE 65 0 [(2, dB t)], []⟩)))) (spec_TreeOk_n11_l x2273 x2278 t.1 x2346 t.2) (Sum.elim (fun (u : Unit) => (Sum.inl t.1)) (fun (u : Bool) => (Sum.inr u))) (by
  rintro (t | t)
  · kernel_rfl
  · kernel_rfl))) (fun (t : Bool) => (Sum.inr t)) (by
  rintro t
  · kernel_rfl) (by
  rintro t f K h
  · exact h)))

def spec_TreeOk_n13_l (x2273 : List Int) (x2278 : Int) (x2345 : Int) (x2346 : Int) := (link_block (fin2 := (Sum.elim (fun (t : Int) => (Exit.normal, ⟨mkE 65 0 [(0, dL x2273), (3, dI x2278), (4, dI t), (5, dI x2346)], []⟩)) (fun (t : Bool) => (Exit.ret, ⟨mkE 65 0 [(2, dB t)], []⟩)))) (id := 1) (spec_TreeOk_n12_l x2273 x2278 x2345 x2346) (Sum.elim (fun (t : Int) => (Sum.inl t)) (fun (t : Bool) => (Sum.inr t))) (by
  rintro (t | t) K h
  · exact Eq.mp (by kernel_rfl) h
  · exact Eq.mp (by kernel_rfl) h))

theorem spec_TreeOk_n14_l (x2273 : List Int) (x2278 : Int) (x2374 : Int) (x2346 : Int) : Link spec_TreeOk_ctx LL (cq [1,1,0,0,1,0,1,1,1,1] (bodyOf Try.f33)) (aq [1,1,0,0,1,0,1,1,1,1] spec_TreeOk_an) ⟨mkE 65 0 [(0, dL x2273), (3, dI x2278), (4, dI x2374), (5, dI x2346)], []⟩ (spec_TreeOk_n14 x2346) (fun (t : Int) => (Exit.normal, ⟨mkE 65 0 [(0, dL x2273), (3, dI x2278), (4, dI x2374), (5, dI t)], []⟩)) := by
  refine Link.of fun K h => ?_
  simp only [spec_TreeOk_n14, wpO_bind, wpO_cond, wpO_map, wpO_some] at h
  exact Awp.of (by kernel_rfl) h

def spec_TreeOk_n15_l (x2273 : List Int) (x2278 : Int) (x2345 : Int) (x2346 : Int) := (link_seq2 (spec_TreeOk_n13_l x2273 x2278 x2345 x2346) (fun (t : Int) => (link_map (fin2 := (Sum.elim (fun (t : Int × Int) => (Exit.normal, ⟨mkE 65 0 [(0, dL x2273), (3, dI x2278), (4, dI t.1), (5, dI t.2)], []⟩)) (fun (t : Bool) => (Exit.ret, ⟨mkE 65 0 [(2, dB t)], []⟩)))) (spec_TreeOk_n14_l x2273 x2278 t x2346) (fun (u : Int) => (Sum.inl (t, u))) (by
  rintro t
  · kernel_rfl))) (fun (t : Bool) => (Sum.inr t)) (by
  rintro t
  · kernel_rfl) (by
  rintro t f K h
  · exact h))

def spec_TreeOk_n16_l (x2273 : List Int) (x2278 : Int) (x2345 : Int) (x2346 : Int) := (link_seq2 (spec_TreeOk_n3_l x2273 x2278 x2345 x2346) (fun (t : Unit) => (link_map (fin2 := (Sum.elim (fun (t : Int × Int) => (Exit.normal, ⟨mkE 65 0 [(0, dL x2273), (3, dI x2278), (4, dI t.1), (5, dI t.2)], []⟩)) (Sum.elim (fun (t : Bool) => (Exit.ret, ⟨mkE 65 0 [(2, dB t)], []⟩)) (fun (t : Int) => ((Exit.exit 0), ⟨mkE 65 0 [(4, dI t)], []⟩))))) (spec_TreeOk_n15_l x2273 x2278 x2345 x2346) (Sum.elim (fun (t : Int × Int) => (Sum.inl (t.1, t.2))) (fun (t : Bool) => (Sum.inr (Sum.inl t)))) (by
  rintro (t | t)
  · kernel_rfl
  · kernel_rfl))) (fun (t : Int) => (Sum.inr (Sum.inr t))) (by
  rintro t
  · kernel_rfl) (by
  rintro t f K h
  · exact h))

def spec_TreeOk_n17_l (x2273 : List Int) (x2278 : Int) := (link_loop (mk := fun (s : Int × Int) => ⟨mkE 65 0 [(0, dL x2273), (3, dI x2278), (4, dI s.1), (5, dI s.2)], []⟩) (fin := (Sum.elim (fun (t : Bool) => (Exit.ret, ⟨mkE 65 0 [(2, dB t)], []⟩)) (fun (t : Int) => ((Exit.exit 0), ⟨mkE 65 0 [(4, dI t)], []⟩)))) (by
  rintro (t | t) f K h
  · exact h
  · exact h) (fun s => link_map (spec_TreeOk_n16_l x2273 x2278 s.1 s.2) (Sum.elim (fun (t : Int × Int) => Sum.inl (t.1, t.2)) (Sum.elim (fun (t : Bool) => Sum.inr (Sum.inl t)) (fun (t : Int) => Sum.inr (Sum.inr t)))) (by
  rintro (t | t | t)
  · kernel_rfl
  · kernel_rfl
  · kernel_rfl)) (0, 0))

def spec_TreeOk_n18_l (x2273 : List Int) (x2278 : Int) := (link_block (fin2 := (Sum.elim (fun (t : Int) => (Exit.normal, ⟨mkE 65 0 [(4, dI t)], []⟩)) (fun (t : Bool) => (Exit.ret, ⟨mkE 65 0 [(2, dB t)], []⟩)))) (id := 0) (spec_TreeOk_n17_l x2273 x2278) (Sum.elim (fun (t : Bool) => (Sum.inr t)) (fun (t : Int) => (Sum.inl t))) (by
  rintro (t | t) K h
  · exact Eq.mp (by kernel_rfl) h
  · exact Eq.mp (by kernel_rfl) h))

def spec_TreeOk_n19_l (x2273 : List Int) (x2278 : Int) := (link_seq (spec_TreeOk_n2_l x2273 x2278) (fun (t : Unit) => (spec_TreeOk_n18_l x2273 x2278)))

theorem spec_TreeOk_n20_l (x2345 : Int) : Link spec_TreeOk_ctx LL (cq [1,1,1,1,1] (bodyOf Try.f33)) (aq [1,1,1,1,1] spec_TreeOk_an) ⟨mkE 65 0 [(4, dI x2345)], []⟩ (spec_TreeOk_n20 x2345) (fun (t : Bool) => (Exit.ret, ⟨mkE 65 0 [(2, dB t)], []⟩)) := by
  refine Link.of fun K h => ?_
  simp only [spec_TreeOk_n20, wpO_bind, wpO_cond, wpO_map, wpO_some] at h
  exact Awp.of (by kernel_rfl) h

def spec_TreeOk_n21_l (x2273 : List Int) (x2278 : Int) := (link_seq2 (spec_TreeOk_n19_l x2273 x2278) (fun (t : Int) => (spec_TreeOk_n20_l t)) (fun (t : Bool) => t) (by
  rintro t
  · kernel_rfl) (by
  rintro t f K h
  · exact h))

def spec_TreeOk_n22_l (x2273 : List Int) := (link_group (c := (cq [0,1,1,1] (bodyOf Try.f33))) (a := (aq [0,1,1,1] spec_TreeOk_an)) [(cq [0] (bodyOf Try.f33)), (cq [0,1] (bodyOf Try.f33)), (cq [0,1,1] (bodyOf Try.f33))] [(aq [0] spec_TreeOk_an), (aq [0,1] spec_TreeOk_an), (aq [0,1,1] spec_TreeOk_an)] rfl (link_seq2 (spec_TreeOk_n1_l x2273) (fun (t : Int) => (spec_TreeOk_n21_l x2273 t)) (fun (t : Bool) => t) (by
  rintro t
  · kernel_rfl) (by
  rintro t f K h
  · exact h)))

theorem spec_TreeOk_e (x2273 : List Int) {r : AV} {H' : Heap} (h : (Ans.mk _ (spec_TreeOk x2273) (fun (t : Bool) => (dB t, [])) [] none).run = some (r, H')) : Awp spec_TreeOk_ctx LL (bodyOf Try.f33) spec_TreeOk_an ⟨mkE 65 0 [(0, dL x2273)], []⟩ (Ret (tlook tys) Try.f33.results.toList r H') :=
  ret_of' (Link.cast (by kernel_rfl) (by kernel_rfl) (spec_TreeOk_n22_l x2273)) (by unfold spec_TreeOk; kernel_rfl) (by
  intro t
  exact ret_mk [dB t] (by kernel_rfl) (by kernel_rfl) (by kernel_rfl) (by kernel_rfl)) h

def F_spec_TreeOk : Fun := fun avs H =>
  match avs, H with
  | [.dat (.list (.int .i64)) x2273], [] => ⟨_, spec_TreeOk x2273, fun (t : Bool) => (dB t, []), [], none⟩
  | _, _ => Ans.no

theorem spec_TreeOk_sound : Sound Try.prog 33 F_spec_TreeOk := by
  refine fn_sound' (C := spec_TreeOk_ctx) (c := bodyOf Try.f33) (cok_of tys_ok (allc spec_l1In_sound alln) (allc Try.call32 alln) (by kernel_rfl)) Try.func33 (by kernel_rfl) LL spec_TreeOk_an ?_
  intro avs H r H' h
  unfold F_spec_TreeOk at h
  split at h
  · refine Awp.cast ?_ ?_ ?_ (spec_TreeOk_e _ h) <;> kernel_rfl
  · simp [Ans.no, Ans.run] at h


/-! loop.example/headtrees/spec.SidesOf -/

def spec_SidesOf_an : Ann := (.seq (.leaf [0, 1]) (.seq (.seq (.leaf [0, 1, 19]) (.cond (.seq (.leaf [4, 5, 6]) (.leaf [4, 5, 6])) (.leaf [0, 1]))) (.seq (.leaf [0, 1, 7]) (.seq (.leaf [0, 1, 7, 8]) (.seq (.seq (.leaf [0, 1, 7, 8, 9]) (.block (.loop (.seq (.seq (.leaf [0, 1, 7, 8, 9, 23]) (.cond (.leaf [0, 1, 7, 8, 9]) (.leaf [7, 8]))) (.seq (.block (.seq (.seq (.leaf [0, 1, 7, 8, 9, 37]) (.cond (.leaf [0, 1, 7, 8, 9]) (.leaf [0, 1, 7, 8, 9]))) (.seq (.leaf [0, 1, 7, 8, 9, 51]) (.cond (.leaf [0, 1, 7, 8, 9]) (.leaf [0, 1, 7, 8, 9]))))) (.leaf [0, 1, 7, 8, 9])))))) (.seq (.leaf [4, 5, 6]) (.leaf [4, 5, 6])))))))

noncomputable def spec_SidesOf_ctx : Ctx := ⟨tlook tys, olook [(33, F_spec_TreeOk), (32, F_spec_l1In)], ioF, 0, false, []⟩

theorem spec_SidesOf_n1_l (x2271 : List Int) (x2272 : Int) : Link spec_SidesOf_ctx LL (Code.seq (cq [0] (bodyOf Try.f18)) (Code.seq (cq [0,1] (bodyOf Try.f18)) (Code.seq (cq [0,1,1] (bodyOf Try.f18)) (cq [0,1,1,1] (bodyOf Try.f18))))) (Ann.seq (aq [0] spec_SidesOf_an) (Ann.seq (aq [0,1] spec_SidesOf_an) (Ann.seq (aq [0,1,1] spec_SidesOf_an) (aq [0,1,1,1] spec_SidesOf_an)))) ⟨mkE 56 0 [(0, dL x2271), (1, dI x2272)], []⟩ (spec_SidesOf_n1 x2271 x2272) (Sum.elim (fun (t : Unit) => (Exit.normal, ⟨mkE 56 0 [(0, dL x2271), (1, dI x2272), (7, dI 0), (8, dI 0)], []⟩)) (fun (t : Int × Int × Bool) => (Exit.ret, ⟨mkE 56 0 [(4, dI t.1), (5, dI t.2.1), (6, dB t.2.2)], []⟩))) := by
  refine Link.of fun K h => ?_
  simp only [spec_SidesOf_n1, wpO_bind, wpO_cond, wpO_map, wpO_some] at h
  exact Awp.of (by kernel_rfl) h

theorem spec_SidesOf_n2_l (x2271 : List Int) (x2272 : Int) : Link spec_SidesOf_ctx LL (cq [0,0,1,1,1,1] (bodyOf Try.f18)) (aq [0,0,1,1,1,1] spec_SidesOf_an) ⟨mkE 56 0 [(0, dL x2271), (1, dI x2272), (7, dI 0), (8, dI 0)], []⟩ (spec_SidesOf_n2) (fun (t : Unit) => (Exit.normal, ⟨mkE 56 0 [(0, dL x2271), (1, dI x2272), (7, dI 0), (8, dI 0), (9, dI 0)], []⟩)) := by
  refine Link.of fun K h => ?_
  simp only [spec_SidesOf_n2, wpO_bind, wpO_cond, wpO_map, wpO_some] at h
  exact Awp.of (by kernel_rfl) h

theorem spec_SidesOf_n3_l (x2271 : List Int) (x2272 : Int) (x2487 : Int) (x2488 : Int) (x2489 : Int) : Link spec_SidesOf_ctx LL (cq [0,0,1,0,1,1,1,1] (bodyOf Try.f18)) (aq [0,0,1,0,1,1,1,1] spec_SidesOf_an) ⟨mkE 56 0 [(0, dL x2271), (1, dI x2272), (7, dI x2487), (8, dI x2488), (9, dI x2489)], []⟩ (spec_SidesOf_n3 x2271 x2272 x2487 x2488 x2489) (Sum.elim (fun (t : Int × Int × Int) => (Exit.normal, ⟨mkE 56 0 [(0, dL x2271), (1, dI x2272), (7, dI t.1), (8, dI t.2.1), (9, dI t.2.2)], []⟩)) (fun (t : Int × Int) => ((Exit.exit 0), ⟨mkE 56 0 [(7, dI t.1), (8, dI t.2)], []⟩))) := by
  refine Link.of fun K h => ?_
  simp only [spec_SidesOf_n3, wpO_bind, wpO_cond, wpO_map, wpO_some] at h
  exact Awp.of (by kernel_rfl) h

def spec_SidesOf_n4_l (x2271 : List Int) (x2272 : Int) := (link_loop (mk := fun (s : Int × Int × Int) => ⟨mkE 56 0 [(0, dL x2271), (1, dI x2272), (7, dI s.1), (8, dI s.2.1), (9, dI s.2.2)], []⟩) (fin := (fun (t : Int × Int) => ((Exit.exit 0), ⟨mkE 56 0 [(7, dI t.1), (8, dI t.2)], []⟩))) (by
  rintro t f K h
  · exact h) (fun s => link_map (spec_SidesOf_n3_l x2271 x2272 s.1 s.2.1 s.2.2) (Sum.elim (fun (t : Int × Int × Int) => Sum.inl (t.1, t.2.1, t.2.2)) (fun (t : Int × Int) => Sum.inr t)) (by
  rintro (t | t)
  · kernel_rfl
  · kernel_rfl)) (0, 0, 0))

def spec_SidesOf_n5_l (x2271 : List Int) (x2272 : Int) := (link_block (fin2 := (fun (t : Int × Int) => (Exit.normal, ⟨mkE 56 0 [(7, dI t.1), (8, dI t.2)], []⟩))) (id := 0) (spec_SidesOf_n4_l x2271 x2272) (fun (t : Int × Int) => (t.1, t.2)) (by
  rintro t K h
  · exact Eq.mp (by kernel_rfl) h))

def spec_SidesOf_n6_l (x2271 : List Int) (x2272 : Int) := (link_seq (spec_SidesOf_n2_l x2271 x2272) (fun (t : Unit) => (spec_SidesOf_n5_l x2271 x2272)))

theorem spec_SidesOf_n7_l (x2487 : Int) (x2488 : Int) : Link spec_SidesOf_ctx LL (cq [1,1,1,1,1] (bodyOf Try.f18)) (aq [1,1,1,1,1] spec_SidesOf_an) ⟨mkE 56 0 [(7, dI x2487), (8, dI x2488)], []⟩ (spec_SidesOf_n7 x2487 x2488) (fun (t : Int × Int × Bool) => (Exit.ret, ⟨mkE 56 0 [(4, dI t.1), (5, dI t.2.1), (6, dB t.2.2)], []⟩)) := by
  refine Link.of fun K h => ?_
  simp only [spec_SidesOf_n7, wpO_bind, wpO_cond, wpO_map, wpO_some] at h
  exact Awp.of (by kernel_rfl) h

def spec_SidesOf_n8_l (x2271 : List Int) (x2272 : Int) := (link_seq (spec_SidesOf_n6_l x2271 x2272) (fun (t : Int × Int) => (spec_SidesOf_n7_l t.1 t.2)))

def spec_SidesOf_n9_l (x2271 : List Int) (x2272 : Int) := (link_group (c := (cq [0,1,1,1] (bodyOf Try.f18))) (a := (aq [0,1,1,1] spec_SidesOf_an)) [(cq [0] (bodyOf Try.f18)), (cq [0,1] (bodyOf Try.f18)), (cq [0,1,1] (bodyOf Try.f18))] [(aq [0] spec_SidesOf_an), (aq [0,1] spec_SidesOf_an), (aq [0,1,1] spec_SidesOf_an)] rfl (link_seq2 (spec_SidesOf_n1_l x2271 x2272) (fun (t : Unit) => (spec_SidesOf_n8_l x2271 x2272)) (fun (t : Int × Int × Bool) => t) (by
  rintro t
  · kernel_rfl) (by
  rintro t f K h
  · exact h)))

theorem spec_SidesOf_e (x2271 : List Int) (x2272 : Int) {r : AV} {H' : Heap} (h : (Ans.mk _ (spec_SidesOf x2271 x2272) (fun (t : Int × Int × Bool) => (.tup [dI t.1, dI t.2.1, dB t.2.2], [])) [] none).run = some (r, H')) : Awp spec_SidesOf_ctx LL (bodyOf Try.f18) spec_SidesOf_an ⟨mkE 56 0 [(0, dL x2271), (1, dI x2272)], []⟩ (Ret (tlook tys) Try.f18.results.toList r H') :=
  ret_of' (Link.cast (by kernel_rfl) (by kernel_rfl) (spec_SidesOf_n9_l x2271 x2272)) (by unfold spec_SidesOf; kernel_rfl) (by
  intro t
  exact ret_mk [dI t.1, dI t.2.1, dB t.2.2] (by kernel_rfl) (by kernel_rfl) (by kernel_rfl) (by kernel_rfl)) h

def F_spec_SidesOf : Fun := fun avs H =>
  match avs, H with
  | [.dat (.list (.int .i64)) x2271, .dat (.int .i64) x2272], [] => ⟨_, spec_SidesOf x2271 x2272, fun (t : Int × Int × Bool) => (.tup [dI t.1, dI t.2.1, dB t.2.2], []), [], none⟩
  | _, _ => Ans.no

theorem spec_SidesOf_sound : Sound Try.prog 18 F_spec_SidesOf := by
  refine fn_sound' (C := spec_SidesOf_ctx) (c := bodyOf Try.f18) (cok_of tys_ok (allc spec_TreeOk_sound (allc spec_l1In_sound alln)) (allc Try.call33 (allc Try.call32 alln)) (by kernel_rfl)) Try.func18 (by kernel_rfl) LL spec_SidesOf_an ?_
  intro avs H r H' h
  unfold F_spec_SidesOf at h
  split at h
  · refine Awp.cast ?_ ?_ ?_ (spec_SidesOf_e _ _ h) <;> kernel_rfl
  · simp [Ans.no, Ans.run] at h


/-! loop.example/headtrees/impl.wordOk -/

def impl_wordOk_an : Ann := (.seq (.leaf [0, 1]) (.seq (.leaf [4]) (.leaf [4])))

noncomputable def impl_wordOk_ctx : Ctx := ⟨tlook tys, olook [(30, F_impl_TreeOk)], ioF, 0, false, []⟩

theorem impl_wordOk_n1_l (x2573 : List Int) (x2574 : Int) : Link impl_wordOk_ctx LL (bodyOf Try.f34) impl_wordOk_an ⟨mkE 17 0 [(0, dL x2573), (1, dI x2574)], []⟩ (impl_wordOk_n1 x2573 x2574) (fun (t : Bool) => (Exit.ret, ⟨mkE 17 0 [(4, dB t)], []⟩)) := by
  refine Link.of fun K h => ?_
  simp only [impl_wordOk_n1, wpO_bind, wpO_cond, wpO_map, wpO_some] at h
  exact Awp.of (by kernel_rfl) h

theorem impl_wordOk_e (x2573 : List Int) (x2574 : Int) {r : AV} {H' : Heap} (h : (Ans.mk _ (impl_wordOk x2573 x2574) (fun (t : Bool) => (dB t, [])) [] none).run = some (r, H')) : Awp impl_wordOk_ctx LL (bodyOf Try.f34) impl_wordOk_an ⟨mkE 17 0 [(0, dL x2573), (1, dI x2574)], []⟩ (Ret (tlook tys) Try.f34.results.toList r H') :=
  ret_of' (impl_wordOk_n1_l x2573 x2574) (by unfold impl_wordOk; kernel_rfl) (by
  intro t
  exact ret_mk [dB t] (by kernel_rfl) (by kernel_rfl) (by kernel_rfl) (by kernel_rfl)) h

def F_impl_wordOk : Fun := fun avs H =>
  match avs, H with
  | [.dat (.list (.int .i64)) x2573, .dat (.int .i64) x2574], [] => ⟨_, impl_wordOk x2573 x2574, fun (t : Bool) => (dB t, []), [], none⟩
  | _, _ => Ans.no

theorem impl_wordOk_sound : Sound Try.prog 34 F_impl_wordOk := by
  refine fn_sound' (C := impl_wordOk_ctx) (c := bodyOf Try.f34) (cok_of tys_ok (allc impl_TreeOk_sound alln) (allc Try.call30 alln) (by kernel_rfl)) Try.func34 (by kernel_rfl) LL impl_wordOk_an ?_
  intro avs H r H' h
  unfold F_impl_wordOk at h
  split at h
  · refine Awp.cast ?_ ?_ ?_ (impl_wordOk_e _ _ h) <;> kernel_rfl
  · simp [Ans.no, Ans.run] at h


/-! loop.example/headtrees/impl.only -/

def impl_only_an : Ann := (.seq (.leaf [0]) (.seq (.leaf [2]) (.leaf [2])))

noncomputable def impl_only_ctx : Ctx := ⟨tlook tys, olook [], ioF, 0, false, []⟩

theorem impl_only_n1_l (x2599 : Int) : Link impl_only_ctx LL (bodyOf Try.f45) impl_only_an ⟨mkE 6 0 [(0, dI x2599)], []⟩ (impl_only_n1 x2599) (fun (t : Int) => (Exit.ret, ⟨mkE 6 0 [(2, dW t)], []⟩)) := by
  refine Link.of fun K h => ?_
  simp only [impl_only_n1, wpO_bind, wpO_cond, wpO_map, wpO_some] at h
  exact Awp.of (by kernel_rfl) h

theorem impl_only_e (x2599 : Int) {r : AV} {H' : Heap} (h : (Ans.mk _ (impl_only x2599) (fun (t : Int) => (dW t, [])) [] none).run = some (r, H')) : Awp impl_only_ctx LL (bodyOf Try.f45) impl_only_an ⟨mkE 6 0 [(0, dI x2599)], []⟩ (Ret (tlook tys) Try.f45.results.toList r H') :=
  ret_of' (impl_only_n1_l x2599) (by unfold impl_only; kernel_rfl) (by
  intro t
  exact ret_mk [dW t] (by kernel_rfl) (by kernel_rfl) (by kernel_rfl) (by kernel_rfl)) h

def F_impl_only : Fun := fun avs H =>
  match avs, H with
  | [.dat (.int .i64) x2599], [] => ⟨_, impl_only x2599, fun (t : Int) => (dW t, []), [], none⟩
  | _, _ => Ans.no

theorem impl_only_sound : Sound Try.prog 45 F_impl_only := by
  refine fn_sound' (C := impl_only_ctx) (c := bodyOf Try.f45) (cok_of tys_ok (alln) (alln) (by kernel_rfl)) Try.func45 (by kernel_rfl) LL impl_only_an ?_
  intro avs H r H' h
  unfold F_impl_only at h
  split at h
  · refine Awp.cast ?_ ?_ ?_ (impl_only_e _ h) <;> kernel_rfl
  · simp [Ans.no, Ans.run] at h


/-! loop.example/headtrees/impl.dependents -/

def impl_dependents_an : Ann := (.seq (.leaf [0, 1]) (.seq (.leaf [0, 1, 5]) (.seq (.seq (.leaf [0, 1, 5, 8, 9]) (.block (.loop (.seq (.leaf [0, 1, 5, 8, 9, 10]) (.seq (.cond (.leaf [0, 1, 5, 8, 9]) (.leaf [5])) (.seq (.block (.seq (.leaf [0, 1, 5, 6, 8, 9]) (.seq (.leaf [0, 1, 5, 6, 8, 9, 17]) (.cond (.leaf [0, 1, 5, 8, 9]) (.leaf [0, 1, 5, 8, 9]))))) (.leaf [0, 1, 5, 8, 9]))))))) (.seq (.leaf [4]) (.leaf [4])))))

noncomputable def impl_dependents_ctx : Ctx := ⟨tlook tys, olook [(45, F_impl_only)], ioF, 0, false, []⟩

theorem impl_dependents_n1_l (x2590 : List Int) (x2591 : Int) : Link impl_dependents_ctx LL (Code.seq (cq [0] (bodyOf Try.f40)) (cq [0,1] (bodyOf Try.f40))) (Ann.seq (aq [0] impl_dependents_an) (aq [0,1] impl_dependents_an)) ⟨mkE 25 0 [(0, dL x2590), (1, dI x2591)], []⟩ (impl_dependents_n1) (fun (t : Unit) => (Exit.normal, ⟨mkE 25 0 [(0, dL x2590), (1, dI x2591), (5, dW 0)], []⟩)) := by
  refine Link.of fun K h => ?_
  simp only [impl_dependents_n1, wpO_bind, wpO_cond, wpO_map, wpO_some] at h
  exact Awp.of (by kernel_rfl) h

theorem impl_dependents_n2_l (x2590 : List Int) (x2591 : Int) : Link impl_dependents_ctx LL (cq [0,0,1,1] (bodyOf Try.f40)) (aq [0,0,1,1] impl_dependents_an) ⟨mkE 25 0 [(0, dL x2590), (1, dI x2591), (5, dW 0)], []⟩ (impl_dependents_n2 x2590) (fun (t : Int) => (Exit.normal, ⟨mkE 25 0 [(0, dL x2590), (1, dI x2591), (5, dW 0), (8, dI t), (9, dI 0)], []⟩)) := by
  refine Link.of fun K h => ?_
  simp only [impl_dependents_n2, wpO_bind, wpO_cond, wpO_map, wpO_some] at h
  exact Awp.of (by kernel_rfl) h

theorem impl_dependents_n3_l (x2590 : List Int) (x2591 : Int) (x2616 : Int) (x2592 : Int) (x2617 : Int) : Link impl_dependents_ctx LL (cq [0,0,1,0,1,1] (bodyOf Try.f40)) (aq [0,0,1,0,1,1] impl_dependents_an) ⟨mkE 25 0 [(0, dL x2590), (1, dI x2591), (5, dW x2616), (8, dI x2592), (9, dI x2617)], []⟩ (impl_dependents_n3 x2590 x2591 x2616 x2592 x2617) (Sum.elim (fun (t : Int × Int) => (Exit.normal, ⟨mkE 25 0 [(0, dL x2590), (1, dI x2591), (5, dW t.1), (8, dI x2592), (9, dI t.2)], []⟩)) (fun (t : Int) => ((Exit.exit 0), ⟨mkE 25 0 [(5, dW t)], []⟩))) := by
  refine Link.of fun K h => ?_
  simp only [impl_dependents_n3, wpO_bind, wpO_cond, wpO_map, wpO_some] at h
  exact Awp.of (by kernel_rfl) h

def impl_dependents_n4_l (x2590 : List Int) (x2591 : Int) (x2592 : Int) := (link_loop (mk := fun (s : Int × Int) => ⟨mkE 25 0 [(0, dL x2590), (1, dI x2591), (5, dW s.1), (8, dI x2592), (9, dI s.2)], []⟩) (fin := (fun (t : Int) => ((Exit.exit 0), ⟨mkE 25 0 [(5, dW t)], []⟩))) (by
  rintro t f K h
  · exact h) (fun s => link_map (impl_dependents_n3_l x2590 x2591 s.1 x2592 s.2) (Sum.elim (fun (t : Int × Int) => Sum.inl (t.1, t.2)) (fun (t : Int) => Sum.inr t)) (by
  rintro (t | t)
  · kernel_rfl
  · kernel_rfl)) (0, 0))

def impl_dependents_n5_l (x2590 : List Int) (x2591 : Int) (x2592 : Int) := (link_block (fin2 := (fun (t : Int) => (Exit.normal, ⟨mkE 25 0 [(5, dW t)], []⟩))) (id := 0) (impl_dependents_n4_l x2590 x2591 x2592) (fun (t : Int) => t) (by
  rintro t K h
  · exact Eq.mp (by kernel_rfl) h))

def impl_dependents_n6_l (x2590 : List Int) (x2591 : Int) := (link_seq (impl_dependents_n2_l x2590 x2591) (fun (t : Int) => (impl_dependents_n5_l x2590 x2591 t)))

theorem impl_dependents_n7_l (x2616 : Int) : Link impl_dependents_ctx LL (cq [1,1,1] (bodyOf Try.f40)) (aq [1,1,1] impl_dependents_an) ⟨mkE 25 0 [(5, dW x2616)], []⟩ (impl_dependents_n7 x2616) (fun (t : Int) => (Exit.ret, ⟨mkE 25 0 [(4, dW t)], []⟩)) := by
  refine Link.of fun K h => ?_
  simp only [impl_dependents_n7, wpO_bind, wpO_cond, wpO_map, wpO_some] at h
  exact Awp.of (by kernel_rfl) h

def impl_dependents_n8_l (x2590 : List Int) (x2591 : Int) := (link_seq (impl_dependents_n6_l x2590 x2591) (fun (t : Int) => (impl_dependents_n7_l t)))

def impl_dependents_n9_l (x2590 : List Int) (x2591 : Int) := (link_group (c := (cq [0,1] (bodyOf Try.f40))) (a := (aq [0,1] impl_dependents_an)) [(cq [0] (bodyOf Try.f40))] [(aq [0] impl_dependents_an)] rfl (link_seq (impl_dependents_n1_l x2590 x2591) (fun (t : Unit) => (impl_dependents_n8_l x2590 x2591))))

theorem impl_dependents_e (x2590 : List Int) (x2591 : Int) {r : AV} {H' : Heap} (h : (Ans.mk _ (impl_dependents x2590 x2591) (fun (t : Int) => (dW t, [])) [] none).run = some (r, H')) : Awp impl_dependents_ctx LL (bodyOf Try.f40) impl_dependents_an ⟨mkE 25 0 [(0, dL x2590), (1, dI x2591)], []⟩ (Ret (tlook tys) Try.f40.results.toList r H') :=
  ret_of' (Link.cast (by kernel_rfl) (by kernel_rfl) (impl_dependents_n9_l x2590 x2591)) (by unfold impl_dependents; kernel_rfl) (by
  intro t
  exact ret_mk [dW t] (by kernel_rfl) (by kernel_rfl) (by kernel_rfl) (by kernel_rfl)) h

def F_impl_dependents : Fun := fun avs H =>
  match avs, H with
  | [.dat (.list (.int .i64)) x2590, .dat (.int .i64) x2591], [] => ⟨_, impl_dependents x2590 x2591, fun (t : Int) => (dW t, []), [], none⟩
  | _, _ => Ans.no

theorem impl_dependents_sound : Sound Try.prog 40 F_impl_dependents := by
  refine fn_sound' (C := impl_dependents_ctx) (c := bodyOf Try.f40) (cok_of tys_ok (allc impl_only_sound alln) (allc Try.call45 alln) (by kernel_rfl)) Try.func40 (by kernel_rfl) LL impl_dependents_an ?_
  intro avs H r H' h
  unfold F_impl_dependents at h
  split at h
  · refine Awp.cast ?_ ?_ ?_ (impl_dependents_e _ _ h) <;> kernel_rfl
  · simp [Ans.no, Ans.run] at h


/-! loop.example/headtrees/impl.before -/

def impl_before_an : Ann := (.seq (.leaf [0]) (.seq (.leaf [2]) (.leaf [2])))

noncomputable def impl_before_ctx : Ctx := ⟨tlook tys, olook [(45, F_impl_only)], ioF, 0, false, []⟩

theorem impl_before_n1_l (x2638 : Int) : Link impl_before_ctx LL (bodyOf Try.f41) impl_before_an ⟨mkE 6 0 [(0, dI x2638)], []⟩ (impl_before_n1 x2638) (fun (t : Int) => (Exit.ret, ⟨mkE 6 0 [(2, dW t)], []⟩)) := by
  refine Link.of fun K h => ?_
  simp only [impl_before_n1, wpO_bind, wpO_cond, wpO_map, wpO_some] at h
  exact Awp.of (by kernel_rfl) h

theorem impl_before_e (x2638 : Int) {r : AV} {H' : Heap} (h : (Ans.mk _ (impl_before x2638) (fun (t : Int) => (dW t, [])) [] none).run = some (r, H')) : Awp impl_before_ctx LL (bodyOf Try.f41) impl_before_an ⟨mkE 6 0 [(0, dI x2638)], []⟩ (Ret (tlook tys) Try.f41.results.toList r H') :=
  ret_of' (impl_before_n1_l x2638) (by unfold impl_before; kernel_rfl) (by
  intro t
  exact ret_mk [dW t] (by kernel_rfl) (by kernel_rfl) (by kernel_rfl) (by kernel_rfl)) h

def F_impl_before : Fun := fun avs H =>
  match avs, H with
  | [.dat (.int .i64) x2638], [] => ⟨_, impl_before x2638, fun (t : Int) => (dW t, []), [], none⟩
  | _, _ => Ans.no

theorem impl_before_sound : Sound Try.prog 41 F_impl_before := by
  refine fn_sound' (C := impl_before_ctx) (c := bodyOf Try.f41) (cok_of tys_ok (allc impl_only_sound alln) (allc Try.call45 alln) (by kernel_rfl)) Try.func41 (by kernel_rfl) LL impl_before_an ?_
  intro avs H r H' h
  unfold F_impl_before at h
  split at h
  · refine Awp.cast ?_ ?_ ?_ (impl_before_e _ h) <;> kernel_rfl
  · simp [Ans.no, Ans.run] at h


/-! loop.example/headtrees/impl.dependentsBeside -/

def impl_dependentsBeside_an : Ann := (.seq (.leaf [0, 1]) (.seq (.leaf [1, 6]) (.seq (.leaf [4, 5]) (.leaf [4, 5]))))

noncomputable def impl_dependentsBeside_ctx : Ctx := ⟨tlook tys, olook [(40, F_impl_dependents), (41, F_impl_before)], ioF, 0, false, []⟩

theorem impl_dependentsBeside_n1_l (x2588 : List Int) (x2589 : Int) : Link impl_dependentsBeside_ctx LL (bodyOf Try.f35) impl_dependentsBeside_an ⟨mkE 18 0 [(0, dL x2588), (1, dI x2589)], []⟩ (impl_dependentsBeside_n1 x2588 x2589) (fun (t : Int × Int) => (Exit.ret, ⟨mkE 18 0 [(4, dW t.1), (5, dW t.2)], []⟩)) := by
  refine Link.of fun K h => ?_
  simp only [impl_dependentsBeside_n1, wpO_bind, wpO_cond, wpO_map, wpO_some] at h
  exact Awp.of (by kernel_rfl) h

theorem impl_dependentsBeside_e (x2588 : List Int) (x2589 : Int) {r : AV} {H' : Heap} (h : (Ans.mk _ (impl_dependentsBeside x2588 x2589) (fun (t : Int × Int) => (.tup [dW t.1, dW t.2], [])) [] none).run = some (r, H')) : Awp impl_dependentsBeside_ctx LL (bodyOf Try.f35) impl_dependentsBeside_an ⟨mkE 18 0 [(0, dL x2588), (1, dI x2589)], []⟩ (Ret (tlook tys) Try.f35.results.toList r H') :=
  ret_of' (impl_dependentsBeside_n1_l x2588 x2589) (by unfold impl_dependentsBeside; kernel_rfl) (by
  intro t
  exact ret_mk [dW t.1, dW t.2] (by kernel_rfl) (by kernel_rfl) (by kernel_rfl) (by kernel_rfl)) h

def F_impl_dependentsBeside : Fun := fun avs H =>
  match avs, H with
  | [.dat (.list (.int .i64)) x2588, .dat (.int .i64) x2589], [] => ⟨_, impl_dependentsBeside x2588 x2589, fun (t : Int × Int) => (.tup [dW t.1, dW t.2], []), [], none⟩
  | _, _ => Ans.no

theorem impl_dependentsBeside_sound : Sound Try.prog 35 F_impl_dependentsBeside := by
  refine fn_sound' (C := impl_dependentsBeside_ctx) (c := bodyOf Try.f35) (cok_of tys_ok (allc impl_dependents_sound (allc impl_before_sound alln)) (allc Try.call40 (allc Try.call41 alln)) (by kernel_rfl)) Try.func35 (by kernel_rfl) LL impl_dependentsBeside_an ?_
  intro avs H r H' h
  unfold F_impl_dependentsBeside at h
  split at h
  · refine Awp.cast ?_ ?_ ?_ (impl_dependentsBeside_e _ _ h) <;> kernel_rfl
  · simp [Ans.no, Ans.run] at h


/-! math/bits.OnesCount64 -/

def math_bits_OnesCount64_an : Ann := (.seq (.leaf [0]) (.seq (.leaf [0]) (.seq (.leaf [0]) (.seq (.leaf [0]) (.seq (.leaf [0]) (.seq (.leaf [0]) (.seq (.leaf [0]) (.seq (.leaf [2]) (.leaf [2])))))))))

noncomputable def math_bits_OnesCount64_ctx : Ctx := ⟨tlook tys, olook [], ioF, 0, false, []⟩

theorem math_bits_OnesCount64_n1_l (x2662 : Int) : Link math_bits_OnesCount64_ctx LL (Code.seq (cq [0] (bodyOf Try.f47)) (cq [0,1] (bodyOf Try.f47))) (Ann.seq (aq [0] math_bits_OnesCount64_an) (aq [0,1] math_bits_OnesCount64_an)) ⟨mkE 35 0 [(0, dW x2662)], []⟩ (math_bits_OnesCount64_n1 x2662) (fun (t : Int) => (Exit.normal, ⟨mkE 35 0 [(0, dW t)], []⟩)) := by
  refine Link.of fun K h => ?_
  simp only [math_bits_OnesCount64_n1, wpO_bind, wpO_cond, wpO_map, wpO_some] at h
  exact Awp.of (by kernel_rfl) h

theorem math_bits_OnesCount64_n2_l (x2667 : Int) : Link math_bits_OnesCount64_ctx LL (cq [0,1,1] (bodyOf Try.f47)) (aq [0,1,1] math_bits_OnesCount64_an) ⟨mkE 35 0 [(0, dW x2667)], []⟩ (math_bits_OnesCount64_n2 x2667) (fun (t : Int) => (Exit.normal, ⟨mkE 35 0 [(0, dW t)], []⟩)) := by
  refine Link.of fun K h => ?_
  simp only [math_bits_OnesCount64_n2, wpO_bind, wpO_cond, wpO_map, wpO_some] at h
  exact Awp.of (by kernel_rfl) h

theorem math_bits_OnesCount64_n3_l (x2684 : Int) : Link math_bits_OnesCount64_ctx LL (cq [0,1,1,1] (bodyOf Try.f47)) (aq [0,1,1,1] math_bits_OnesCount64_an) ⟨mkE 35 0 [(0, dW x2684)], []⟩ (math_bits_OnesCount64_n3 x2684) (fun (t : Int) => (Exit.normal, ⟨mkE 35 0 [(0, dW t)], []⟩)) := by
  refine Link.of fun K h => ?_
  simp only [math_bits_OnesCount64_n3, wpO_bind, wpO_cond, wpO_map, wpO_some] at h
  exact Awp.of (by kernel_rfl) h

theorem math_bits_OnesCount64_n4_l (x2692 : Int) : Link math_bits_OnesCount64_ctx LL (cq [0,1,1,1,1] (bodyOf Try.f47)) (aq [0,1,1,1,1] math_bits_OnesCount64_an) ⟨mkE 35 0 [(0, dW x2692)], []⟩ (math_bits_OnesCount64_n4 x2692) (fun (t : Int) => (Exit.normal, ⟨mkE 35 0 [(0, dW t)], []⟩)) := by
  refine Link.of fun K h => ?_
  simp only [math_bits_OnesCount64_n4, wpO_bind, wpO_cond, wpO_map, wpO_some] at h
  exact Awp.of (by kernel_rfl) h

theorem math_bits_OnesCount64_n5_l (x2696 : Int) : Link math_bits_OnesCount64_ctx LL (cq [0,1,1,1,1,1] (bodyOf Try.f47)) (aq [0,1,1,1,1,1] math_bits_OnesCount64_an) ⟨mkE 35 0 [(0, dW x2696)], []⟩ (math_bits_OnesCount64_n5 x2696) (fun (t : Int) => (Exit.normal, ⟨mkE 35 0 [(0, dW t)], []⟩)) := by
  refine Link.of fun K h => ?_
  simp only [math_bits_OnesCount64_n5, wpO_bind, wpO_cond, wpO_map, wpO_some] at h
  exact Awp.of (by kernel_rfl) h

theorem math_bits_OnesCount64_n6_l (x2701 : Int) : Link math_bits_OnesCount64_ctx LL (cq [0,1,1,1,1,1,1] (bodyOf Try.f47)) (aq [0,1,1,1,1,1,1] math_bits_OnesCount64_an) ⟨mkE 35 0 [(0, dW x2701)], []⟩ (math_bits_OnesCount64_n6 x2701) (fun (t : Int) => (Exit.normal, ⟨mkE 35 0 [(0, dW t)], []⟩)) := by
  refine Link.of fun K h => ?_
  simp only [math_bits_OnesCount64_n6, wpO_bind, wpO_cond, wpO_map, wpO_some] at h
  exact Awp.of (by kernel_rfl) h

theorem math_bits_OnesCount64_n7_l (x2706 : Int) : Link math_bits_OnesCount64_ctx LL (cq [0,1,1,1,1,1,1,1] (bodyOf Try.f47)) (aq [0,1,1,1,1,1,1,1] math_bits_OnesCount64_an) ⟨mkE 35 0 [(0, dW x2706)], []⟩ (math_bits_OnesCount64_n7 x2706) (fun (t : Int) => (Exit.normal, ⟨mkE 35 0 [(2, dI t)], []⟩)) := by
  refine Link.of fun K h => ?_
  simp only [math_bits_OnesCount64_n7, wpO_bind, wpO_cond, wpO_map, wpO_some] at h
  exact Awp.of (by kernel_rfl) h

theorem math_bits_OnesCount64_n8_l (x2711 : Int) : Link math_bits_OnesCount64_ctx LL (cq [1,1,1,1,1,1,1,1] (bodyOf Try.f47)) (aq [1,1,1,1,1,1,1,1] math_bits_OnesCount64_an) ⟨mkE 35 0 [(2, dI x2711)], []⟩ (math_bits_OnesCount64_n8 x2711) (fun (t : Int) => (Exit.ret, ⟨mkE 35 0 [(2, dI t)], []⟩)) := by
  refine Link.of fun K h => ?_
  simp only [math_bits_OnesCount64_n8, wpO_bind, wpO_cond, wpO_map, wpO_some] at h
  exact Awp.of (by kernel_rfl) h

def math_bits_OnesCount64_n9_l (x2706 : Int) := (link_seq (math_bits_OnesCount64_n7_l x2706) (fun (t : Int) => (math_bits_OnesCount64_n8_l t)))

def math_bits_OnesCount64_n10_l (x2701 : Int) := (link_seq (math_bits_OnesCount64_n6_l x2701) (fun (t : Int) => (math_bits_OnesCount64_n9_l t)))

def math_bits_OnesCount64_n11_l (x2696 : Int) := (link_seq (math_bits_OnesCount64_n5_l x2696) (fun (t : Int) => (math_bits_OnesCount64_n10_l t)))

def math_bits_OnesCount64_n12_l (x2692 : Int) := (link_seq (math_bits_OnesCount64_n4_l x2692) (fun (t : Int) => (math_bits_OnesCount64_n11_l t)))

def math_bits_OnesCount64_n13_l (x2684 : Int) := (link_seq (math_bits_OnesCount64_n3_l x2684) (fun (t : Int) => (math_bits_OnesCount64_n12_l t)))

def math_bits_OnesCount64_n14_l (x2667 : Int) := (link_seq (math_bits_OnesCount64_n2_l x2667) (fun (t : Int) => (math_bits_OnesCount64_n13_l t)))

def math_bits_OnesCount64_n15_l (x2662 : Int) := (link_group (c := (cq [0,1] (bodyOf Try.f47))) (a := (aq [0,1] math_bits_OnesCount64_an)) [(cq [0] (bodyOf Try.f47))] [(aq [0] math_bits_OnesCount64_an)] rfl (link_seq (math_bits_OnesCount64_n1_l x2662) (fun (t : Int) => (math_bits_OnesCount64_n14_l t))))

theorem math_bits_OnesCount64_e (x2662 : Int) {r : AV} {H' : Heap} (h : (Ans.mk _ (math_bits_OnesCount64 x2662) (fun (t : Int) => (dI t, [])) [] none).run = some (r, H')) : Awp math_bits_OnesCount64_ctx LL (bodyOf Try.f47) math_bits_OnesCount64_an ⟨mkE 35 0 [(0, dW x2662)], []⟩ (Ret (tlook tys) Try.f47.results.toList r H') :=
  ret_of' (Link.cast (by kernel_rfl) (by kernel_rfl) (math_bits_OnesCount64_n15_l x2662)) (by unfold math_bits_OnesCount64; kernel_rfl) (by
  intro t
  exact ret_mk [dI t] (by kernel_rfl) (by kernel_rfl) (by kernel_rfl) (by kernel_rfl)) h

def F_math_bits_OnesCount64 : Fun := fun avs H =>
  match avs, H with
  | [.dat (.int .u64) x2662], [] => ⟨_, math_bits_OnesCount64 x2662, fun (t : Int) => (dI t, []), [], none⟩
  | _, _ => Ans.no

theorem math_bits_OnesCount64_sound : Sound Try.prog 47 F_math_bits_OnesCount64 := by
  refine fn_sound' (C := math_bits_OnesCount64_ctx) (c := bodyOf Try.f47) (cok_of tys_ok (alln) (alln) (by kernel_rfl)) Try.func47 (by kernel_rfl) LL math_bits_OnesCount64_an ?_
  intro avs H r H' h
  unfold F_math_bits_OnesCount64 at h
  split at h
  · refine Awp.cast ?_ ?_ ?_ (math_bits_OnesCount64_e _ h) <;> kernel_rfl
  · simp [Ans.no, Ans.run] at h


/-! math/bits.OnesCount -/

def math_bits_OnesCount_an : Ann := (.seq (.leaf [0]) (.seq (.cond (.seq (.leaf [2]) (.leaf [2])) (.leaf [0])) (.seq (.leaf [2]) (.leaf [2]))))

noncomputable def math_bits_OnesCount_ctx : Ctx := ⟨tlook tys, olook [(47, F_math_bits_OnesCount64)], ioF, 0, false, []⟩

theorem math_bits_OnesCount_n1_l (x2661 : Int) : Link math_bits_OnesCount_ctx LL (bodyOf Try.f42) math_bits_OnesCount_an ⟨mkE 8 0 [(0, dW x2661)], []⟩ (math_bits_OnesCount_n1 x2661) (fun (t : Int) => (Exit.ret, ⟨mkE 8 0 [(2, dI t)], []⟩)) := by
  refine Link.of fun K h => ?_
  simp only [math_bits_OnesCount_n1, wpO_bind, wpO_cond, wpO_map, wpO_some] at h
  exact Awp.of (by kernel_rfl) h

theorem math_bits_OnesCount_e (x2661 : Int) {r : AV} {H' : Heap} (h : (Ans.mk _ (math_bits_OnesCount x2661) (fun (t : Int) => (dI t, [])) [] none).run = some (r, H')) : Awp math_bits_OnesCount_ctx LL (bodyOf Try.f42) math_bits_OnesCount_an ⟨mkE 8 0 [(0, dW x2661)], []⟩ (Ret (tlook tys) Try.f42.results.toList r H') :=
  ret_of' (math_bits_OnesCount_n1_l x2661) (by unfold math_bits_OnesCount; kernel_rfl) (by
  intro t
  exact ret_mk [dI t] (by kernel_rfl) (by kernel_rfl) (by kernel_rfl) (by kernel_rfl)) h

def F_math_bits_OnesCount : Fun := fun avs H =>
  match avs, H with
  | [.dat (.int .u64) x2661], [] => ⟨_, math_bits_OnesCount x2661, fun (t : Int) => (dI t, []), [], none⟩
  | _, _ => Ans.no

theorem math_bits_OnesCount_sound : Sound Try.prog 42 F_math_bits_OnesCount := by
  refine fn_sound' (C := math_bits_OnesCount_ctx) (c := bodyOf Try.f42) (cok_of tys_ok (allc math_bits_OnesCount64_sound alln) (allc Try.call47 alln) (by kernel_rfl)) Try.func42 (by kernel_rfl) LL math_bits_OnesCount_an ?_
  intro avs H r H' h
  unfold F_math_bits_OnesCount at h
  split at h
  · refine Awp.cast ?_ ?_ ?_ (math_bits_OnesCount_e _ h) <;> kernel_rfl
  · simp [Ans.no, Ans.run] at h

/-! (loop.example/headtrees/impl.wordSet).count -/

def impl_wordSet_count_an : Ann := (.seq (.leaf [0]) (.seq (.leaf [2]) (.leaf [2])))

noncomputable def impl_wordSet_count_ctx : Ctx := ⟨tlook tys, olook [(42, F_math_bits_OnesCount)], ioF, 0, false, []⟩

theorem impl_wordSet_count_n1_l (x2660 : Int) : Link impl_wordSet_count_ctx LL (bodyOf Try.f36) impl_wordSet_count_an ⟨mkE 5 0 [(0, dW x2660)], []⟩ (impl_wordSet_count_n1 x2660) (fun (t : Int) => (Exit.ret, ⟨mkE 5 0 [(2, dI t)], []⟩)) := by
  refine Link.of fun K h => ?_
  simp only [impl_wordSet_count_n1, wpO_bind, wpO_cond, wpO_map, wpO_some] at h
  exact Awp.of (by kernel_rfl) h

theorem impl_wordSet_count_e (x2660 : Int) {r : AV} {H' : Heap} (h : (Ans.mk _ (impl_wordSet_count x2660) (fun (t : Int) => (dI t, [])) [] none).run = some (r, H')) : Awp impl_wordSet_count_ctx LL (bodyOf Try.f36) impl_wordSet_count_an ⟨mkE 5 0 [(0, dW x2660)], []⟩ (Ret (tlook tys) Try.f36.results.toList r H') :=
  ret_of' (impl_wordSet_count_n1_l x2660) (by unfold impl_wordSet_count; kernel_rfl) (by
  intro t
  exact ret_mk [dI t] (by kernel_rfl) (by kernel_rfl) (by kernel_rfl) (by kernel_rfl)) h

def F_impl_wordSet_count : Fun := fun avs H =>
  match avs, H with
  | [.dat (.int .u64) x2660], [] => ⟨_, impl_wordSet_count x2660, fun (t : Int) => (dI t, []), [], none⟩
  | _, _ => Ans.no

theorem impl_wordSet_count_sound : Sound Try.prog 36 F_impl_wordSet_count := by
  refine fn_sound' (C := impl_wordSet_count_ctx) (c := bodyOf Try.f36) (cok_of tys_ok (allc math_bits_OnesCount_sound alln) (allc Try.call42 alln) (by kernel_rfl)) Try.func36 (by kernel_rfl) LL impl_wordSet_count_an ?_
  intro avs H r H' h
  unfold F_impl_wordSet_count at h
  split at h
  · refine Awp.cast ?_ ?_ ?_ (impl_wordSet_count_e _ h) <;> kernel_rfl
  · simp [Ans.no, Ans.run] at h


/-! loop.example/headtrees/impl.SidesOf -/

def impl_SidesOf_an : Ann := (.seq (.leaf [0, 1]) (.seq (.seq (.leaf [0, 1, 12]) (.cond (.seq (.leaf [4, 5, 6]) (.leaf [4, 5, 6])) (.leaf [0, 1]))) (.seq (.leaf [7, 8]) (.seq (.leaf [4, 5, 6]) (.leaf [4, 5, 6])))))

noncomputable def impl_SidesOf_ctx : Ctx := ⟨tlook tys, olook [(34, F_impl_wordOk), (35, F_impl_dependentsBeside), (36, F_impl_wordSet_count)], ioF, 0, false, []⟩

theorem impl_SidesOf_n1_l (x2571 : List Int) (x2572 : Int) : Link impl_SidesOf_ctx LL (bodyOf Try.f20) impl_SidesOf_an ⟨mkE 23 0 [(0, dL x2571), (1, dI x2572)], []⟩ (impl_SidesOf_n1 x2571 x2572) (fun (t : Int × Int × Bool) => (Exit.ret, ⟨mkE 23 0 [(4, dI t.1), (5, dI t.2.1), (6, dB t.2.2)], []⟩)) := by
  refine Link.of fun K h => ?_
  simp only [impl_SidesOf_n1, wpO_bind, wpO_cond, wpO_map, wpO_some] at h
  exact Awp.of (by kernel_rfl) h

theorem impl_SidesOf_e (x2571 : List Int) (x2572 : Int) {r : AV} {H' : Heap} (h : (Ans.mk _ (impl_SidesOf x2571 x2572) (fun (t : Int × Int × Bool) => (.tup [dI t.1, dI t.2.1, dB t.2.2], [])) [] none).run = some (r, H')) : Awp impl_SidesOf_ctx LL (bodyOf Try.f20) impl_SidesOf_an ⟨mkE 23 0 [(0, dL x2571), (1, dI x2572)], []⟩ (Ret (tlook tys) Try.f20.results.toList r H') :=
  ret_of' (impl_SidesOf_n1_l x2571 x2572) (by unfold impl_SidesOf; kernel_rfl) (by
  intro t
  exact ret_mk [dI t.1, dI t.2.1, dB t.2.2] (by kernel_rfl) (by kernel_rfl) (by kernel_rfl) (by kernel_rfl)) h

def F_impl_SidesOf : Fun := fun avs H =>
  match avs, H with
  | [.dat (.list (.int .i64)) x2571, .dat (.int .i64) x2572], [] => ⟨_, impl_SidesOf x2571 x2572, fun (t : Int × Int × Bool) => (.tup [dI t.1, dI t.2.1, dB t.2.2], []), [], none⟩
  | _, _ => Ans.no

theorem impl_SidesOf_sound : Sound Try.prog 20 F_impl_SidesOf := by
  refine fn_sound' (C := impl_SidesOf_ctx) (c := bodyOf Try.f20) (cok_of tys_ok (allc impl_wordOk_sound (allc impl_dependentsBeside_sound (allc impl_wordSet_count_sound alln))) (allc Try.call34 (allc Try.call35 (allc Try.call36 alln))) (by kernel_rfl)) Try.func20 (by kernel_rfl) LL impl_SidesOf_an ?_
  intro avs H r H' h
  unfold F_impl_SidesOf at h
  split at h
  · refine Awp.cast ?_ ?_ ?_ (impl_SidesOf_e _ _ h) <;> kernel_rfl
  · simp [Ans.no, Ans.run] at h


/-! loop.example/headtrees/laws.eqIntS -/

def laws_eqIntS_an : Ann := (.seq (.leaf [0, 1]) (.seq (.seq (.leaf [0, 1, 10]) (.cond (.seq (.leaf [4]) (.leaf [4])) (.leaf [0, 1]))) (.seq (.seq (.leaf [0, 1, 5]) (.block (.loop (.seq (.seq (.leaf [0, 1, 5, 14]) (.cond (.leaf [0, 1, 5]) (.leaf []))) (.seq (.block (.seq (.draw [] [0, 1, 2, 3, 4, 5, 6, 7, 8] [] [0, 1, 5, 25]) (.cond (.seq (.leaf [4]) (.leaf [4])) (.leaf [0, 1, 5])))) (.leaf [0, 1, 5])))))) (.seq (.leaf [4]) (.leaf [4])))))

noncomputable def laws_eqIntS_ctx : Ctx := ⟨tlook tys, olook [], ioF, 0, false, []⟩

theorem laws_eqIntS_n1_l (x2763 : List Int) (x2764 : List Int) : Link laws_eqIntS_ctx LL (Code.seq (cq [0] (bodyOf Try.f21)) (cq [0,1] (bodyOf Try.f21))) (Ann.seq (aq [0] laws_eqIntS_an) (aq [0,1] laws_eqIntS_an)) ⟨mkE 26 0 [(0, dL x2763), (1, dL x2764)], []⟩ (laws_eqIntS_n1 x2763 x2764) (Sum.elim (fun (t : Unit) => (Exit.normal, ⟨mkE 26 0 [(0, dL x2763), (1, dL x2764)], []⟩)) (fun (t : Bool) => (Exit.ret, ⟨mkE 26 0 [(4, dB t)], []⟩))) := by
  refine Link.of fun K h => ?_
  simp only [laws_eqIntS_n1, wpO_bind, wpO_cond, wpO_map, wpO_some] at h
  exact Awp.of (by kernel_rfl) h

theorem laws_eqIntS_n2_l (x2763 : List Int) (x2764 : List Int) : Link laws_eqIntS_ctx LL (cq [0,0,1,1] (bodyOf Try.f21)) (aq [0,0,1,1] laws_eqIntS_an) ⟨mkE 26 0 [(0, dL x2763), (1, dL x2764)], []⟩ (laws_eqIntS_n2) (fun (t : Unit) => (Exit.normal, ⟨mkE 26 0 [(0, dL x2763), (1, dL x2764), (5, dI 0)], []⟩)) := by
  refine Link.of fun K h => ?_
  simp only [laws_eqIntS_n2, wpO_bind, wpO_cond, wpO_map, wpO_some] at h
  exact Awp.of (by kernel_rfl) h

theorem laws_eqIntS_n3_l (x2763 : List Int) (x2764 : List Int) (x2781 : Int) : Link laws_eqIntS_ctx LL (cq [0,0,1,0,1,1] (bodyOf Try.f21)) (aq [0,0,1,0,1,1] laws_eqIntS_an) ⟨mkE 26 0 [(0, dL x2763), (1, dL x2764), (5, dI x2781)], []⟩ (laws_eqIntS_n3 x2763 x2764 x2781) (Sum.elim (fun (t : Int) => (Exit.normal, ⟨mkE 26 0 [(0, dL x2763), (1, dL x2764), (5, dI t)], []⟩)) (Sum.elim (fun (t : Bool) => (Exit.ret, ⟨mkE 26 0 [(4, dB t)], []⟩)) (fun (t : Unit) => ((Exit.exit 0), ⟨mkE 26 0 [], []⟩)))) := by
  refine Link.of fun K h => ?_
  simp only [laws_eqIntS_n3, wpO_bind, wpO_cond, wpO_map, wpO_some] at h
  exact Awp.of (by kernel_rfl) h

def laws_eqIntS_n4_l (x2763 : List Int) (x2764 : List Int) := (link_loop (mk := fun (s : Int) => ⟨mkE 26 0 [(0, dL x2763), (1, dL x2764), (5, dI s)], []⟩) (fin := (Sum.elim (fun (t : Bool) => (Exit.ret, ⟨mkE 26 0 [(4, dB t)], []⟩)) (fun (t : Unit) => ((Exit.exit 0), ⟨mkE 26 0 [], []⟩)))) (by
  rintro (t | t) f K h
  · exact h
  · exact h) (fun s => link_map (laws_eqIntS_n3_l x2763 x2764 s) (Sum.elim (fun (t : Int) => Sum.inl t) (Sum.elim (fun (t : Bool) => Sum.inr (Sum.inl t)) (fun (t : Unit) => Sum.inr (Sum.inr t)))) (by
  rintro (t | t | t)
  · kernel_rfl
  · kernel_rfl
  · kernel_rfl)) 0)

def laws_eqIntS_n5_l (x2763 : List Int) (x2764 : List Int) := (link_block (fin2 := (Sum.elim (fun (t : Unit) => (Exit.normal, ⟨mkE 26 0 [], []⟩)) (fun (t : Bool) => (Exit.ret, ⟨mkE 26 0 [(4, dB t)], []⟩)))) (id := 0) (laws_eqIntS_n4_l x2763 x2764) (Sum.elim (fun (t : Bool) => (Sum.inr t)) (fun (t : Unit) => (Sum.inl ()))) (by
  rintro (t | t) K h
  · exact Eq.mp (by kernel_rfl) h
  · exact Eq.mp (by kernel_rfl) h))

def laws_eqIntS_n6_l (x2763 : List Int) (x2764 : List Int) := (link_seq (laws_eqIntS_n2_l x2763 x2764) (fun (t : Unit) => (laws_eqIntS_n5_l x2763 x2764)))

theorem laws_eqIntS_n7_l : Link laws_eqIntS_ctx LL (cq [1,1,1] (bodyOf Try.f21)) (aq [1,1,1] laws_eqIntS_an) ⟨mkE 26 0 [], []⟩ (laws_eqIntS_n7) (fun (t : Bool) => (Exit.ret, ⟨mkE 26 0 [(4, dB t)], []⟩)) := by
  refine Link.of fun K h => ?_
  simp only [laws_eqIntS_n7, wpO_bind, wpO_cond, wpO_map, wpO_some] at h
  exact Awp.of (by kernel_rfl) h

def laws_eqIntS_n8_l (x2763 : List Int) (x2764 : List Int) := (link_seq2 (laws_eqIntS_n6_l x2763 x2764) (fun (t : Unit) => (laws_eqIntS_n7_l)) (fun (t : Bool) => t) (by
  rintro t
  · kernel_rfl) (by
  rintro t f K h
  · exact h))

def laws_eqIntS_n9_l (x2763 : List Int) (x2764 : List Int) := (link_group (c := (cq [0,1] (bodyOf Try.f21))) (a := (aq [0,1] laws_eqIntS_an)) [(cq [0] (bodyOf Try.f21))] [(aq [0] laws_eqIntS_an)] rfl (link_seq2 (laws_eqIntS_n1_l x2763 x2764) (fun (t : Unit) => (laws_eqIntS_n8_l x2763 x2764)) (fun (t : Bool) => t) (by
  rintro t
  · kernel_rfl) (by
  rintro t f K h
  · exact h)))

theorem laws_eqIntS_e (x2763 : List Int) (x2764 : List Int) {r : AV} {H' : Heap} (h : (Ans.mk _ (laws_eqIntS x2763 x2764) (fun (t : Bool) => (dB t, [])) [] none).run = some (r, H')) : Awp laws_eqIntS_ctx LL (bodyOf Try.f21) laws_eqIntS_an ⟨mkE 26 0 [(0, dL x2763), (1, dL x2764)], []⟩ (Ret (tlook tys) Try.f21.results.toList r H') :=
  ret_of' (Link.cast (by kernel_rfl) (by kernel_rfl) (laws_eqIntS_n9_l x2763 x2764)) (by unfold laws_eqIntS; kernel_rfl) (by
  intro t
  exact ret_mk [dB t] (by kernel_rfl) (by kernel_rfl) (by kernel_rfl) (by kernel_rfl)) h

def F_laws_eqIntS : Fun := fun avs H =>
  match avs, H with
  | [.dat (.list (.int .i64)) x2763, .dat (.list (.int .i64)) x2764], [] => ⟨_, laws_eqIntS x2763 x2764, fun (t : Bool) => (dB t, []), [], none⟩
  | _, _ => Ans.no

theorem laws_eqIntS_sound : Sound Try.prog 21 F_laws_eqIntS := by
  refine fn_sound' (C := laws_eqIntS_ctx) (c := bodyOf Try.f21) (cok_of tys_ok (alln) (alln) (by kernel_rfl)) Try.func21 (by kernel_rfl) LL laws_eqIntS_an ?_
  intro avs H r H' h
  unfold F_laws_eqIntS at h
  split at h
  · refine Awp.cast ?_ ?_ ?_ (laws_eqIntS_e _ _ h) <;> kernel_rfl
  · simp [Ans.no, Ans.run] at h


/-! loop.example/headtrees/laws.FnExactSidesOf -/

def laws_FnExactSidesOf_an : Ann := (.seq (.leaf [0, 1]) (.seq (.seq (.leaf [0, 1, 14]) (.cond (.seq (.leaf [4]) (.leaf [4])) (.leaf [0, 1]))) (.seq (.leaf [0, 1, 5, 6, 7]) (.seq (.leaf [0, 1, 5, 6, 7, 8]) (.seq (.leaf [0, 5, 6, 7, 8, 9, 10, 11]) (.seq (.seq (.leaf [0, 8, 44]) (.cond (.seq (.leaf [4]) (.leaf [4])) (.leaf [0, 8]))) (.seq (.seq (.leaf [49]) (.cond (.seq (.leaf [4]) (.leaf [4])) (.leaf []))) (.seq (.leaf [4]) (.leaf [4])))))))))

noncomputable def laws_FnExactSidesOf_ctx : Ctx := ⟨tlook tys, olook [(19, F_laws_toIntS), (18, F_spec_SidesOf), (20, F_impl_SidesOf), (21, F_laws_eqIntS)], ioF, 0, false, []⟩

theorem laws_FnExactSidesOf_n1_l (x2232 : List Int) (x2233 : Int) : Link laws_FnExactSidesOf_ctx LL (bodyOf Try.f5) laws_FnExactSidesOf_an ⟨mkE 50 0 [(0, dL x2232), (1, dI x2233)], []⟩ (laws_FnExactSidesOf_n1 x2232 x2233) (fun (t : Bool) => (Exit.ret, ⟨mkE 50 0 [(4, dB t)], []⟩)) := by
  refine Link.of fun K h => ?_
  simp only [laws_FnExactSidesOf_n1, wpO_bind, wpO_cond, wpO_map, wpO_some] at h
  exact Awp.of (by kernel_rfl) h

theorem laws_FnExactSidesOf_e (x2232 : List Int) (x2233 : Int) {r : AV} {H' : Heap} (h : (Ans.mk _ (laws_FnExactSidesOf x2232 x2233) (fun (t : Bool) => (dB t, [])) [] none).run = some (r, H')) : Awp laws_FnExactSidesOf_ctx LL (bodyOf Try.f5) laws_FnExactSidesOf_an ⟨mkE 50 0 [(0, dL x2232), (1, dI x2233)], []⟩ (Ret (tlook tys) Try.f5.results.toList r H') :=
  ret_of' (laws_FnExactSidesOf_n1_l x2232 x2233) (by unfold laws_FnExactSidesOf; kernel_rfl) (by
  intro t
  exact ret_mk [dB t] (by kernel_rfl) (by kernel_rfl) (by kernel_rfl) (by kernel_rfl)) h

def F_laws_FnExactSidesOf : Fun := fun avs H =>
  match avs, H with
  | [.dat (.list (.int .i64)) x2232, .dat (.int .i64) x2233], [] => ⟨_, laws_FnExactSidesOf x2232 x2233, fun (t : Bool) => (dB t, []), [], none⟩
  | _, _ => Ans.no

theorem laws_FnExactSidesOf_sound : Sound Try.prog 5 F_laws_FnExactSidesOf := by
  refine fn_sound' (C := laws_FnExactSidesOf_ctx) (c := bodyOf Try.f5) (cok_of tys_ok (allc laws_toIntS_sound (allc spec_SidesOf_sound (allc impl_SidesOf_sound (allc laws_eqIntS_sound alln)))) (allc Try.call19 (allc Try.call18 (allc Try.call20 (allc Try.call21 alln)))) (by kernel_rfl)) Try.func5 (by kernel_rfl) LL laws_FnExactSidesOf_an ?_
  intro avs H r H' h
  unfold F_laws_FnExactSidesOf at h
  split at h
  · refine Awp.cast ?_ ?_ ?_ (laws_FnExactSidesOf_e _ _ h) <;> kernel_rfl
  · simp [Ans.no, Ans.run] at h


end Go.Rv
