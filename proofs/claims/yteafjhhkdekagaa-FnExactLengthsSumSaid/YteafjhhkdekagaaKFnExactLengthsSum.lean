/-
  The checked code answers as the plain functions do; written by program. Conditions: none.
-/
import Derived.Test.YteafjhhkdekagaaGFnExactLengthsSum
import Derived.Test.YteafjhhkdekagaaProg
set_option linter.unusedVariables false
set_option linter.unusedSimpArgs false
set_option linter.defProp false
set_option maxRecDepth 100000
namespace Go.Rv
open Go.Proofs
theorem ty3 : TIOk Try.prog 3 ⟨.int .i64, 1, 8, some (.int .i64), [.int .i64 0], false⟩ := ⟨⟨infoOf (Try.prog.info? 3), by kernel_rfl, by kernel_rfl, by kernel_rfl, .int .i64 0, by kernel_rfl, by kernel_rfl⟩, (by kernel_rfl : Try.prog.underlying 3 = some (.int .i64)), no_eq⟩
theorem ty4 : TIOk Try.prog 4 ⟨.bool, 1, 1, some .bool, [.bool false], false⟩ := ⟨⟨infoOf (Try.prog.info? 4), by kernel_rfl, by kernel_rfl, by kernel_rfl, .bool false, by kernel_rfl, by kernel_rfl⟩, (by kernel_rfl : Try.prog.underlying 4 = some .bool), no_eq⟩
theorem ty5 : TIOk Try.prog 5 ⟨.int .u8, 1, 1, some (.int .u8), [.int .u8 0], false⟩ := ⟨⟨infoOf (Try.prog.info? 5), by kernel_rfl, by kernel_rfl, by kernel_rfl, .int .u8 0, by kernel_rfl, by kernel_rfl⟩, (by kernel_rfl : Try.prog.underlying 5 = some (.int .u8)), no_eq⟩
theorem ty22 : TIOk Try.prog 22 ⟨.slice 5, 1, 24, some (.list (.int .u8)), [.slice none 0 0], false⟩ := ⟨⟨infoOf (Try.prog.info? 22), by kernel_rfl, by kernel_rfl, by kernel_rfl, .slice none 0 0, by kernel_rfl, by kernel_rfl⟩, (by kernel_rfl : Try.prog.underlying 22 = some (.slice 5)), no_eq⟩
theorem ty23 : TIOk Try.prog 23 ⟨.slice 3, 1, 24, some (.list (.int .i64)), [.slice none 0 0], false⟩ := ⟨⟨infoOf (Try.prog.info? 23), by kernel_rfl, by kernel_rfl, by kernel_rfl, .slice none 0 0, by kernel_rfl, by kernel_rfl⟩, (by kernel_rfl : Try.prog.underlying 23 = some (.slice 3)), no_eq⟩
theorem ty39 : TIOk Try.prog 39 ⟨.slice 42, 1, 24, some (.list (.pair (.int .i64) (.pair (.int .i64) .unit))), [.slice none 0 0], false⟩ := ⟨⟨infoOf (Try.prog.info? 39), by kernel_rfl, by kernel_rfl, by kernel_rfl, .slice none 0 0, by kernel_rfl, by kernel_rfl⟩, (by kernel_rfl : Try.prog.underlying 39 = some (.slice 42)), no_eq⟩
theorem ty42 : TIOk Try.prog 42 ⟨.strct [(0, 3), (1, 3)], 2, 16, some (.pair (.int .i64) (.pair (.int .i64) .unit)), [.int .i64 0, .int .i64 0], false⟩ := ⟨⟨infoOf (Try.prog.info? 42), by kernel_rfl, by kernel_rfl, by kernel_rfl, .agg #[.int .i64 0, .int .i64 0], by kernel_rfl, by kernel_rfl⟩, ⟨fieldsOf (Try.prog.underlying 42), by kernel_rfl, by kernel_rfl⟩, no_eq⟩
theorem ty51 : TIOk Try.prog 51 ⟨.strct [(0, 22), (1, 3)], 2, 32, some (.pair (.list (.int .u8)) (.pair (.int .i64) .unit)), [.slice none 0 0, .int .i64 0], false⟩ := ⟨⟨infoOf (Try.prog.info? 51), by kernel_rfl, by kernel_rfl, by kernel_rfl, .agg #[.slice none 0 0, .int .i64 0], by kernel_rfl, by kernel_rfl⟩, ⟨fieldsOf (Try.prog.underlying 51), by kernel_rfl, by kernel_rfl⟩, no_eq⟩
theorem ty55 : TIOk Try.prog 55 ⟨.strct [(0, 23), (1, 3), (2, 3)], 3, 40, some (.pair (.list (.int .i64)) (.pair (.int .i64) (.pair (.int .i64) .unit))), [.slice none 0 0, .int .i64 0, .int .i64 0], false⟩ := ⟨⟨infoOf (Try.prog.info? 55), by kernel_rfl, by kernel_rfl, by kernel_rfl, .agg #[.slice none 0 0, .int .i64 0, .int .i64 0], by kernel_rfl, by kernel_rfl⟩, ⟨fieldsOf (Try.prog.underlying 55), by kernel_rfl, by kernel_rfl⟩, no_eq⟩
theorem ty56 : TIOk Try.prog 56 ⟨.arr 9 4, 9, 9, none, [.bool false, .bool false, .bool false, .bool false, .bool false, .bool false, .bool false, .bool false, .bool false], false⟩ := ⟨⟨infoOf (Try.prog.info? 56), by kernel_rfl, by kernel_rfl, by kernel_rfl, .agg #[.bool false, .bool false, .bool false, .bool false, .bool false, .bool false, .bool false, .bool false, .bool false], by kernel_rfl, by kernel_rfl⟩, (by kernel_rfl : Try.prog.underlying 56 = some (.array 9 4)), no_eq⟩
def tys : List (TypeId × TI) := [(3, ⟨.int .i64, 1, 8, some (.int .i64), [.int .i64 0], false⟩), (4, ⟨.bool, 1, 1, some .bool, [.bool false], false⟩), (5, ⟨.int .u8, 1, 1, some (.int .u8), [.int .u8 0], false⟩), (22, ⟨.slice 5, 1, 24, some (.list (.int .u8)), [.slice none 0 0], false⟩), (23, ⟨.slice 3, 1, 24, some (.list (.int .i64)), [.slice none 0 0], false⟩), (39, ⟨.slice 42, 1, 24, some (.list (.pair (.int .i64) (.pair (.int .i64) .unit))), [.slice none 0 0], false⟩), (42, ⟨.strct [(0, 3), (1, 3)], 2, 16, some (.pair (.int .i64) (.pair (.int .i64) .unit)), [.int .i64 0, .int .i64 0], false⟩), (51, ⟨.strct [(0, 22), (1, 3)], 2, 32, some (.pair (.list (.int .u8)) (.pair (.int .i64) .unit)), [.slice none 0 0, .int .i64 0], false⟩), (55, ⟨.strct [(0, 23), (1, 3), (2, 3)], 3, 40, some (.pair (.list (.int .i64)) (.pair (.int .i64) (.pair (.int .i64) .unit))), [.slice none 0 0, .int .i64 0, .int .i64 0], false⟩), (56, ⟨.arr 9 4, 9, 9, none, [.bool false, .bool false, .bool false, .bool false, .bool false, .bool false, .bool false, .bool false, .bool false], false⟩)]
theorem tys_ok : TOk Try.prog (tlook tys) := tok_of (allc ty3 (allc ty4 (allc ty5 (allc ty22 (allc ty23 (allc ty39 (allc ty42 (allc ty51 (allc ty55 (allc ty56 alln))))))))))
def ioF (f : FuncId) (i : Nat) : Bool := [(47, 1)].any fun (p : Nat × Nat) => Nat.beq p.1 f && Nat.beq p.2 i


/-! loop.example/headtrees/spec.l1In -/

def spec_l1In_an : Ann := (.seq (.leaf [0, 1, 2]) (.seq (.leaf [6]) (.leaf [6])))

noncomputable def spec_l1In_ctx : Ctx := ⟨tlook tys, olook [], ioF, 0, false, []⟩

theorem spec_l1In_n1_l (x780 : Int) (x781 : Int) (x782 : Int) : Link spec_l1In_ctx LL (bodyOf Try.f34) spec_l1In_an ⟨mkE 15 0 [(0, dI x780), (1, dI x781), (2, dI x782)], []⟩ (spec_l1In_n1 x780 x781 x782) (fun (t : Bool) => (Exit.ret, ⟨mkE 15 0 [(6, dB t)], []⟩)) := .of fun K h => by
  simp only [spec_l1In_n1, wpW] at h
  exact .of (by kernel_rfl) h

theorem spec_l1In_e (x780 : Int) (x781 : Int) (x782 : Int) {r : AV} {H' : Heap} (h : (Ans.mk _ (spec_l1In x780 x781 x782) (fun (t : Bool) => (dB t, [])) [] none).run = some (r, H')) : Awp spec_l1In_ctx LL (bodyOf Try.f34) spec_l1In_an ⟨mkE 15 0 [(0, dI x780), (1, dI x781), (2, dI x782)], []⟩ (Ret (tlook tys) Try.f34.results.toList r H') :=
  ret_of' (spec_l1In_n1_l x780 x781 x782) (by unfold spec_l1In; kernel_rfl) (by
  intro t
  exact ret_mk [dB t] (by kernel_rfl) (by kernel_rfl) (by kernel_rfl) (by kernel_rfl)) h

def F_spec_l1In : Fun := fun avs H =>
  match avs, H with
  | [.dat (.int .i64) x780, .dat (.int .i64) x781, .dat (.int .i64) x782], [] => ⟨_, spec_l1In x780 x781 x782, fun (t : Bool) => (dB t, []), [], none⟩
  | _, _ => Ans.no

theorem spec_l1In_sound : Sound Try.prog 34 F_spec_l1In := by
  refine fn_sound' (C := spec_l1In_ctx) (c := bodyOf Try.f34) (cok_of tys_ok (alln) (alln) (by kernel_rfl)) Try.func34 (by kernel_rfl) LL spec_l1In_an ?_
  intro avs H r H' h
  unfold F_spec_l1In at h
  split at h
  · refine Awp.cast ?_ ?_ ?_ (spec_l1In_e _ _ _ h) <;> kernel_rfl
  · simp [Ans.no, Ans.run] at h


/-! loop.example/headtrees/impl.countOrders -/

def impl_countOrders_an : Ann := (.seq (.leaf [0]) (.seq (.leaf [0, 3]) (.seq (.seq (.leaf [0, 3, 4]) (.block (.loop (.seq (.seq (.leaf [0, 3, 4, 7]) (.cond (.leaf [0, 3, 4]) (.leaf [3]))) (.seq (.block (.leaf [0, 3, 4])) (.leaf [0, 3, 4])))))) (.seq (.leaf [2]) (.leaf [2])))))

noncomputable def impl_countOrders_ctx : Ctx := ⟨tlook tys, olook [], ioF, 0, false, []⟩

theorem impl_countOrders_n1_l (x2341 : Int) : Link impl_countOrders_ctx LL (Code.seq (cq [0] (bodyOf Try.f33)) (cq [0,1] (bodyOf Try.f33))) (Ann.seq (aq [0] impl_countOrders_an) (aq [0,1] impl_countOrders_an)) ⟨mkE 14 0 [(0, dI x2341)], []⟩ (impl_countOrders_n1) (fun (t : Unit) => (Exit.normal, ⟨mkE 14 0 [(0, dI x2341), (3, dI 1)], []⟩)) := .of fun K h => by
  simp only [impl_countOrders_n1, wpW] at h
  exact .of (by kernel_rfl) h

theorem impl_countOrders_n2_l (x2341 : Int) : Link impl_countOrders_ctx LL (cq [0,0,1,1] (bodyOf Try.f33)) (aq [0,0,1,1] impl_countOrders_an) ⟨mkE 14 0 [(0, dI x2341), (3, dI 1)], []⟩ (impl_countOrders_n2) (fun (t : Unit) => (Exit.normal, ⟨mkE 14 0 [(0, dI x2341), (3, dI 1), (4, dI 2)], []⟩)) := .of fun K h => by
  simp only [impl_countOrders_n2, wpW] at h
  exact .of (by kernel_rfl) h

theorem impl_countOrders_n3_l (x2341 : Int) (x2348 : Int) (x2349 : Int) : Link impl_countOrders_ctx LL (cq [0,0,1,0,1,1] (bodyOf Try.f33)) (aq [0,0,1,0,1,1] impl_countOrders_an) ⟨mkE 14 0 [(0, dI x2341), (3, dI x2348), (4, dI x2349)], []⟩ (impl_countOrders_n3 x2341 x2348 x2349) (Sum.elim (fun (t : Int × Int) => (Exit.normal, ⟨mkE 14 0 [(0, dI x2341), (3, dI t.1), (4, dI t.2)], []⟩)) (fun (t : Int) => ((Exit.exit 0), ⟨mkE 14 0 [(3, dI t)], []⟩))) := .of fun K h => by
  simp only [impl_countOrders_n3, wpW] at h
  exact .of (by kernel_rfl) h

def impl_countOrders_n4_l (x2341 : Int) := (link_loop (mk := fun (s : Int × Int) => ⟨mkE 14 0 [(0, dI x2341), (3, dI s.1), (4, dI s.2)], []⟩) (fin := (fun (t : Int) => ((Exit.exit 0), ⟨mkE 14 0 [(3, dI t)], []⟩))) (by
  rintro t f K h
  · exact h) (fun s => link_map (impl_countOrders_n3_l x2341 s.1 s.2) (Sum.elim (fun (t : Int × Int) => Sum.inl (t.1, t.2)) (fun (t : Int) => Sum.inr t)) (by
  rintro (t | t)
  · kernel_rfl
  · kernel_rfl)) (1, 2))

def impl_countOrders_n5_l (x2341 : Int) := (link_block (fin2 := (fun (t : Int) => (Exit.normal, ⟨mkE 14 0 [(3, dI t)], []⟩))) (id := 0) (impl_countOrders_n4_l x2341) (fun (t : Int) => t) (by
  rintro t K h
  · exact Eq.mp (by kernel_rfl) h))

def impl_countOrders_n6_l (x2341 : Int) := (link_seq (impl_countOrders_n2_l x2341) (fun (t : Unit) => (impl_countOrders_n5_l x2341)))

theorem impl_countOrders_n7_l (x2348 : Int) : Link impl_countOrders_ctx LL (cq [1,1,1] (bodyOf Try.f33)) (aq [1,1,1] impl_countOrders_an) ⟨mkE 14 0 [(3, dI x2348)], []⟩ (impl_countOrders_n7 x2348) (fun (t : Int) => (Exit.ret, ⟨mkE 14 0 [(2, dI t)], []⟩)) := .of fun K h => by
  simp only [impl_countOrders_n7, wpW] at h
  exact .of (by kernel_rfl) h

def impl_countOrders_n8_l (x2341 : Int) := (link_seq (impl_countOrders_n6_l x2341) (fun (t : Int) => (impl_countOrders_n7_l t)))

def impl_countOrders_n9_l (x2341 : Int) := (link_group (c := (cq [0,1] (bodyOf Try.f33))) (a := (aq [0,1] impl_countOrders_an)) [(cq [0] (bodyOf Try.f33))] [(aq [0] impl_countOrders_an)] rfl (link_seq (impl_countOrders_n1_l x2341) (fun (t : Unit) => (impl_countOrders_n8_l x2341))))

theorem impl_countOrders_e (x2341 : Int) {r : AV} {H' : Heap} (h : (Ans.mk _ (impl_countOrders x2341) (fun (t : Int) => (dI t, [])) [] none).run = some (r, H')) : Awp impl_countOrders_ctx LL (bodyOf Try.f33) impl_countOrders_an ⟨mkE 14 0 [(0, dI x2341)], []⟩ (Ret (tlook tys) Try.f33.results.toList r H') :=
  ret_of' (Link.cast (by kernel_rfl) (by kernel_rfl) (impl_countOrders_n9_l x2341)) (by unfold impl_countOrders; kernel_rfl) (by
  intro t
  exact ret_mk [dI t] (by kernel_rfl) (by kernel_rfl) (by kernel_rfl) (by kernel_rfl)) h

def F_impl_countOrders : Fun := fun avs H =>
  match avs, H with
  | [.dat (.int .i64) x2341], [] => ⟨_, impl_countOrders x2341, fun (t : Int) => (dI t, []), [], none⟩
  | _, _ => Ans.no

theorem impl_countOrders_sound : Sound Try.prog 33 F_impl_countOrders := by
  refine fn_sound' (C := impl_countOrders_ctx) (c := bodyOf Try.f33) (cok_of tys_ok (alln) (alln) (by kernel_rfl)) Try.func33 (by kernel_rfl) LL impl_countOrders_an ?_
  intro avs H r H' h
  unfold F_impl_countOrders at h
  split at h
  · refine Awp.cast ?_ ?_ ?_ (impl_countOrders_e _ h) <;> kernel_rfl
  · simp [Ans.no, Ans.run] at h


/-! loop.example/headtrees/impl.LengthsSum -/

def impl_LengthsSum_an : Ann := (.seq (.leaf [0]) (.seq (.seq (.leaf [0, 8]) (.cond (.seq (.leaf [2]) (.leaf [2])) (.leaf [0]))) (.seq (.leaf [2]) (.leaf [2]))))

noncomputable def impl_LengthsSum_ctx : Ctx := ⟨tlook tys, olook [(33, F_impl_countOrders)], ioF, 0, false, []⟩

theorem impl_LengthsSum_n1_l (x2336 : Int) : Link impl_LengthsSum_ctx LL (bodyOf Try.f18) impl_LengthsSum_an ⟨mkE 18 0 [(0, dI x2336)], []⟩ (impl_LengthsSum_n1 x2336) (fun (t : Int) => (Exit.ret, ⟨mkE 18 0 [(2, dI t)], []⟩)) := .of fun K h => by
  simp only [impl_LengthsSum_n1, wpW] at h
  exact .of (by kernel_rfl) h

theorem impl_LengthsSum_e (x2336 : Int) {r : AV} {H' : Heap} (h : (Ans.mk _ (impl_LengthsSum x2336) (fun (t : Int) => (dI t, [])) [] none).run = some (r, H')) : Awp impl_LengthsSum_ctx LL (bodyOf Try.f18) impl_LengthsSum_an ⟨mkE 18 0 [(0, dI x2336)], []⟩ (Ret (tlook tys) Try.f18.results.toList r H') :=
  ret_of' (impl_LengthsSum_n1_l x2336) (by unfold impl_LengthsSum; kernel_rfl) (by
  intro t
  exact ret_mk [dI t] (by kernel_rfl) (by kernel_rfl) (by kernel_rfl) (by kernel_rfl)) h

def F_impl_LengthsSum : Fun := fun avs H =>
  match avs, H with
  | [.dat (.int .i64) x2336], [] => ⟨_, impl_LengthsSum x2336, fun (t : Int) => (dI t, []), [], none⟩
  | _, _ => Ans.no

theorem impl_LengthsSum_sound : Sound Try.prog 18 F_impl_LengthsSum := by
  refine fn_sound' (C := impl_LengthsSum_ctx) (c := bodyOf Try.f18) (cok_of tys_ok (allc impl_countOrders_sound alln) (allc Try.call33 alln) (by kernel_rfl)) Try.func18 (by kernel_rfl) LL impl_LengthsSum_an ?_
  intro avs H r H' h
  unfold F_impl_LengthsSum at h
  split at h
  · refine Awp.cast ?_ ?_ ?_ (impl_LengthsSum_e _ h) <;> kernel_rfl
  · simp [Ans.no, Ans.run] at h


/-! loop.example/headtrees/spec.LengthsSum -/

def spec_LengthsSum_an : Ann := (.seq (.leaf [0]) (.seq (.seq (.leaf [0, 7]) (.cond (.seq (.leaf [2]) (.leaf [2])) (.leaf [0]))) (.seq (.leaf [0, 3]) (.seq (.seq (.leaf [0, 3, 4]) (.block (.loop (.seq (.seq (.leaf [0, 3, 4, 10]) (.cond (.leaf [0, 3, 4]) (.leaf [0, 3]))) (.seq (.block (.leaf [0, 3, 4])) (.leaf [0, 3, 4])))))) (.seq (.leaf [2]) (.leaf [2]))))))

noncomputable def spec_LengthsSum_ctx : Ctx := ⟨tlook tys, olook [(34, F_spec_l1In)], ioF, 0, false, []⟩

theorem spec_LengthsSum_n1_l (x2376 : Int) : Link spec_LengthsSum_ctx LL (Code.seq (cq [0] (bodyOf Try.f19)) (Code.seq (cq [0,1] (bodyOf Try.f19)) (cq [0,1,1] (bodyOf Try.f19)))) (Ann.seq (aq [0] spec_LengthsSum_an) (Ann.seq (aq [0,1] spec_LengthsSum_an) (aq [0,1,1] spec_LengthsSum_an))) ⟨mkE 24 0 [(0, dI x2376)], []⟩ (spec_LengthsSum_n1 x2376) (Sum.elim (fun (t : Unit) => (Exit.normal, ⟨mkE 24 0 [(0, dI x2376), (3, dI 1)], []⟩)) (fun (t : Int) => (Exit.ret, ⟨mkE 24 0 [(2, dI t)], []⟩))) := .of fun K h => by
  simp only [spec_LengthsSum_n1, wpW] at h
  exact .of (by kernel_rfl) h

theorem spec_LengthsSum_n2_l (x2376 : Int) : Link spec_LengthsSum_ctx LL (cq [0,0,1,1,1] (bodyOf Try.f19)) (aq [0,0,1,1,1] spec_LengthsSum_an) ⟨mkE 24 0 [(0, dI x2376), (3, dI 1)], []⟩ (spec_LengthsSum_n2) (fun (t : Unit) => (Exit.normal, ⟨mkE 24 0 [(0, dI x2376), (3, dI 1), (4, dI 2)], []⟩)) := .of fun K h => by
  simp only [spec_LengthsSum_n2, wpW] at h
  exact .of (by kernel_rfl) h

theorem spec_LengthsSum_n3_l (x2376 : Int) (x2387 : Int) (x2388 : Int) : Link spec_LengthsSum_ctx LL (cq [0,0,1,0,1,1,1] (bodyOf Try.f19)) (aq [0,0,1,0,1,1,1] spec_LengthsSum_an) ⟨mkE 24 0 [(0, dI x2376), (3, dI x2387), (4, dI x2388)], []⟩ (spec_LengthsSum_n3 x2376 x2387 x2388) (Sum.elim (fun (t : Int × Int) => (Exit.normal, ⟨mkE 24 0 [(0, dI x2376), (3, dI t.1), (4, dI t.2)], []⟩)) (fun (t : Int) => ((Exit.exit 0), ⟨mkE 24 0 [(0, dI x2376), (3, dI t)], []⟩))) := .of fun K h => by
  simp only [spec_LengthsSum_n3, wpW] at h
  exact .of (by kernel_rfl) h

def spec_LengthsSum_n4_l (x2376 : Int) := (link_loop (mk := fun (s : Int × Int) => ⟨mkE 24 0 [(0, dI x2376), (3, dI s.1), (4, dI s.2)], []⟩) (fin := (fun (t : Int) => ((Exit.exit 0), ⟨mkE 24 0 [(0, dI x2376), (3, dI t)], []⟩))) (by
  rintro t f K h
  · exact h) (fun s => link_map (spec_LengthsSum_n3_l x2376 s.1 s.2) (Sum.elim (fun (t : Int × Int) => Sum.inl (t.1, t.2)) (fun (t : Int) => Sum.inr t)) (by
  rintro (t | t)
  · kernel_rfl
  · kernel_rfl)) (1, 2))

def spec_LengthsSum_n5_l (x2376 : Int) := (link_block (fin2 := (fun (t : Int) => (Exit.normal, ⟨mkE 24 0 [(0, dI x2376), (3, dI t)], []⟩))) (id := 0) (spec_LengthsSum_n4_l x2376) (fun (t : Int) => t) (by
  rintro t K h
  · exact Eq.mp (by kernel_rfl) h))

def spec_LengthsSum_n6_l (x2376 : Int) := (link_seq (spec_LengthsSum_n2_l x2376) (fun (t : Unit) => (spec_LengthsSum_n5_l x2376)))

theorem spec_LengthsSum_n7_l (x2376 : Int) (x2387 : Int) : Link spec_LengthsSum_ctx LL (cq [1,1,1,1] (bodyOf Try.f19)) (aq [1,1,1,1] spec_LengthsSum_an) ⟨mkE 24 0 [(0, dI x2376), (3, dI x2387)], []⟩ (spec_LengthsSum_n7 x2376 x2387) (fun (t : Int) => (Exit.ret, ⟨mkE 24 0 [(2, dI t)], []⟩)) := .of fun K h => by
  simp only [spec_LengthsSum_n7, wpW] at h
  exact .of (by kernel_rfl) h

def spec_LengthsSum_n8_l (x2376 : Int) := (link_seq (spec_LengthsSum_n6_l x2376) (fun (t : Int) => (spec_LengthsSum_n7_l x2376 t)))

def spec_LengthsSum_n9_l (x2376 : Int) := (link_group (c := (cq [0,1,1] (bodyOf Try.f19))) (a := (aq [0,1,1] spec_LengthsSum_an)) [(cq [0] (bodyOf Try.f19)), (cq [0,1] (bodyOf Try.f19))] [(aq [0] spec_LengthsSum_an), (aq [0,1] spec_LengthsSum_an)] rfl (link_seq2 (spec_LengthsSum_n1_l x2376) (fun (t : Unit) => (spec_LengthsSum_n8_l x2376)) (fun (t : Int) => t) (by
  rintro t
  · kernel_rfl) (by
  rintro t f K h
  · exact h)))

theorem spec_LengthsSum_e (x2376 : Int) {r : AV} {H' : Heap} (h : (Ans.mk _ (spec_LengthsSum x2376) (fun (t : Int) => (dI t, [])) [] none).run = some (r, H')) : Awp spec_LengthsSum_ctx LL (bodyOf Try.f19) spec_LengthsSum_an ⟨mkE 24 0 [(0, dI x2376)], []⟩ (Ret (tlook tys) Try.f19.results.toList r H') :=
  ret_of' (Link.cast (by kernel_rfl) (by kernel_rfl) (spec_LengthsSum_n9_l x2376)) (by unfold spec_LengthsSum; kernel_rfl) (by
  intro t
  exact ret_mk [dI t] (by kernel_rfl) (by kernel_rfl) (by kernel_rfl) (by kernel_rfl)) h

def F_spec_LengthsSum : Fun := fun avs H =>
  match avs, H with
  | [.dat (.int .i64) x2376], [] => ⟨_, spec_LengthsSum x2376, fun (t : Int) => (dI t, []), [], none⟩
  | _, _ => Ans.no

theorem spec_LengthsSum_sound : Sound Try.prog 19 F_spec_LengthsSum := by
  refine fn_sound' (C := spec_LengthsSum_ctx) (c := bodyOf Try.f19) (cok_of tys_ok (allc spec_l1In_sound alln) (allc Try.call34 alln) (by kernel_rfl)) Try.func19 (by kernel_rfl) LL spec_LengthsSum_an ?_
  intro avs H r H' h
  unfold F_spec_LengthsSum at h
  split at h
  · refine Awp.cast ?_ ?_ ?_ (spec_LengthsSum_e _ h) <;> kernel_rfl
  · simp [Ans.no, Ans.run] at h


/-! loop.example/headtrees/laws.FnExactLengthsSum -/

def laws_FnExactLengthsSum_an : Ann := (.seq (.leaf [0]) (.seq (.leaf [0, 3]) (.seq (.leaf [3, 4]) (.seq (.seq (.leaf [11]) (.cond (.seq (.leaf [2]) (.leaf [2])) (.leaf []))) (.seq (.leaf [2]) (.leaf [2]))))))

noncomputable def laws_FnExactLengthsSum_ctx : Ctx := ⟨tlook tys, olook [(19, F_spec_LengthsSum), (18, F_impl_LengthsSum)], ioF, 0, false, []⟩

theorem laws_FnExactLengthsSum_n1_l (x2786 : Int) : Link laws_FnExactLengthsSum_ctx LL (bodyOf Try.f6) laws_FnExactLengthsSum_an ⟨mkE 12 0 [(0, dI x2786)], []⟩ (laws_FnExactLengthsSum_n1 x2786) (fun (t : Bool) => (Exit.ret, ⟨mkE 12 0 [(2, dB t)], []⟩)) := .of fun K h => by
  simp only [laws_FnExactLengthsSum_n1, wpW] at h
  exact .of (by kernel_rfl) h

theorem laws_FnExactLengthsSum_e (x2786 : Int) {r : AV} {H' : Heap} (h : (Ans.mk _ (laws_FnExactLengthsSum x2786) (fun (t : Bool) => (dB t, [])) [] none).run = some (r, H')) : Awp laws_FnExactLengthsSum_ctx LL (bodyOf Try.f6) laws_FnExactLengthsSum_an ⟨mkE 12 0 [(0, dI x2786)], []⟩ (Ret (tlook tys) Try.f6.results.toList r H') :=
  ret_of' (laws_FnExactLengthsSum_n1_l x2786) (by unfold laws_FnExactLengthsSum; kernel_rfl) (by
  intro t
  exact ret_mk [dB t] (by kernel_rfl) (by kernel_rfl) (by kernel_rfl) (by kernel_rfl)) h

def F_laws_FnExactLengthsSum : Fun := fun avs H =>
  match avs, H with
  | [.dat (.int .i64) x2786], [] => ⟨_, laws_FnExactLengthsSum x2786, fun (t : Bool) => (dB t, []), [], none⟩
  | _, _ => Ans.no

theorem laws_FnExactLengthsSum_sound : Sound Try.prog 6 F_laws_FnExactLengthsSum := by
  refine fn_sound' (C := laws_FnExactLengthsSum_ctx) (c := bodyOf Try.f6) (cok_of tys_ok (allc spec_LengthsSum_sound (allc impl_LengthsSum_sound alln)) (allc Try.call19 (allc Try.call18 alln)) (by kernel_rfl)) Try.func6 (by kernel_rfl) LL laws_FnExactLengthsSum_an ?_
  intro avs H r H' h
  unfold F_laws_FnExactLengthsSum at h
  split at h
  · refine Awp.cast ?_ ?_ ?_ (laws_FnExactLengthsSum_e _ h) <;> kernel_rfl
  · simp [Ans.no, Ans.run] at h


end Go.Rv
