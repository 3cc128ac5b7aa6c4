/-
  The checked code answers as the plain functions do; written by program. Conditions: none.
-/
import Derived.Test.YtgjhjbankpdcgaaGFnExactCountTurned
import Derived.Test.YtgjhjbankpdcgaaProg
set_option linter.unusedVariables false
set_option linter.unusedSimpArgs false
set_option linter.defProp false
set_option maxRecDepth 100000
namespace Go.Rv
open Go.Proofs
theorem ty3 : TIOk Try.prog 3 ⟨.int .i64, 1, 8, some (.int .i64), [.int .i64 0], false⟩ := ⟨⟨infoOf (Try.prog.info? 3), by kernel_rfl, by kernel_rfl, by kernel_rfl, .int .i64 0, by kernel_rfl, by kernel_rfl⟩, (by kernel_rfl : Try.prog.underlying 3 = some (.int .i64)), no_eq⟩
theorem ty4 : TIOk Try.prog 4 ⟨.bool, 1, 1, some .bool, [.bool false], false⟩ := ⟨⟨infoOf (Try.prog.info? 4), by kernel_rfl, by kernel_rfl, by kernel_rfl, .bool false, by kernel_rfl, by kernel_rfl⟩, (by kernel_rfl : Try.prog.underlying 4 = some .bool), no_eq⟩
theorem ty5 : TIOk Try.prog 5 ⟨.int .u8, 1, 1, some (.int .u8), [.int .u8 0], false⟩ := ⟨⟨infoOf (Try.prog.info? 5), by kernel_rfl, by kernel_rfl, by kernel_rfl, .int .u8 0, by kernel_rfl, by kernel_rfl⟩, (by kernel_rfl : Try.prog.underlying 5 = some (.int .u8)), no_eq⟩
theorem ty22 : TIOk Try.prog 22 ⟨.slice 5, 1, 24, some (.list (.int .u8)), [.slice none 0 0], false⟩ := ⟨⟨infoOf (Try.prog.info? 22), by kernel_rfl, by kernel_rfl, by kernel_rfl, .slice none 0 0, by kernel_rfl, by kernel_rfl⟩, (by kernel_rfl : Try.prog.underlying 22 = some (.slice 5)), no_eq⟩
theorem ty23 : TIOk Try.prog 23 ⟨.slice 3, 1, 24, some (.list (.int .i64)), [.slice none 0 0], false⟩ := ⟨⟨infoOf (Try.prog.info? 23), by kernel_rfl, by kernel_rfl, by kernel_rfl, .slice none 0 0, by kernel_rfl, by kernel_rfl⟩, (by kernel_rfl : Try.prog.underlying 23 = some (.slice 3)), no_eq⟩
theorem ty46 : TIOk Try.prog 46 ⟨.arr 9 4, 9, 9, none, [.bool false, .bool false, .bool false, .bool false, .bool false, .bool false, .bool false, .bool false, .bool false], false⟩ := ⟨⟨infoOf (Try.prog.info? 46), by kernel_rfl, by kernel_rfl, by kernel_rfl, .agg #[.bool false, .bool false, .bool false, .bool false, .bool false, .bool false, .bool false, .bool false, .bool false], by kernel_rfl, by kernel_rfl⟩, (by kernel_rfl : Try.prog.underlying 46 = some (.array 9 4)), no_eq⟩
theorem ty53 : TIOk Try.prog 53 ⟨.strct [(0, 22), (1, 3)], 2, 32, some (.pair (.list (.int .u8)) (.pair (.int .i64) .unit)), [.slice none 0 0, .int .i64 0], false⟩ := ⟨⟨infoOf (Try.prog.info? 53), by kernel_rfl, by kernel_rfl, by kernel_rfl, .agg #[.slice none 0 0, .int .i64 0], by kernel_rfl, by kernel_rfl⟩, ⟨fieldsOf (Try.prog.underlying 53), by kernel_rfl, by kernel_rfl⟩, no_eq⟩
theorem ty62 : TIOk Try.prog 62 ⟨.strct [(0, 23), (1, 3), (2, 3)], 3, 40, some (.pair (.list (.int .i64)) (.pair (.int .i64) (.pair (.int .i64) .unit))), [.slice none 0 0, .int .i64 0, .int .i64 0], false⟩ := ⟨⟨infoOf (Try.prog.info? 62), by kernel_rfl, by kernel_rfl, by kernel_rfl, .agg #[.slice none 0 0, .int .i64 0, .int .i64 0], by kernel_rfl, by kernel_rfl⟩, ⟨fieldsOf (Try.prog.underlying 62), by kernel_rfl, by kernel_rfl⟩, no_eq⟩
theorem ty66 : TIOk Try.prog 66 ⟨.int .u64, 1, 8, some (.int .u64), [.int .u64 0], false⟩ := ⟨⟨infoOf (Try.prog.info? 66), by kernel_rfl, by kernel_rfl, by kernel_rfl, .int .u64 0, by kernel_rfl, by kernel_rfl⟩, (by kernel_rfl : Try.prog.underlying 66 = some (.int .u64)), no_eq⟩
theorem ty67 : TIOk Try.prog 67 ⟨.slice 23, 1, 24, some (.list (.list (.int .i64))), [.slice none 0 0], false⟩ := ⟨⟨infoOf (Try.prog.info? 67), by kernel_rfl, by kernel_rfl, by kernel_rfl, .slice none 0 0, by kernel_rfl, by kernel_rfl⟩, (by kernel_rfl : Try.prog.underlying 67 = some (.slice 23)), no_eq⟩
def tys : List (TypeId × TI) := [(3, ⟨.int .i64, 1, 8, some (.int .i64), [.int .i64 0], false⟩), (4, ⟨.bool, 1, 1, some .bool, [.bool false], false⟩), (5, ⟨.int .u8, 1, 1, some (.int .u8), [.int .u8 0], false⟩), (22, ⟨.slice 5, 1, 24, some (.list (.int .u8)), [.slice none 0 0], false⟩), (23, ⟨.slice 3, 1, 24, some (.list (.int .i64)), [.slice none 0 0], false⟩), (46, ⟨.arr 9 4, 9, 9, none, [.bool false, .bool false, .bool false, .bool false, .bool false, .bool false, .bool false, .bool false, .bool false], false⟩), (53, ⟨.strct [(0, 22), (1, 3)], 2, 32, some (.pair (.list (.int .u8)) (.pair (.int .i64) .unit)), [.slice none 0 0, .int .i64 0], false⟩), (62, ⟨.strct [(0, 23), (1, 3), (2, 3)], 3, 40, some (.pair (.list (.int .i64)) (.pair (.int .i64) (.pair (.int .i64) .unit))), [.slice none 0 0, .int .i64 0, .int .i64 0], false⟩), (66, ⟨.int .u64, 1, 8, some (.int .u64), [.int .u64 0], false⟩), (67, ⟨.slice 23, 1, 24, some (.list (.list (.int .i64))), [.slice none 0 0], false⟩)]
theorem tys_ok : TOk Try.prog (tlook tys) := tok_of (allc ty3 (allc ty4 (allc ty5 (allc ty22 (allc ty23 (allc ty46 (allc ty53 (allc ty62 (allc ty66 (allc ty67 alln))))))))))
def ioF (f : FuncId) (i : Nat) : Bool := [(22, 0), (48, 0)].any fun (p : Nat × Nat) => Nat.beq p.1 f && Nat.beq p.2 i


/-! loop.example/headtrees/impl.OrderOk -/

def impl_OrderOk_an : Ann := (.seq (.leaf [0, 1]) (.seq (.seq (.leaf [0, 1, 19]) (.cond (.seq (.leaf [4]) (.leaf [4])) (.leaf [0, 1]))) (.seq (.leaf [0, 1, 5]) (.seq (.seq (.leaf [1, 5, 20, 21, 22]) (.block (.loop (.seq (.leaf [1, 5, 20, 21, 22, 23]) (.seq (.cond (.leaf [1, 5, 20, 21, 22]) (.leaf [])) (.seq (.block (.seq (.leaf [1, 5, 7, 20, 21, 22]) (.seq (.seq (.leaf [1, 5, 7, 20, 21, 22, 37]) (.cond (.seq (.leaf [4]) (.leaf [4])) (.leaf [1, 5, 7, 20, 21, 22]))) (.leaf [1, 5, 20, 21, 22])))) (.leaf [1, 5, 20, 21, 22]))))))) (.seq (.leaf [4]) (.leaf [4]))))))

noncomputable def impl_OrderOk_ctx : Ctx := ⟨tlook tys, olook [], ioF, 0, false, []⟩

theorem impl_OrderOk_n1_l (x554 : List Int) (x555 : Int) : Link impl_OrderOk_ctx LL (Code.seq (cq [0] (bodyOf Try.f17)) (Code.seq (cq [0,1] (bodyOf Try.f17)) (cq [0,1,1] (bodyOf Try.f17)))) (Ann.seq (aq [0] impl_OrderOk_an) (Ann.seq (aq [0,1] impl_OrderOk_an) (aq [0,1,1] impl_OrderOk_an))) ⟨mkE 41 0 [(0, dL x554), (1, dI x555)], []⟩ (impl_OrderOk_n1 x554 x555) (Sum.elim (fun (t : Unit) => (Exit.normal, ⟨mkE 41 0 [(0, dL x554), (1, dI x555), (5, .ptr 0 0)], [some (.seq .bool (List.replicate 9 false))]⟩)) (fun (t : Bool) => (Exit.ret, ⟨mkE 41 0 [(4, dB t)], []⟩))) := by
  refine Link.of fun K h => ?_
  simp only [impl_OrderOk_n1, wpO_bind, wpO_cond, wpO_map, wpO_some] at h
  exact Awp.of (by kernel_rfl) h

theorem impl_OrderOk_n2_l (x554 : List Int) (x555 : Int) : Link impl_OrderOk_ctx LL (cq [0,0,1,1,1] (bodyOf Try.f17)) (aq [0,0,1,1,1] impl_OrderOk_an) ⟨mkE 41 0 [(0, dL x554), (1, dI x555), (5, .ptr 0 0)], [some (.seq .bool (List.replicate 9 false))]⟩ (impl_OrderOk_n2 x554) (fun (t : Int) => (Exit.normal, ⟨mkE 41 0 [(1, dI x555), (5, .ptr 0 0), (20, dL x554), (21, dI t), (22, dI 0)], [some (.seq .bool (List.replicate 9 false))]⟩)) := by
  refine Link.of fun K h => ?_
  simp only [impl_OrderOk_n2, wpO_bind, wpO_cond, wpO_map, wpO_some] at h
  exact Awp.of (by kernel_rfl) h

theorem impl_OrderOk_n3_l (x555 : Int) (x554 : List Int) (x565 : Int) (x589 : Int) (x590 : List Bool) : Link impl_OrderOk_ctx LL (cq [0,0,1,0,1,1,1] (bodyOf Try.f17)) (aq [0,0,1,0,1,1,1] impl_OrderOk_an) ⟨mkE 41 0 [(1, dI x555), (5, .ptr 0 0), (20, dL x554), (21, dI x565), (22, dI x589)], [some (.seq .bool x590)]⟩ (impl_OrderOk_n3 x555 x554 x565 x589 x590) (Sum.elim (fun (t : Int × (List Bool)) => (Exit.normal, ⟨mkE 41 0 [(1, dI x555), (5, .ptr 0 0), (20, dL x554), (21, dI x565), (22, dI t.1)], [some (.seq .bool t.2)]⟩)) (Sum.elim (fun (t : Bool) => (Exit.ret, ⟨mkE 41 0 [(4, dB t)], []⟩)) (fun (t : Unit) => ((Exit.exit 0), ⟨mkE 41 0 [], []⟩)))) := by
  refine Link.of fun K h => ?_
  simp only [impl_OrderOk_n3, wpO_bind, wpO_cond, wpO_map, wpO_some] at h
  exact Awp.of (by kernel_rfl) h

def impl_OrderOk_n4_l (x555 : Int) (x554 : List Int) (x565 : Int) := (link_loop (mk := fun (s : Int × (List Bool)) => ⟨mkE 41 0 [(1, dI x555), (5, .ptr 0 0), (20, dL x554), (21, dI x565), (22, dI s.1)], [some (.seq .bool s.2)]⟩) (fin := (Sum.elim (fun (t : Bool) => (Exit.ret, ⟨mkE 41 0 [(4, dB t)], []⟩)) (fun (t : Unit) => ((Exit.exit 0), ⟨mkE 41 0 [], []⟩)))) (by
  rintro (t | t) f K h
  · exact h
  · exact h) (fun s => link_map (impl_OrderOk_n3_l x555 x554 x565 s.1 s.2) (Sum.elim (fun (t : Int × (List Bool)) => Sum.inl (t.1, t.2)) (Sum.elim (fun (t : Bool) => Sum.inr (Sum.inl t)) (fun (t : Unit) => Sum.inr (Sum.inr t)))) (by
  rintro (t | t | t)
  · kernel_rfl
  · kernel_rfl
  · kernel_rfl)) (0, (List.replicate 9 false)))

def impl_OrderOk_n5_l (x555 : Int) (x554 : List Int) (x565 : Int) := (link_block (fin2 := (Sum.elim (fun (t : Unit) => (Exit.normal, ⟨mkE 41 0 [], []⟩)) (fun (t : Bool) => (Exit.ret, ⟨mkE 41 0 [(4, dB t)], []⟩)))) (id := 0) (impl_OrderOk_n4_l x555 x554 x565) (Sum.elim (fun (t : Bool) => (Sum.inr t)) (fun (t : Unit) => (Sum.inl ()))) (by
  rintro (t | t) K h
  · exact Eq.mp (by kernel_rfl) h
  · exact Eq.mp (by kernel_rfl) h))

def impl_OrderOk_n6_l (x554 : List Int) (x555 : Int) := (link_seq (impl_OrderOk_n2_l x554 x555) (fun (t : Int) => (impl_OrderOk_n5_l x555 x554 t)))

theorem impl_OrderOk_n7_l : Link impl_OrderOk_ctx LL (cq [1,1,1,1] (bodyOf Try.f17)) (aq [1,1,1,1] impl_OrderOk_an) ⟨mkE 41 0 [], []⟩ (impl_OrderOk_n7) (fun (t : Bool) => (Exit.ret, ⟨mkE 41 0 [(4, dB t)], []⟩)) := by
  refine Link.of fun K h => ?_
  simp only [impl_OrderOk_n7, wpO_bind, wpO_cond, wpO_map, wpO_some] at h
  exact Awp.of (by kernel_rfl) h

def impl_OrderOk_n8_l (x554 : List Int) (x555 : Int) := (link_seq2 (impl_OrderOk_n6_l x554 x555) (fun (t : Unit) => (impl_OrderOk_n7_l)) (fun (t : Bool) => t) (by
  rintro t
  · kernel_rfl) (by
  rintro t f K h
  · exact h))

def impl_OrderOk_n9_l (x554 : List Int) (x555 : Int) := (link_group (c := (cq [0,1,1] (bodyOf Try.f17))) (a := (aq [0,1,1] impl_OrderOk_an)) [(cq [0] (bodyOf Try.f17)), (cq [0,1] (bodyOf Try.f17))] [(aq [0] impl_OrderOk_an), (aq [0,1] impl_OrderOk_an)] rfl (link_seq2 (impl_OrderOk_n1_l x554 x555) (fun (t : Unit) => (impl_OrderOk_n8_l x554 x555)) (fun (t : Bool) => t) (by
  rintro t
  · kernel_rfl) (by
  rintro t f K h
  · exact h)))

theorem impl_OrderOk_e (x554 : List Int) (x555 : Int) {r : AV} {H' : Heap} (h : (Ans.mk _ (impl_OrderOk x554 x555) (fun (t : Bool) => (dB t, [])) [] none).run = some (r, H')) : Awp impl_OrderOk_ctx LL (bodyOf Try.f17) impl_OrderOk_an ⟨mkE 41 0 [(0, dL x554), (1, dI x555)], []⟩ (Ret (tlook tys) Try.f17.results.toList r H') :=
  ret_of' (Link.cast (by kernel_rfl) (by kernel_rfl) (impl_OrderOk_n9_l x554 x555)) (by unfold impl_OrderOk; kernel_rfl) (by
  intro t
  exact ret_mk [dB t] (by kernel_rfl) (by kernel_rfl) (by kernel_rfl) (by kernel_rfl)) h

def F_impl_OrderOk : Fun := fun avs H =>
  match avs, H with
  | [.dat (.list (.int .i64)) x554, .dat (.int .i64) x555], [] => ⟨_, impl_OrderOk x554 x555, fun (t : Bool) => (dB t, []), [], none⟩
  | _, _ => Ans.no

theorem impl_OrderOk_sound : Sound Try.prog 17 F_impl_OrderOk := by
  refine fn_sound' (C := impl_OrderOk_ctx) (c := bodyOf Try.f17) (cok_of tys_ok (alln) (alln) (by kernel_rfl)) Try.func17 (by kernel_rfl) LL impl_OrderOk_an ?_
  intro avs H r H' h
  unfold F_impl_OrderOk at h
  split at h
  · refine Awp.cast ?_ ?_ ?_ (impl_OrderOk_e _ _ h) <;> kernel_rfl
  · simp [Ans.no, Ans.run] at h


/-! slices.Grow[[]int,int] -/

def slices_Grow_int_int_an : Ann := (.seq (.leaf [0, 1]) (.seq (.seq (.leaf [0, 1, 6]) (.cond (.leaf [0, 1]) (.leaf [0, 1]))) (.seq (.seq (.leaf [0, 1]) (.seq (.leaf [0, 1, 16]) (.cond (.leaf [0]) (.leaf [0])))) (.seq (.leaf [4]) (.leafF [⟨0, 4, true, none, none⟩] [4])))))

noncomputable def slices_Grow_int_int_ctx : Ctx := ⟨tlook tys, olook [], ioF, 0, false, []⟩

theorem slices_Grow_int_int_n1_l (x866 : Int) : Link slices_Grow_int_int_ctx LL (bodyOf Try.f48) slices_Grow_int_int_an ⟨mkE 27 0 [(0, .nils), (1, dI x866)], []⟩ (slices_Grow_int_int_n1 x866) (fun (t : Nat × (List Int)) => (Exit.ret, ⟨mkE 27 0 [(4, .win 0 0 t.1)], [some (sI t.2)]⟩)) := by
  refine Link.of fun K h => ?_
  simp only [slices_Grow_int_int_n1, wpO_bind, wpO_cond, wpO_map, wpO_some, wpO_none] at h
  exact Awp.of (by kernel_rfl) h

theorem slices_Grow_int_int_e (x866 : Int) {r : AV} {H' : Heap} (h : (Ans.mk _ (slices_Grow_int_int x866) (fun (t : Nat × (List Int)) => (.win 0 0 t.1, [some (sI t.2)])) [] none).run = some (r, H')) : Awp slices_Grow_int_int_ctx LL (bodyOf Try.f48) slices_Grow_int_int_an ⟨mkE 27 0 [(0, .nils), (1, dI x866)], []⟩ (Ret (tlook tys) Try.f48.results.toList r H') :=
  ret_of' (slices_Grow_int_int_n1_l x866) (by unfold slices_Grow_int_int; kernel_rfl) (by
  intro t
  exact ret_mk [.win 0 0 t.1] (by kernel_rfl) (by kernel_rfl) (by kernel_rfl) (by kernel_rfl)) h

def F_slices_Grow_int_int : Fun := fun avs H =>
  match avs, H with
  | [.nils, .dat (.int .i64) x866], [] => ⟨_, slices_Grow_int_int x866, fun (t : Nat × (List Int)) => (.win 0 0 t.1, [some (sI t.2)]), [], none⟩
  | _, _ => Ans.no

theorem slices_Grow_int_int_sound : Sound Try.prog 48 F_slices_Grow_int_int := by
  refine fn_sound' (C := slices_Grow_int_int_ctx) (c := bodyOf Try.f48) (cok_of tys_ok (alln) (alln) (by kernel_rfl)) Try.func48 (by kernel_rfl) LL slices_Grow_int_int_an ?_
  intro avs H r H' h
  unfold F_slices_Grow_int_int at h
  split at h
  · refine Awp.cast ?_ ?_ ?_ (slices_Grow_int_int_e _ h) <;> kernel_rfl
  · simp [Ans.no, Ans.run] at h


/-! slices.Concat[[]int,int] -/

def slices_Concat_int_int_an : Ann := (.seq (.leaf [0]) (.seq (.leaf [0, 3]) (.seq (.seq (.leaf [0, 3, 9, 10, 11]) (.block (.loop (.seq (.leaf [0, 3, 9, 10, 11, 12]) (.seq (.cond (.leaf [0, 3, 9, 10, 11]) (.leaf [0, 3])) (.seq (.block (.seq (.leaf [0, 3, 5, 9, 10, 11]) (.seq (.leaf [0, 3, 9, 10, 11]) (.seq (.leaf [0, 3, 9, 10, 11, 20]) (.cond (.leaf [0, 3, 9, 10, 11]) (.leaf [0, 3, 9, 10, 11])))))) (.leaf [0, 3, 9, 10, 11]))))))) (.seq (.leaf [0, 6]) (.seq (.seq (.leaf [6, 25, 26, 27]) (.block (.loop (.seq (.leaf [6, 25, 26, 27, 28]) (.seq (.cond (.leaf [6, 25, 26, 27]) (.leaf [6])) (.seq (.block (.seq (.leaf [6, 8, 25, 26, 27]) (.leaf [6, 25, 26, 27]))) (.leafF [⟨2, 6, true, none, none⟩] [6, 25, 26, 27]))))))) (.seq (.leaf [2]) (.leaf [2])))))))

noncomputable def slices_Concat_int_int_ctx : Ctx := ⟨tlook tys, olook [(48, F_slices_Grow_int_int)], ioF, 0, false, []⟩

theorem slices_Concat_int_int_n1_l (x836 : List (List Int)) : Link slices_Concat_int_int_ctx LL (Code.seq (cq [0] (bodyOf Try.f43)) (cq [0,1] (bodyOf Try.f43))) (Ann.seq (aq [0] slices_Concat_int_int_an) (aq [0,1] slices_Concat_int_int_an)) ⟨mkE 36 0 [(0, .dat (.list (.list (.int .i64))) x836)], []⟩ (slices_Concat_int_int_n1) (fun (t : Unit) => (Exit.normal, ⟨mkE 36 0 [(0, .dat (.list (.list (.int .i64))) x836), (3, dI 0)], []⟩)) := by
  refine Link.of fun K h => ?_
  simp only [slices_Concat_int_int_n1, wpO_bind, wpO_cond, wpO_map, wpO_some] at h
  exact Awp.of (by kernel_rfl) h

theorem slices_Concat_int_int_n2_l (x836 : List (List Int)) : Link slices_Concat_int_int_ctx LL (cq [0,0,1,1] (bodyOf Try.f43)) (aq [0,0,1,1] slices_Concat_int_int_an) ⟨mkE 36 0 [(0, .dat (.list (.list (.int .i64))) x836), (3, dI 0)], []⟩ (slices_Concat_int_int_n2 x836) (fun (t : Int) => (Exit.normal, ⟨mkE 36 0 [(0, .dat (.list (.list (.int .i64))) x836), (3, dI 0), (9, .dat (.list (.list (.int .i64))) x836), (10, dI t), (11, dI 0)], []⟩)) := by
  refine Link.of fun K h => ?_
  simp only [slices_Concat_int_int_n2, wpO_bind, wpO_cond, wpO_map, wpO_some] at h
  exact Awp.of (by kernel_rfl) h

theorem slices_Concat_int_int_n3_l (x836 : List (List Int)) (x976 : Int) (x962 : Int) (x977 : Int) : Link slices_Concat_int_int_ctx LL (cq [0,0,1,0,1,1] (bodyOf Try.f43)) (aq [0,0,1,0,1,1] slices_Concat_int_int_an) ⟨mkE 36 0 [(0, .dat (.list (.list (.int .i64))) x836), (3, dI x976), (9, .dat (.list (.list (.int .i64))) x836), (10, dI x962), (11, dI x977)], []⟩ (slices_Concat_int_int_n3 x836 x976 x962 x977) (Sum.elim (fun (t : Int × Int) => (Exit.normal, ⟨mkE 36 0 [(0, .dat (.list (.list (.int .i64))) x836), (3, dI t.1), (9, .dat (.list (.list (.int .i64))) x836), (10, dI x962), (11, dI t.2)], []⟩)) (fun (t : Int) => ((Exit.exit 0), ⟨mkE 36 0 [(0, .dat (.list (.list (.int .i64))) x836), (3, dI t)], []⟩))) := by
  refine Link.of fun K h => ?_
  simp only [slices_Concat_int_int_n3, wpO_bind, wpO_cond, wpO_map, wpO_some, wpO_none] at h
  exact Awp.of (by kernel_rfl) h

def slices_Concat_int_int_n4_l (x836 : List (List Int)) (x962 : Int) := (link_loop (mk := fun (s : Int × Int) => ⟨mkE 36 0 [(0, .dat (.list (.list (.int .i64))) x836), (3, dI s.1), (9, .dat (.list (.list (.int .i64))) x836), (10, dI x962), (11, dI s.2)], []⟩) (fin := (fun (t : Int) => ((Exit.exit 0), ⟨mkE 36 0 [(0, .dat (.list (.list (.int .i64))) x836), (3, dI t)], []⟩))) (by
  rintro t f K h
  · exact h) (fun s => link_map (slices_Concat_int_int_n3_l x836 s.1 x962 s.2) (Sum.elim (fun (t : Int × Int) => Sum.inl (t.1, t.2)) (fun (t : Int) => Sum.inr t)) (by
  rintro (t | t)
  · kernel_rfl
  · kernel_rfl)) (0, 0))

def slices_Concat_int_int_n5_l (x836 : List (List Int)) (x962 : Int) := (link_block (fin2 := (fun (t : Int) => (Exit.normal, ⟨mkE 36 0 [(0, .dat (.list (.list (.int .i64))) x836), (3, dI t)], []⟩))) (id := 0) (slices_Concat_int_int_n4_l x836 x962) (fun (t : Int) => t) (by
  rintro t K h
  · exact Eq.mp (by kernel_rfl) h))

def slices_Concat_int_int_n6_l (x836 : List (List Int)) := (link_seq (slices_Concat_int_int_n2_l x836) (fun (t : Int) => (slices_Concat_int_int_n5_l x836 t)))

theorem slices_Concat_int_int_n7_l (x836 : List (List Int)) (x976 : Int) : Link slices_Concat_int_int_ctx LL (cq [0,1,1,1] (bodyOf Try.f43)) (aq [0,1,1,1] slices_Concat_int_int_an) ⟨mkE 36 0 [(0, .dat (.list (.list (.int .i64))) x836), (3, dI x976)], []⟩ (slices_Concat_int_int_n7 x976) (fun (t : Nat × (List Int)) => (Exit.normal, ⟨mkE 36 0 [(0, .dat (.list (.list (.int .i64))) x836), (6, .win 0 0 t.1)], [some (sI t.2)]⟩)) := by
  refine Link.of fun K h => ?_
  simp only [slices_Concat_int_int_n7, wpO_bind, wpO_cond, wpO_map, wpO_some] at h
  exact Awp.of (by kernel_rfl) h

theorem slices_Concat_int_int_n8_l (x836 : List (List Int)) (x992 : Nat) (x993 : List Int) : Link slices_Concat_int_int_ctx LL (cq [0,0,1,1,1,1] (bodyOf Try.f43)) (aq [0,0,1,1,1,1] slices_Concat_int_int_an) ⟨mkE 36 0 [(0, .dat (.list (.list (.int .i64))) x836), (6, .win 0 0 x992)], [some (sI x993)]⟩ (slices_Concat_int_int_n8 x836) (fun (t : Int) => (Exit.normal, ⟨mkE 36 0 [(6, .win 0 0 x992), (25, .dat (.list (.list (.int .i64))) x836), (26, dI t), (27, dI 0)], [some (sI x993)]⟩)) := by
  refine Link.of fun K h => ?_
  simp only [slices_Concat_int_int_n8, wpO_bind, wpO_cond, wpO_map, wpO_some] at h
  exact Awp.of (by kernel_rfl) h

theorem slices_Concat_int_int_n9_l (x1009 : Nat) (x836 : List (List Int)) (x994 : Int) (x1010 : Int) (x1011 : List Int) : Link slices_Concat_int_int_ctx LL (cq [0,0,1,0,1,1,1,1] (bodyOf Try.f43)) (aq [0,0,1,0,1,1,1,1] slices_Concat_int_int_an) ⟨mkE 36 0 [(6, .win 0 0 x1009), (25, .dat (.list (.list (.int .i64))) x836), (26, dI x994), (27, dI x1010)], [some (sI x1011)]⟩ (slices_Concat_int_int_n9 x1009 x836 x994 x1010 x1011) (Sum.elim (fun (t : Nat × Int × (List Int)) => (Exit.normal, ⟨mkE 36 0 [(6, .win 0 0 t.1), (25, .dat (.list (.list (.int .i64))) x836), (26, dI x994), (27, dI t.2.1)], [some (sI t.2.2)]⟩)) (fun (t : Nat × (List Int)) => ((Exit.exit 2), ⟨mkE 36 0 [(6, .win 0 0 t.1)], [some (sI t.2)]⟩))) := by
  refine Link.of fun K h => ?_
  simp only [slices_Concat_int_int_n9, wpO_bind, wpO_cond, wpO_map, wpO_some] at h
  exact Awp.of (by kernel_rfl) h

def slices_Concat_int_int_n10_l (x992 : Nat) (x836 : List (List Int)) (x994 : Int) (x993 : List Int) := (link_loop (mk := fun (s : Nat × Int × (List Int)) => ⟨mkE 36 0 [(6, .win 0 0 s.1), (25, .dat (.list (.list (.int .i64))) x836), (26, dI x994), (27, dI s.2.1)], [some (sI s.2.2)]⟩) (fin := (fun (t : Nat × (List Int)) => ((Exit.exit 2), ⟨mkE 36 0 [(6, .win 0 0 t.1)], [some (sI t.2)]⟩))) (by
  rintro t f K h
  · exact h) (fun s => link_map (slices_Concat_int_int_n9_l s.1 x836 x994 s.2.1 s.2.2) (Sum.elim (fun (t : Nat × Int × (List Int)) => Sum.inl (t.1, t.2.1, t.2.2)) (fun (t : Nat × (List Int)) => Sum.inr t)) (by
  rintro (t | t)
  · kernel_rfl
  · kernel_rfl)) (x992, 0, x993))

def slices_Concat_int_int_n11_l (x992 : Nat) (x836 : List (List Int)) (x994 : Int) (x993 : List Int) := (link_block (fin2 := (fun (t : Nat × (List Int)) => (Exit.normal, ⟨mkE 36 0 [(6, .win 0 0 t.1)], [some (sI t.2)]⟩))) (id := 2) (slices_Concat_int_int_n10_l x992 x836 x994 x993) (fun (t : Nat × (List Int)) => (t.1, t.2)) (by
  rintro t K h
  · exact Eq.mp (by kernel_rfl) h))

def slices_Concat_int_int_n12_l (x836 : List (List Int)) (x992 : Nat) (x993 : List Int) := (link_seq (slices_Concat_int_int_n8_l x836 x992 x993) (fun (t : Int) => (slices_Concat_int_int_n11_l x992 x836 t x993)))

theorem slices_Concat_int_int_n13_l (x1009 : Nat) (x1011 : List Int) : Link slices_Concat_int_int_ctx LL (cq [1,1,1,1,1] (bodyOf Try.f43)) (aq [1,1,1,1,1] slices_Concat_int_int_an) ⟨mkE 36 0 [(6, .win 0 0 x1009)], [some (sI x1011)]⟩ (slices_Concat_int_int_n13 x1009 x1011) (fun (t : Nat × (List Int)) => (Exit.ret, ⟨mkE 36 0 [(2, .win 0 0 t.1)], [some (sI t.2)]⟩)) := by
  refine Link.of fun K h => ?_
  simp only [slices_Concat_int_int_n13, wpO_bind, wpO_cond, wpO_map, wpO_some] at h
  exact Awp.of (by kernel_rfl) h

def slices_Concat_int_int_n14_l (x836 : List (List Int)) (x992 : Nat) (x993 : List Int) := (link_seq (slices_Concat_int_int_n12_l x836 x992 x993) (fun (t : Nat × (List Int)) => (slices_Concat_int_int_n13_l t.1 t.2)))

def slices_Concat_int_int_n15_l (x836 : List (List Int)) (x976 : Int) := (link_seq (slices_Concat_int_int_n7_l x836 x976) (fun (t : Nat × (List Int)) => (slices_Concat_int_int_n14_l x836 t.1 t.2)))

def slices_Concat_int_int_n16_l (x836 : List (List Int)) := (link_seq (slices_Concat_int_int_n6_l x836) (fun (t : Int) => (slices_Concat_int_int_n15_l x836 t)))

def slices_Concat_int_int_n17_l (x836 : List (List Int)) := (link_group (c := (cq [0,1] (bodyOf Try.f43))) (a := (aq [0,1] slices_Concat_int_int_an)) [(cq [0] (bodyOf Try.f43))] [(aq [0] slices_Concat_int_int_an)] rfl (link_seq (slices_Concat_int_int_n1_l x836) (fun (t : Unit) => (slices_Concat_int_int_n16_l x836))))

theorem slices_Concat_int_int_e (x836 : List (List Int)) {r : AV} {H' : Heap} (h : (Ans.mk _ (slices_Concat_int_int x836) (fun (t : Nat × (List Int)) => (.win 0 0 t.1, [some (sI t.2)])) [] none).run = some (r, H')) : Awp slices_Concat_int_int_ctx LL (bodyOf Try.f43) slices_Concat_int_int_an ⟨mkE 36 0 [(0, .dat (.list (.list (.int .i64))) x836)], []⟩ (Ret (tlook tys) Try.f43.results.toList r H') :=
  ret_of' (Link.cast (by kernel_rfl) (by kernel_rfl) (slices_Concat_int_int_n17_l x836)) (by unfold slices_Concat_int_int; kernel_rfl) (by
  intro t
  exact ret_mk [.win 0 0 t.1] (by kernel_rfl) (by kernel_rfl) (by kernel_rfl) (by kernel_rfl)) h

def F_slices_Concat_int_int : Fun := fun avs H =>
  match avs, H with
  | [.dat (.list (.list (.int .i64))) x836], [] => ⟨_, slices_Concat_int_int x836, fun (t : Nat × (List Int)) => (.win 0 0 t.1, [some (sI t.2)]), [], none⟩
  | _, _ => Ans.no

theorem slices_Concat_int_int_sound : Sound Try.prog 43 F_slices_Concat_int_int := by
  refine fn_sound' (C := slices_Concat_int_int_ctx) (c := bodyOf Try.f43) (cok_of tys_ok (allc slices_Grow_int_int_sound alln) (allc Try.call48 alln) (by kernel_rfl)) Try.func43 (by kernel_rfl) LL slices_Concat_int_int_an ?_
  intro avs H r H' h
  unfold F_slices_Concat_int_int at h
  split at h
  · refine Awp.cast ?_ ?_ ?_ (slices_Concat_int_int_e _ h) <;> kernel_rfl
  · simp [Ans.no, Ans.run] at h


/-! loop.example/headtrees/impl.merged -/

def impl_merged_an : Ann := (.seq (.leaf [0, 1]) (.seq (.leaf [0, 1, 6]) (.seq (.leaf [0, 1, 6, 7]) (.seq (.block (.loop (.seq (.seq (.leaf [0, 1, 6, 7, 21]) (.cond (.leaf [0, 1, 6, 7]) (.leaf [0, 1, 6, 7]))) (.block (.seq (.seq (.draw [] [0, 1, 2, 3, 4, 5, 6] [] [0, 1, 6, 7, 28]) (.cond (.seq (.leaf [0, 1, 6, 7]) (.seq (.leaf [0, 1, 6, 7]) (.leaf [0, 1, 6, 7]))) (.leaf [0, 1, 6, 7]))) (.seq (.leaf [0, 1, 6, 7]) (.seq (.leaf [0, 1, 6, 7]) (.leaf [0, 1, 6, 7])))))))) (.seq (.leafF [⟨3, 49, false, none, none⟩] [4, 5]) (.leaf [4, 5]))))))

noncomputable def impl_merged_ctx : Ctx := ⟨tlook tys, olook [(43, F_slices_Concat_int_int)], ioF, 0, false, []⟩

theorem impl_merged_n1_l (x673 : List Int) (x674 : List Int) : Link impl_merged_ctx LL (Code.seq (cq [0] (bodyOf Try.f37)) (Code.seq (cq [0,1] (bodyOf Try.f37)) (cq [0,1,1] (bodyOf Try.f37)))) (Ann.seq (aq [0] impl_merged_an) (Ann.seq (aq [0,1] impl_merged_an) (aq [0,1,1] impl_merged_an))) ⟨mkE 55 0 [(0, dL x673), (1, dL x674)], []⟩ (impl_merged_n1 x673 x674) (fun (t : (List Int)) => (Exit.normal, ⟨mkE 55 0 [(0, dL x673), (1, dL x674), (6, .slc 0), (7, dI 0)], [some (sI t)]⟩)) := by
  refine Link.of fun K h => ?_
  simp only [impl_merged_n1, wpO_bind, wpO_cond, wpO_map, wpO_some] at h
  exact Awp.of (by kernel_rfl) h

theorem impl_merged_n2_l (x798 : List Int) (x799 : List Int) (x800 : Int) (x801 : List Int) : Link impl_merged_ctx LL (cq [0,0,0,1,1,1] (bodyOf Try.f37)) (aq [0,0,0,1,1,1] impl_merged_an) ⟨mkE 55 0 [(0, dL x798), (1, dL x799), (6, .slc 0), (7, dI x800)], [some (sI x801)]⟩ (impl_merged_n2 x798 x799 x800 x801) (Sum.elim (fun (t : (List Int) × (List Int) × Int × (List Int)) => (Exit.normal, ⟨mkE 55 0 [(0, dL t.1), (1, dL t.2.1), (6, .slc 0), (7, dI t.2.2.1)], [some (sI t.2.2.2)]⟩)) (fun (t : (List Int) × (List Int) × Int × (List Int)) => ((Exit.exit 0), ⟨mkE 55 0 [(0, dL t.1), (1, dL t.2.1), (6, .slc 0), (7, dI t.2.2.1)], [some (sI t.2.2.2)]⟩))) := by
  refine Link.of fun K h => ?_
  simp only [impl_merged_n2, wpO_bind, wpO_cond, wpO_map, wpO_some] at h
  exact Awp.of (by kernel_rfl) h

def impl_merged_n3_l (x673 : List Int) (x674 : List Int) (x764 : List Int) := (link_loop (mk := fun (s : (List Int) × (List Int) × Int × (List Int)) => ⟨mkE 55 0 [(0, dL s.1), (1, dL s.2.1), (6, .slc 0), (7, dI s.2.2.1)], [some (sI s.2.2.2)]⟩) (fin := (fun (t : (List Int) × (List Int) × Int × (List Int)) => ((Exit.exit 0), ⟨mkE 55 0 [(0, dL t.1), (1, dL t.2.1), (6, .slc 0), (7, dI t.2.2.1)], [some (sI t.2.2.2)]⟩))) (by
  rintro t f K h
  · exact h) (fun s => link_map (impl_merged_n2_l s.1 s.2.1 s.2.2.1 s.2.2.2) (Sum.elim (fun (t : (List Int) × (List Int) × Int × (List Int)) => Sum.inl (t.1, t.2.1, t.2.2.1, t.2.2.2)) (fun (t : (List Int) × (List Int) × Int × (List Int)) => Sum.inr t)) (by
  rintro (t | t)
  · kernel_rfl
  · kernel_rfl)) (x673, x674, 0, x764))

def impl_merged_n4_l (x673 : List Int) (x674 : List Int) (x764 : List Int) := (link_block (fin2 := (fun (t : (List Int) × (List Int) × Int × (List Int)) => (Exit.normal, ⟨mkE 55 0 [(0, dL t.1), (1, dL t.2.1), (6, .slc 0), (7, dI t.2.2.1)], [some (sI t.2.2.2)]⟩))) (id := 0) (impl_merged_n3_l x673 x674 x764) (fun (t : (List Int) × (List Int) × Int × (List Int)) => (t.1, t.2.1, t.2.2.1, t.2.2.2)) (by
  rintro t K h
  · exact Eq.mp (by kernel_rfl) h))

theorem impl_merged_n5_l (x798 : List Int) (x799 : List Int) (x800 : Int) (x801 : List Int) : Link impl_merged_ctx LL (cq [1,1,1,1] (bodyOf Try.f37)) (aq [1,1,1,1] impl_merged_an) ⟨mkE 55 0 [(0, dL x798), (1, dL x799), (6, .slc 0), (7, dI x800)], [some (sI x801)]⟩ (impl_merged_n5 x798 x799 x800 x801) (fun (t : Nat × Int × (List Int)) => (Exit.ret, ⟨mkE 55 0 [(4, .win 0 0 t.1), (5, dI t.2.1)], [some (sI t.2.2)]⟩)) := by
  refine Link.of fun K h => ?_
  simp only [impl_merged_n5, wpO_bind, wpO_cond, wpO_map, wpO_some] at h
  exact Awp.of (by kernel_rfl) h

def impl_merged_n6_l (x673 : List Int) (x674 : List Int) (x764 : List Int) := (link_seq (impl_merged_n4_l x673 x674 x764) (fun (t : (List Int) × (List Int) × Int × (List Int)) => (impl_merged_n5_l t.1 t.2.1 t.2.2.1 t.2.2.2)))

def impl_merged_n7_l (x673 : List Int) (x674 : List Int) := (link_group (c := (cq [0,1,1] (bodyOf Try.f37))) (a := (aq [0,1,1] impl_merged_an)) [(cq [0] (bodyOf Try.f37)), (cq [0,1] (bodyOf Try.f37))] [(aq [0] impl_merged_an), (aq [0,1] impl_merged_an)] rfl (link_seq (impl_merged_n1_l x673 x674) (fun (t : (List Int)) => (impl_merged_n6_l x673 x674 t))))

theorem impl_merged_e (x673 : List Int) (x674 : List Int) {r : AV} {H' : Heap} (h : (Ans.mk _ (impl_merged x673 x674) (fun (t : Nat × Int × (List Int)) => (.tup [.win 0 0 t.1, dI t.2.1], [some (sI t.2.2)])) [] none).run = some (r, H')) : Awp impl_merged_ctx LL (bodyOf Try.f37) impl_merged_an ⟨mkE 55 0 [(0, dL x673), (1, dL x674)], []⟩ (Ret (tlook tys) Try.f37.results.toList r H') :=
  ret_of' (Link.cast (by kernel_rfl) (by kernel_rfl) (impl_merged_n7_l x673 x674)) (by unfold impl_merged; kernel_rfl) (by
  intro t
  exact ret_mk [.win 0 0 t.1, dI t.2.1] (by kernel_rfl) (by kernel_rfl) (by kernel_rfl) (by kernel_rfl)) h

def F_impl_merged : Fun := fun avs H =>
  match avs, H with
  | [.dat (.list (.int .i64)) x673, .dat (.list (.int .i64)) x674], [] => ⟨_, impl_merged x673 x674, fun (t : Nat × Int × (List Int)) => (.tup [.win 0 0 t.1, dI t.2.1], [some (sI t.2.2)]), [], none⟩
  | _, _ => Ans.no

theorem impl_merged_sound : Sound Try.prog 37 F_impl_merged := by
  refine fn_sound' (C := impl_merged_ctx) (c := bodyOf Try.f37) (cok_of tys_ok (allc slices_Concat_int_int_sound alln) (allc Try.call43 alln) (by kernel_rfl)) Try.func37 (by kernel_rfl) LL impl_merged_an ?_
  intro avs H r H' h
  unfold F_impl_merged at h
  split at h
  · refine Awp.cast ?_ ?_ ?_ (impl_merged_e _ _ h) <;> kernel_rfl
  · simp [Ans.no, Ans.run] at h


/-! loop.example/headtrees/impl.sorted -/

def impl_sorted_an : Ann := (.seq (.leaf [0]) (.seq (.seq (.leaf [0, 13]) (.cond (.seq (.leaf [2, 3]) (.leaf [2, 3])) (.leaf [0]))) (.seq (.leaf [0, 4]) (.seq (.leaf [0, 4, 5, 6]) (.seq (.leaf [5, 6, 7, 8]) (.seq (.leaf [6, 8, 9, 10]) (.seq (.leaf [2, 3]) (.leafF [⟨0, 2, false, none, none⟩] [2, 3]))))))))

def F_impl_sorted_fuel (n : Nat) : Fun := fun avs H =>
  match avs, H with
  | [.dat (.list (.int .i64)) x621], [] => ⟨_, impl_sorted_fuel n x621, fun (t : (List Int) × Int) => (.tup [dL t.1, dI t.2], []), [], none⟩
  | _, _ => Ans.no

noncomputable def impl_sorted_ctx (n : Nat) : Ctx := ⟨tlook tys, olook [(28, F_impl_sorted_fuel n), (37, F_impl_merged)], ioF, 0, false, []⟩

theorem impl_sorted_n1_l (n : Nat) (x621 : List Int) : Link (impl_sorted_ctx n) LL (bodyOf Try.f28) impl_sorted_an ⟨mkE 44 0 [(0, dL x621)], []⟩ (impl_sorted_n1 (impl_sorted_fuel n) x621) (fun (t : (List Int) × Int) => (Exit.ret, ⟨mkE 44 0 [(2, dL t.1), (3, dI t.2)], []⟩)) := by
  refine Link.of fun K h => ?_
  simp only [impl_sorted_n1, wpO_bind, wpO_cond, wpO_map, wpO_some] at h
  exact Awp.of (by kernel_rfl) h

theorem impl_sorted_e (n : Nat) (x621 : List Int) {r : AV} {H' : Heap} (h : (Ans.mk _ (impl_sorted_fuel (n + 1) x621) (fun (t : (List Int) × Int) => (.tup [dL t.1, dI t.2], [])) [] none).run = some (r, H')) : Awp (impl_sorted_ctx n) LL (bodyOf Try.f28) impl_sorted_an ⟨mkE 44 0 [(0, dL x621)], []⟩ (Ret (tlook tys) Try.f28.results.toList r H') :=
  ret_of' (impl_sorted_n1_l n x621) (by (show _ = _); kernel_rfl) (by
  intro t
  exact ret_mk [dL t.1, dI t.2] (by kernel_rfl) (by kernel_rfl) (by kernel_rfl) (by kernel_rfl)) h

theorem impl_sorted_step (n : Nat) (h28 : Sound Try.prog 28 (F_impl_sorted_fuel n)) : Sound Try.prog 28 (F_impl_sorted_fuel (n + 1)) := by
  refine fn_sound' (C := impl_sorted_ctx n) (c := bodyOf Try.f28) (cok_of tys_ok (allc h28 (allc impl_merged_sound alln)) (allc Try.call28 (allc Try.call37 alln)) (by kernel_rfl)) Try.func28 (by kernel_rfl) LL impl_sorted_an ?_
  intro avs H r H' h
  unfold F_impl_sorted_fuel at h
  split at h
  · refine Awp.cast ?_ ?_ ?_ (impl_sorted_e n _ h) <;> kernel_rfl
  · simp [Ans.no, Ans.run] at h

theorem impl_sorted_null : Sound Try.prog 28 (F_impl_sorted_fuel 0) := by
  intro avs H r H' h
  unfold F_impl_sorted_fuel at h
  split at h
  · simp [impl_sorted_fuel, impl_sorted_knot, Ans.run] at h
  · simp [Ans.no, Ans.run] at h

theorem impl_sorted_knot_all : ∀ n, Sound Try.prog 28 (F_impl_sorted_fuel n)
  | 0 => impl_sorted_null
  | n + 1 => by
    have h28 := impl_sorted_knot_all n
    exact impl_sorted_step n h28

def F_impl_sorted : Fun := fun avs H =>
  match avs, H with
  | [.dat (.list (.int .i64)) x621], [] => ⟨_, impl_sorted x621, fun (t : (List Int) × Int) => (.tup [dL t.1, dI t.2], []), [], none⟩
  | _, _ => Ans.no

theorem impl_sorted_sound : Sound Try.prog 28 F_impl_sorted := by
  have e : F_impl_sorted = F_impl_sorted_fuel RR := by
    funext avs H
    unfold F_impl_sorted F_impl_sorted_fuel
    split <;> first | rfl | (simp only [impl_sorted])
  rw [e]
  exact (impl_sorted_knot_all RR)


/-! loop.example/headtrees/impl.CountTurned -/

def impl_CountTurned_an : Ann := (.seq (.leaf [0]) (.seq (.seq (.leaf [0, 9]) (.cond (.seq (.leaf [2]) (.leaf [2])) (.leaf [0]))) (.seq (.leaf [4]) (.seq (.leaf [2]) (.leaf [2])))))

noncomputable def impl_CountTurned_ctx : Ctx := ⟨tlook tys, olook [(17, F_impl_OrderOk), (28, F_impl_sorted)], ioF, 0, false, []⟩

theorem impl_CountTurned_n1_l (x552 : List Int) : Link impl_CountTurned_ctx LL (bodyOf Try.f9) impl_CountTurned_an ⟨mkE 16 0 [(0, dL x552)], []⟩ (impl_CountTurned_n1 x552) (fun (t : Int) => (Exit.ret, ⟨mkE 16 0 [(2, dI t)], []⟩)) := by
  refine Link.of fun K h => ?_
  simp only [impl_CountTurned_n1, wpO_bind, wpO_cond, wpO_map, wpO_some] at h
  exact Awp.of (by kernel_rfl) h

theorem impl_CountTurned_e (x552 : List Int) {r : AV} {H' : Heap} (h : (Ans.mk _ (impl_CountTurned x552) (fun (t : Int) => (dI t, [])) [] none).run = some (r, H')) : Awp impl_CountTurned_ctx LL (bodyOf Try.f9) impl_CountTurned_an ⟨mkE 16 0 [(0, dL x552)], []⟩ (Ret (tlook tys) Try.f9.results.toList r H') :=
  ret_of' (impl_CountTurned_n1_l x552) (by unfold impl_CountTurned; kernel_rfl) (by
  intro t
  exact ret_mk [dI t] (by kernel_rfl) (by kernel_rfl) (by kernel_rfl) (by kernel_rfl)) h

def F_impl_CountTurned : Fun := fun avs H =>
  match avs, H with
  | [.dat (.list (.int .i64)) x552], [] => ⟨_, impl_CountTurned x552, fun (t : Int) => (dI t, []), [], none⟩
  | _, _ => Ans.no

theorem impl_CountTurned_sound : Sound Try.prog 9 F_impl_CountTurned := by
  refine fn_sound' (C := impl_CountTurned_ctx) (c := bodyOf Try.f9) (cok_of tys_ok (allc impl_OrderOk_sound (allc impl_sorted_sound alln)) (allc Try.call17 (allc Try.call28 alln)) (by kernel_rfl)) Try.func9 (by kernel_rfl) LL impl_CountTurned_an ?_
  intro avs H r H' h
  unfold F_impl_CountTurned at h
  split at h
  · refine Awp.cast ?_ ?_ ?_ (impl_CountTurned_e _ h) <;> kernel_rfl
  · simp [Ans.no, Ans.run] at h


/-! loop.example/headtrees/spec.l1In -/

def spec_l1In_an : Ann := (.seq (.leaf [0, 1, 2]) (.seq (.leaf [6]) (.leaf [6])))

noncomputable def spec_l1In_ctx : Ctx := ⟨tlook tys, olook [], ioF, 0, false, []⟩

theorem spec_l1In_n1_l (x1281 : Int) (x1282 : Int) (x1283 : Int) : Link spec_l1In_ctx LL (bodyOf Try.f32) spec_l1In_an ⟨mkE 15 0 [(0, dI x1281), (1, dI x1282), (2, dI x1283)], []⟩ (spec_l1In_n1 x1281 x1282 x1283) (fun (t : Bool) => (Exit.ret, ⟨mkE 15 0 [(6, dB t)], []⟩)) := by
  refine Link.of fun K h => ?_
  simp only [spec_l1In_n1, wpO_bind, wpO_cond, wpO_map, wpO_some] at h
  exact Awp.of (by kernel_rfl) h

theorem spec_l1In_e (x1281 : Int) (x1282 : Int) (x1283 : Int) {r : AV} {H' : Heap} (h : (Ans.mk _ (spec_l1In x1281 x1282 x1283) (fun (t : Bool) => (dB t, [])) [] none).run = some (r, H')) : Awp spec_l1In_ctx LL (bodyOf Try.f32) spec_l1In_an ⟨mkE 15 0 [(0, dI x1281), (1, dI x1282), (2, dI x1283)], []⟩ (Ret (tlook tys) Try.f32.results.toList r H') :=
  ret_of' (spec_l1In_n1_l x1281 x1282 x1283) (by unfold spec_l1In; kernel_rfl) (by
  intro t
  exact ret_mk [dB t] (by kernel_rfl) (by kernel_rfl) (by kernel_rfl) (by kernel_rfl)) h

def F_spec_l1In : Fun := fun avs H =>
  match avs, H with
  | [.dat (.int .i64) x1281, .dat (.int .i64) x1282, .dat (.int .i64) x1283], [] => ⟨_, spec_l1In x1281 x1282 x1283, fun (t : Bool) => (dB t, []), [], none⟩
  | _, _ => Ans.no

theorem spec_l1In_sound : Sound Try.prog 32 F_spec_l1In := by
  refine fn_sound' (C := spec_l1In_ctx) (c := bodyOf Try.f32) (cok_of tys_ok (alln) (alln) (by kernel_rfl)) Try.func32 (by kernel_rfl) LL spec_l1In_an ?_
  intro avs H r H' h
  unfold F_spec_l1In at h
  split at h
  · refine Awp.cast ?_ ?_ ?_ (spec_l1In_e _ _ _ h) <;> kernel_rfl
  · simp [Ans.no, Ans.run] at h


/-! loop.example/headtrees/spec.OrderOk -/

def spec_OrderOk_an : Ann := (.seq (.leaf [0, 1]) (.seq (.seq (.leaf [0, 1, 5]) (.block (.loop (.seq (.seq (.leaf [0, 1, 5, 10]) (.cond (.leaf [0, 1, 5]) (.leaf [0, 1]))) (.seq (.block (.seq (.seq (.leaf [0, 1, 5, 19]) (.cond (.seq (.leaf [4]) (.leaf [4])) (.leaf [0, 1, 5]))) (.seq (.leaf [0, 1, 5, 6]) (.block (.loop (.seq (.seq (.leaf [0, 1, 5, 6, 22]) (.cond (.leaf [0, 1, 5, 6]) (.leaf [0, 1, 5]))) (.seq (.block (.seq (.draw [] [0, 1, 2, 3, 4, 5, 6, 7, 8] [] [0, 1, 5, 6, 33]) (.cond (.seq (.leaf [4]) (.leaf [4])) (.leaf [0, 1, 5, 6])))) (.leaf [0, 1, 5, 6])))))))) (.leaf [0, 1, 5])))))) (.seq (.leaf [4]) (.leaf [4]))))

noncomputable def spec_OrderOk_ctx : Ctx := ⟨tlook tys, olook [(32, F_spec_l1In)], ioF, 0, false, []⟩

theorem spec_OrderOk_n1_l (x1276 : List Int) (x1277 : Int) : Link spec_OrderOk_ctx LL (cq [0] (bodyOf Try.f29)) (aq [0] spec_OrderOk_an) ⟨mkE 42 0 [(0, dL x1276), (1, dI x1277)], []⟩ (spec_OrderOk_n1) (fun (t : Unit) => (Exit.normal, ⟨mkE 42 0 [(0, dL x1276), (1, dI x1277)], []⟩)) := by
  refine Link.of fun K h => ?_
  simp only [spec_OrderOk_n1, wpO_bind, wpO_cond, wpO_map, wpO_some] at h
  exact Awp.of (by kernel_rfl) h

theorem spec_OrderOk_n2_l (x1276 : List Int) (x1277 : Int) : Link spec_OrderOk_ctx LL (cq [0,0,1] (bodyOf Try.f29)) (aq [0,0,1] spec_OrderOk_an) ⟨mkE 42 0 [(0, dL x1276), (1, dI x1277)], []⟩ (spec_OrderOk_n2) (fun (t : Unit) => (Exit.normal, ⟨mkE 42 0 [(0, dL x1276), (1, dI x1277), (5, dI 0)], []⟩)) := by
  refine Link.of fun K h => ?_
  simp only [spec_OrderOk_n2, wpO_bind, wpO_cond, wpO_map, wpO_some] at h
  exact Awp.of (by kernel_rfl) h

theorem spec_OrderOk_n3_l (x1276 : List Int) (x1277 : Int) (x1316 : Int) : Link spec_OrderOk_ctx LL (cq [0,0,0,1,0,1] (bodyOf Try.f29)) (aq [0,0,0,1,0,1] spec_OrderOk_an) ⟨mkE 42 0 [(0, dL x1276), (1, dI x1277), (5, dI x1316)], []⟩ (spec_OrderOk_n3 x1276 x1316) (Sum.elim (fun (t : Unit) => (Exit.normal, ⟨mkE 42 0 [(0, dL x1276), (1, dI x1277), (5, dI x1316)], []⟩)) (fun (t : Unit) => ((Exit.exit 0), ⟨mkE 42 0 [(0, dL x1276), (1, dI x1277)], []⟩))) := by
  refine Link.of fun K h => ?_
  simp only [spec_OrderOk_n3, wpO_bind, wpO_cond, wpO_map, wpO_some] at h
  exact Awp.of (by kernel_rfl) h

theorem spec_OrderOk_n4_l (x1276 : List Int) (x1277 : Int) (x1316 : Int) : Link spec_OrderOk_ctx LL (Code.seq (cq [0,0,0,1,0,0,1,0,1] (bodyOf Try.f29)) (cq [0,1,0,0,1,0,0,1,0,1] (bodyOf Try.f29))) (Ann.seq (aq [0,0,0,1,0,0,1,0,1] spec_OrderOk_an) (aq [0,1,0,0,1,0,0,1,0,1] spec_OrderOk_an)) ⟨mkE 42 0 [(0, dL x1276), (1, dI x1277), (5, dI x1316)], []⟩ (spec_OrderOk_n4 x1276 x1277 x1316) (Sum.elim (fun (t : Unit) => (Exit.normal, ⟨mkE 42 0 [(0, dL x1276), (1, dI x1277), (5, dI x1316), (6, dI 0)], []⟩)) (fun (t : Bool) => (Exit.ret, ⟨mkE 42 0 [(4, dB t)], []⟩))) := by
  refine Link.of fun K h => ?_
  simp only [spec_OrderOk_n4, wpO_bind, wpO_cond, wpO_map, wpO_some] at h
  exact Awp.of (by kernel_rfl) h

theorem spec_OrderOk_n5_l (x1276 : List Int) (x1277 : Int) (x1316 : Int) (x1335 : Int) : Link spec_OrderOk_ctx LL (cq [0,0,1,1,0,0,1,0,0,1,0,1] (bodyOf Try.f29)) (aq [0,0,1,1,0,0,1,0,0,1,0,1] spec_OrderOk_an) ⟨mkE 42 0 [(0, dL x1276), (1, dI x1277), (5, dI x1316), (6, dI x1335)], []⟩ (spec_OrderOk_n5 x1276 x1316 x1335) (Sum.elim (fun (t : Int) => (Exit.normal, ⟨mkE 42 0 [(0, dL x1276), (1, dI x1277), (5, dI x1316), (6, dI t)], []⟩)) (Sum.elim (fun (t : Bool) => (Exit.ret, ⟨mkE 42 0 [(4, dB t)], []⟩)) (fun (t : Unit) => ((Exit.exit 2), ⟨mkE 42 0 [(0, dL x1276), (1, dI x1277), (5, dI x1316)], []⟩)))) := by
  refine Link.of fun K h => ?_
  simp only [spec_OrderOk_n5, wpO_bind, wpO_cond, wpO_map, wpO_some] at h
  exact Awp.of (by kernel_rfl) h

def spec_OrderOk_n6_l (x1276 : List Int) (x1277 : Int) (x1316 : Int) := (link_loop (mk := fun (s : Int) => ⟨mkE 42 0 [(0, dL x1276), (1, dI x1277), (5, dI x1316), (6, dI s)], []⟩) (fin := (Sum.elim (fun (t : Bool) => (Exit.ret, ⟨mkE 42 0 [(4, dB t)], []⟩)) (fun (t : Unit) => ((Exit.exit 2), ⟨mkE 42 0 [(0, dL x1276), (1, dI x1277), (5, dI x1316)], []⟩)))) (by
  rintro (t | t) f K h
  · exact h
  · exact h) (fun s => link_map (spec_OrderOk_n5_l x1276 x1277 x1316 s) (Sum.elim (fun (t : Int) => Sum.inl t) (Sum.elim (fun (t : Bool) => Sum.inr (Sum.inl t)) (fun (t : Unit) => Sum.inr (Sum.inr t)))) (by
  rintro (t | t | t)
  · kernel_rfl
  · kernel_rfl
  · kernel_rfl)) 0)

def spec_OrderOk_n7_l (x1276 : List Int) (x1277 : Int) (x1316 : Int) := (link_block (fin2 := (Sum.elim (fun (t : Unit) => (Exit.normal, ⟨mkE 42 0 [(0, dL x1276), (1, dI x1277), (5, dI x1316)], []⟩)) (fun (t : Bool) => (Exit.ret, ⟨mkE 42 0 [(4, dB t)], []⟩)))) (id := 2) (spec_OrderOk_n6_l x1276 x1277 x1316) (Sum.elim (fun (t : Bool) => (Sum.inr t)) (fun (t : Unit) => (Sum.inl ()))) (by
  rintro (t | t) K h
  · exact Eq.mp (by kernel_rfl) h
  · exact Eq.mp (by kernel_rfl) h))

def spec_OrderOk_n8_l (x1276 : List Int) (x1277 : Int) (x1316 : Int) := (link_group (c := (cq [0,1,0,0,1,0,0,1,0,1] (bodyOf Try.f29))) (a := (aq [0,1,0,0,1,0,0,1,0,1] spec_OrderOk_an)) [(cq [0,0,0,1,0,0,1,0,1] (bodyOf Try.f29))] [(aq [0,0,0,1,0,0,1,0,1] spec_OrderOk_an)] rfl (link_seq2 (spec_OrderOk_n4_l x1276 x1277 x1316) (fun (t : Unit) => (spec_OrderOk_n7_l x1276 x1277 x1316)) (fun (t : Bool) => (Sum.inr t)) (by
  rintro t
  · kernel_rfl) (by
  rintro t f K h
  · exact h)))

def spec_OrderOk_n9_l (x1276 : List Int) (x1277 : Int) (x1316 : Int) := (link_block (fin2 := (Sum.elim (fun (t : Unit) => (Exit.normal, ⟨mkE 42 0 [(0, dL x1276), (1, dI x1277), (5, dI x1316)], []⟩)) (fun (t : Bool) => (Exit.ret, ⟨mkE 42 0 [(4, dB t)], []⟩)))) (id := 1) (spec_OrderOk_n8_l x1276 x1277 x1316) (Sum.elim (fun (t : Unit) => (Sum.inl ())) (fun (t : Bool) => (Sum.inr t))) (by
  rintro (t | t) K h
  · exact Eq.mp (by kernel_rfl) h
  · exact Eq.mp (by kernel_rfl) h))

theorem spec_OrderOk_n10_l (x1276 : List Int) (x1277 : Int) (x1316 : Int) : Link spec_OrderOk_ctx LL (cq [1,1,0,0,1,0,1] (bodyOf Try.f29)) (aq [1,1,0,0,1,0,1] spec_OrderOk_an) ⟨mkE 42 0 [(0, dL x1276), (1, dI x1277), (5, dI x1316)], []⟩ (spec_OrderOk_n10 x1316) (fun (t : Int) => (Exit.normal, ⟨mkE 42 0 [(0, dL x1276), (1, dI x1277), (5, dI t)], []⟩)) := by
  refine Link.of fun K h => ?_
  simp only [spec_OrderOk_n10, wpO_bind, wpO_cond, wpO_map, wpO_some] at h
  exact Awp.of (by kernel_rfl) h

def spec_OrderOk_n11_l (x1276 : List Int) (x1277 : Int) (x1316 : Int) := (link_seq2 (spec_OrderOk_n9_l x1276 x1277 x1316) (fun (t : Unit) => (link_map (fin2 := (Sum.elim (fun (t : Int) => (Exit.normal, ⟨mkE 42 0 [(0, dL x1276), (1, dI x1277), (5, dI t)], []⟩)) (fun (t : Bool) => (Exit.ret, ⟨mkE 42 0 [(4, dB t)], []⟩)))) (spec_OrderOk_n10_l x1276 x1277 x1316) (fun (t : Int) => (Sum.inl t)) (by
  rintro t
  · kernel_rfl))) (fun (t : Bool) => (Sum.inr t)) (by
  rintro t
  · kernel_rfl) (by
  rintro t f K h
  · exact h))

def spec_OrderOk_n12_l (x1276 : List Int) (x1277 : Int) (x1316 : Int) := (link_seq2 (spec_OrderOk_n3_l x1276 x1277 x1316) (fun (t : Unit) => (link_map (fin2 := (Sum.elim (fun (t : Int) => (Exit.normal, ⟨mkE 42 0 [(0, dL x1276), (1, dI x1277), (5, dI t)], []⟩)) (Sum.elim (fun (t : Bool) => (Exit.ret, ⟨mkE 42 0 [(4, dB t)], []⟩)) (fun (t : Unit) => ((Exit.exit 0), ⟨mkE 42 0 [(0, dL x1276), (1, dI x1277)], []⟩))))) (spec_OrderOk_n11_l x1276 x1277 x1316) (Sum.elim (fun (t : Int) => (Sum.inl t)) (fun (t : Bool) => (Sum.inr (Sum.inl t)))) (by
  rintro (t | t)
  · kernel_rfl
  · kernel_rfl))) (fun (t : Unit) => (Sum.inr (Sum.inr t))) (by
  rintro t
  · kernel_rfl) (by
  rintro t f K h
  · exact h))

def spec_OrderOk_n13_l (x1276 : List Int) (x1277 : Int) := (link_loop (mk := fun (s : Int) => ⟨mkE 42 0 [(0, dL x1276), (1, dI x1277), (5, dI s)], []⟩) (fin := (Sum.elim (fun (t : Bool) => (Exit.ret, ⟨mkE 42 0 [(4, dB t)], []⟩)) (fun (t : Unit) => ((Exit.exit 0), ⟨mkE 42 0 [(0, dL x1276), (1, dI x1277)], []⟩)))) (by
  rintro (t | t) f K h
  · exact h
  · exact h) (fun s => link_map (spec_OrderOk_n12_l x1276 x1277 s) (Sum.elim (fun (t : Int) => Sum.inl t) (Sum.elim (fun (t : Bool) => Sum.inr (Sum.inl t)) (fun (t : Unit) => Sum.inr (Sum.inr t)))) (by
  rintro (t | t | t)
  · kernel_rfl
  · kernel_rfl
  · kernel_rfl)) 0)

def spec_OrderOk_n14_l (x1276 : List Int) (x1277 : Int) := (link_block (fin2 := (Sum.elim (fun (t : Unit) => (Exit.normal, ⟨mkE 42 0 [(0, dL x1276), (1, dI x1277)], []⟩)) (fun (t : Bool) => (Exit.ret, ⟨mkE 42 0 [(4, dB t)], []⟩)))) (id := 0) (spec_OrderOk_n13_l x1276 x1277) (Sum.elim (fun (t : Bool) => (Sum.inr t)) (fun (t : Unit) => (Sum.inl ()))) (by
  rintro (t | t) K h
  · exact Eq.mp (by kernel_rfl) h
  · exact Eq.mp (by kernel_rfl) h))

def spec_OrderOk_n15_l (x1276 : List Int) (x1277 : Int) := (link_seq (spec_OrderOk_n2_l x1276 x1277) (fun (t : Unit) => (spec_OrderOk_n14_l x1276 x1277)))

theorem spec_OrderOk_n16_l (x1276 : List Int) (x1277 : Int) : Link spec_OrderOk_ctx LL (cq [1,1] (bodyOf Try.f29)) (aq [1,1] spec_OrderOk_an) ⟨mkE 42 0 [(0, dL x1276), (1, dI x1277)], []⟩ (spec_OrderOk_n16 x1276 x1277) (fun (t : Bool) => (Exit.ret, ⟨mkE 42 0 [(4, dB t)], []⟩)) := by
  refine Link.of fun K h => ?_
  simp only [spec_OrderOk_n16, wpO_bind, wpO_cond, wpO_map, wpO_some] at h
  exact Awp.of (by kernel_rfl) h

def spec_OrderOk_n17_l (x1276 : List Int) (x1277 : Int) := (link_seq2 (spec_OrderOk_n15_l x1276 x1277) (fun (t : Unit) => (spec_OrderOk_n16_l x1276 x1277)) (fun (t : Bool) => t) (by
  rintro t
  · kernel_rfl) (by
  rintro t f K h
  · exact h))

def spec_OrderOk_n18_l (x1276 : List Int) (x1277 : Int) := (link_seq (spec_OrderOk_n1_l x1276 x1277) (fun (t : Unit) => (spec_OrderOk_n17_l x1276 x1277)))

theorem spec_OrderOk_e (x1276 : List Int) (x1277 : Int) {r : AV} {H' : Heap} (h : (Ans.mk _ (spec_OrderOk x1276 x1277) (fun (t : Bool) => (dB t, [])) [] none).run = some (r, H')) : Awp spec_OrderOk_ctx LL (bodyOf Try.f29) spec_OrderOk_an ⟨mkE 42 0 [(0, dL x1276), (1, dI x1277)], []⟩ (Ret (tlook tys) Try.f29.results.toList r H') :=
  ret_of' (Link.cast (by kernel_rfl) (by kernel_rfl) (spec_OrderOk_n18_l x1276 x1277)) (by unfold spec_OrderOk; kernel_rfl) (by
  intro t
  exact ret_mk [dB t] (by kernel_rfl) (by kernel_rfl) (by kernel_rfl) (by kernel_rfl)) h

def F_spec_OrderOk : Fun := fun avs H =>
  match avs, H with
  | [.dat (.list (.int .i64)) x1276, .dat (.int .i64) x1277], [] => ⟨_, spec_OrderOk x1276 x1277, fun (t : Bool) => (dB t, []), [], none⟩
  | _, _ => Ans.no

theorem spec_OrderOk_sound : Sound Try.prog 29 F_spec_OrderOk := by
  refine fn_sound' (C := spec_OrderOk_ctx) (c := bodyOf Try.f29) (cok_of tys_ok (allc spec_l1In_sound alln) (allc Try.call32 alln) (by kernel_rfl)) Try.func29 (by kernel_rfl) LL spec_OrderOk_an ?_
  intro avs H r H' h
  unfold F_spec_OrderOk at h
  split at h
  · refine Awp.cast ?_ ?_ ?_ (spec_OrderOk_e _ _ h) <;> kernel_rfl
  · simp [Ans.no, Ans.run] at h


/-! loop.example/headtrees/spec.CountTurned -/

def spec_CountTurned_an : Ann := (.seq (.leaf [0]) (.seq (.seq (.leaf [0, 10]) (.cond (.seq (.leaf [2]) (.leaf [2])) (.leaf [0]))) (.seq (.leaf [0, 3]) (.seq (.seq (.leaf [0, 3, 4]) (.block (.loop (.seq (.seq (.leaf [0, 3, 4, 14]) (.cond (.leaf [0, 3, 4]) (.leaf [3]))) (.seq (.block (.seq (.leaf [0, 3, 4, 5]) (.block (.loop (.seq (.seq (.leaf [0, 3, 4, 5, 19]) (.cond (.leaf [0, 3, 4, 5]) (.leaf [0, 3, 4]))) (.seq (.block (.seq (.draw [] [0, 1, 2, 3, 4, 5, 6, 7, 8] [] [0, 3, 4, 5, 30]) (.cond (.leaf [0, 3, 4, 5]) (.leaf [0, 3, 4, 5])))) (.leaf [0, 3, 4, 5]))))))) (.leaf [0, 3, 4])))))) (.seq (.leaf [2]) (.leaf [2]))))))

noncomputable def spec_CountTurned_ctx : Ctx := ⟨tlook tys, olook [(29, F_spec_OrderOk)], ioF, 0, false, []⟩

theorem spec_CountTurned_n1_l (x1274 : List Int) : Link spec_CountTurned_ctx LL (Code.seq (cq [0] (bodyOf Try.f10)) (Code.seq (cq [0,1] (bodyOf Try.f10)) (cq [0,1,1] (bodyOf Try.f10)))) (Ann.seq (aq [0] spec_CountTurned_an) (Ann.seq (aq [0,1] spec_CountTurned_an) (aq [0,1,1] spec_CountTurned_an))) ⟨mkE 34 0 [(0, dL x1274)], []⟩ (spec_CountTurned_n1 x1274) (Sum.elim (fun (t : Unit) => (Exit.normal, ⟨mkE 34 0 [(0, dL x1274), (3, dI 0)], []⟩)) (fun (t : Int) => (Exit.ret, ⟨mkE 34 0 [(2, dI t)], []⟩))) := by
  refine Link.of fun K h => ?_
  simp only [spec_CountTurned_n1, wpO_bind, wpO_cond, wpO_map, wpO_some] at h
  exact Awp.of (by kernel_rfl) h

theorem spec_CountTurned_n2_l (x1274 : List Int) : Link spec_CountTurned_ctx LL (cq [0,0,1,1,1] (bodyOf Try.f10)) (aq [0,0,1,1,1] spec_CountTurned_an) ⟨mkE 34 0 [(0, dL x1274), (3, dI 0)], []⟩ (spec_CountTurned_n2) (fun (t : Unit) => (Exit.normal, ⟨mkE 34 0 [(0, dL x1274), (3, dI 0), (4, dI 0)], []⟩)) := by
  refine Link.of fun K h => ?_
  simp only [spec_CountTurned_n2, wpO_bind, wpO_cond, wpO_map, wpO_some] at h
  exact Awp.of (by kernel_rfl) h

theorem spec_CountTurned_n3_l (x1274 : List Int) (x1394 : Int) (x1395 : Int) : Link spec_CountTurned_ctx LL (cq [0,0,0,1,0,1,1,1] (bodyOf Try.f10)) (aq [0,0,0,1,0,1,1,1] spec_CountTurned_an) ⟨mkE 34 0 [(0, dL x1274), (3, dI x1394), (4, dI x1395)], []⟩ (spec_CountTurned_n3 x1274 x1394 x1395) (Sum.elim (fun (t : Unit) => (Exit.normal, ⟨mkE 34 0 [(0, dL x1274), (3, dI x1394), (4, dI x1395)], []⟩)) (fun (t : Int) => ((Exit.exit 0), ⟨mkE 34 0 [(3, dI t)], []⟩))) := by
  refine Link.of fun K h => ?_
  simp only [spec_CountTurned_n3, wpO_bind, wpO_cond, wpO_map, wpO_some] at h
  exact Awp.of (by kernel_rfl) h

theorem spec_CountTurned_n4_l (x1274 : List Int) (x1394 : Int) (x1395 : Int) : Link spec_CountTurned_ctx LL (cq [0,0,0,1,0,0,1,0,1,1,1] (bodyOf Try.f10)) (aq [0,0,0,1,0,0,1,0,1,1,1] spec_CountTurned_an) ⟨mkE 34 0 [(0, dL x1274), (3, dI x1394), (4, dI x1395)], []⟩ (spec_CountTurned_n4) (fun (t : Unit) => (Exit.normal, ⟨mkE 34 0 [(0, dL x1274), (3, dI x1394), (4, dI x1395), (5, dI 0)], []⟩)) := by
  refine Link.of fun K h => ?_
  simp only [spec_CountTurned_n4, wpO_bind, wpO_cond, wpO_map, wpO_some] at h
  exact Awp.of (by kernel_rfl) h

theorem spec_CountTurned_n5_l (x1274 : List Int) (x1413 : Int) (x1395 : Int) (x1414 : Int) : Link spec_CountTurned_ctx LL (cq [0,0,1,0,0,1,0,0,1,0,1,1,1] (bodyOf Try.f10)) (aq [0,0,1,0,0,1,0,0,1,0,1,1,1] spec_CountTurned_an) ⟨mkE 34 0 [(0, dL x1274), (3, dI x1413), (4, dI x1395), (5, dI x1414)], []⟩ (spec_CountTurned_n5 x1274 x1413 x1395 x1414) (Sum.elim (fun (t : Int × Int) => (Exit.normal, ⟨mkE 34 0 [(0, dL x1274), (3, dI t.1), (4, dI x1395), (5, dI t.2)], []⟩)) (fun (t : Int) => ((Exit.exit 2), ⟨mkE 34 0 [(0, dL x1274), (3, dI t), (4, dI x1395)], []⟩))) := by
  refine Link.of fun K h => ?_
  simp only [spec_CountTurned_n5, wpO_bind, wpO_cond, wpO_map, wpO_some] at h
  exact Awp.of (by kernel_rfl) h

def spec_CountTurned_n6_l (x1274 : List Int) (x1394 : Int) (x1395 : Int) := (link_loop (mk := fun (s : Int × Int) => ⟨mkE 34 0 [(0, dL x1274), (3, dI s.1), (4, dI x1395), (5, dI s.2)], []⟩) (fin := (fun (t : Int) => ((Exit.exit 2), ⟨mkE 34 0 [(0, dL x1274), (3, dI t), (4, dI x1395)], []⟩))) (by
  rintro t f K h
  · exact h) (fun s => link_map (spec_CountTurned_n5_l x1274 s.1 x1395 s.2) (Sum.elim (fun (t : Int × Int) => Sum.inl (t.1, t.2)) (fun (t : Int) => Sum.inr t)) (by
  rintro (t | t)
  · kernel_rfl
  · kernel_rfl)) (x1394, 0))

def spec_CountTurned_n7_l (x1274 : List Int) (x1394 : Int) (x1395 : Int) := (link_block (fin2 := (fun (t : Int) => (Exit.normal, ⟨mkE 34 0 [(0, dL x1274), (3, dI t), (4, dI x1395)], []⟩))) (id := 2) (spec_CountTurned_n6_l x1274 x1394 x1395) (fun (t : Int) => t) (by
  rintro t K h
  · exact Eq.mp (by kernel_rfl) h))

def spec_CountTurned_n8_l (x1274 : List Int) (x1394 : Int) (x1395 : Int) := (link_seq (spec_CountTurned_n4_l x1274 x1394 x1395) (fun (t : Unit) => (spec_CountTurned_n7_l x1274 x1394 x1395)))

def spec_CountTurned_n9_l (x1274 : List Int) (x1394 : Int) (x1395 : Int) := (link_block (fin2 := (fun (t : Int) => (Exit.normal, ⟨mkE 34 0 [(0, dL x1274), (3, dI t), (4, dI x1395)], []⟩))) (id := 1) (spec_CountTurned_n8_l x1274 x1394 x1395) (fun (t : Int) => t) (by
  rintro t K h
  · exact Eq.mp (by kernel_rfl) h))

theorem spec_CountTurned_n10_l (x1274 : List Int) (x1413 : Int) (x1395 : Int) : Link spec_CountTurned_ctx LL (cq [1,1,0,0,1,0,1,1,1] (bodyOf Try.f10)) (aq [1,1,0,0,1,0,1,1,1] spec_CountTurned_an) ⟨mkE 34 0 [(0, dL x1274), (3, dI x1413), (4, dI x1395)], []⟩ (spec_CountTurned_n10 x1395) (fun (t : Int) => (Exit.normal, ⟨mkE 34 0 [(0, dL x1274), (3, dI x1413), (4, dI t)], []⟩)) := by
  refine Link.of fun K h => ?_
  simp only [spec_CountTurned_n10, wpO_bind, wpO_cond, wpO_map, wpO_some] at h
  exact Awp.of (by kernel_rfl) h

def spec_CountTurned_n11_l (x1274 : List Int) (x1394 : Int) (x1395 : Int) := (link_seq (spec_CountTurned_n9_l x1274 x1394 x1395) (fun (t : Int) => (link_map (fin2 := (fun (t : Int × Int) => (Exit.normal, ⟨mkE 34 0 [(0, dL x1274), (3, dI t.1), (4, dI t.2)], []⟩))) (spec_CountTurned_n10_l x1274 t x1395) (fun (u : Int) => (t, u)) (by
  rintro t
  · kernel_rfl))))

def spec_CountTurned_n12_l (x1274 : List Int) (x1394 : Int) (x1395 : Int) := (link_seq2 (spec_CountTurned_n3_l x1274 x1394 x1395) (fun (t : Unit) => (link_map (fin2 := (Sum.elim (fun (t : Int × Int) => (Exit.normal, ⟨mkE 34 0 [(0, dL x1274), (3, dI t.1), (4, dI t.2)], []⟩)) (fun (t : Int) => ((Exit.exit 0), ⟨mkE 34 0 [(3, dI t)], []⟩)))) (spec_CountTurned_n11_l x1274 x1394 x1395) (fun (t : Int × Int) => (Sum.inl (t.1, t.2))) (by
  rintro t
  · kernel_rfl))) (fun (t : Int) => (Sum.inr t)) (by
  rintro t
  · kernel_rfl) (by
  rintro t f K h
  · exact h))

def spec_CountTurned_n13_l (x1274 : List Int) := (link_loop (mk := fun (s : Int × Int) => ⟨mkE 34 0 [(0, dL x1274), (3, dI s.1), (4, dI s.2)], []⟩) (fin := (fun (t : Int) => ((Exit.exit 0), ⟨mkE 34 0 [(3, dI t)], []⟩))) (by
  rintro t f K h
  · exact h) (fun s => link_map (spec_CountTurned_n12_l x1274 s.1 s.2) (Sum.elim (fun (t : Int × Int) => Sum.inl (t.1, t.2)) (fun (t : Int) => Sum.inr t)) (by
  rintro (t | t)
  · kernel_rfl
  · kernel_rfl)) (0, 0))

def spec_CountTurned_n14_l (x1274 : List Int) := (link_block (fin2 := (fun (t : Int) => (Exit.normal, ⟨mkE 34 0 [(3, dI t)], []⟩))) (id := 0) (spec_CountTurned_n13_l x1274) (fun (t : Int) => t) (by
  rintro t K h
  · exact Eq.mp (by kernel_rfl) h))

def spec_CountTurned_n15_l (x1274 : List Int) := (link_seq (spec_CountTurned_n2_l x1274) (fun (t : Unit) => (spec_CountTurned_n14_l x1274)))

theorem spec_CountTurned_n16_l (x1394 : Int) : Link spec_CountTurned_ctx LL (cq [1,1,1,1] (bodyOf Try.f10)) (aq [1,1,1,1] spec_CountTurned_an) ⟨mkE 34 0 [(3, dI x1394)], []⟩ (spec_CountTurned_n16 x1394) (fun (t : Int) => (Exit.ret, ⟨mkE 34 0 [(2, dI t)], []⟩)) := by
  refine Link.of fun K h => ?_
  simp only [spec_CountTurned_n16, wpO_bind, wpO_cond, wpO_map, wpO_some] at h
  exact Awp.of (by kernel_rfl) h

def spec_CountTurned_n17_l (x1274 : List Int) := (link_seq (spec_CountTurned_n15_l x1274) (fun (t : Int) => (spec_CountTurned_n16_l t)))

def spec_CountTurned_n18_l (x1274 : List Int) := (link_group (c := (cq [0,1,1] (bodyOf Try.f10))) (a := (aq [0,1,1] spec_CountTurned_an)) [(cq [0] (bodyOf Try.f10)), (cq [0,1] (bodyOf Try.f10))] [(aq [0] spec_CountTurned_an), (aq [0,1] spec_CountTurned_an)] rfl (link_seq2 (spec_CountTurned_n1_l x1274) (fun (t : Unit) => (spec_CountTurned_n17_l x1274)) (fun (t : Int) => t) (by
  rintro t
  · kernel_rfl) (by
  rintro t f K h
  · exact h)))

theorem spec_CountTurned_e (x1274 : List Int) {r : AV} {H' : Heap} (h : (Ans.mk _ (spec_CountTurned x1274) (fun (t : Int) => (dI t, [])) [] none).run = some (r, H')) : Awp spec_CountTurned_ctx LL (bodyOf Try.f10) spec_CountTurned_an ⟨mkE 34 0 [(0, dL x1274)], []⟩ (Ret (tlook tys) Try.f10.results.toList r H') :=
  ret_of' (Link.cast (by kernel_rfl) (by kernel_rfl) (spec_CountTurned_n18_l x1274)) (by unfold spec_CountTurned; kernel_rfl) (by
  intro t
  exact ret_mk [dI t] (by kernel_rfl) (by kernel_rfl) (by kernel_rfl) (by kernel_rfl)) h

def F_spec_CountTurned : Fun := fun avs H =>
  match avs, H with
  | [.dat (.list (.int .i64)) x1274], [] => ⟨_, spec_CountTurned x1274, fun (t : Int) => (dI t, []), [], none⟩
  | _, _ => Ans.no

theorem spec_CountTurned_sound : Sound Try.prog 10 F_spec_CountTurned := by
  refine fn_sound' (C := spec_CountTurned_ctx) (c := bodyOf Try.f10) (cok_of tys_ok (allc spec_OrderOk_sound alln) (allc Try.call29 alln) (by kernel_rfl)) Try.func10 (by kernel_rfl) LL spec_CountTurned_an ?_
  intro avs H r H' h
  unfold F_spec_CountTurned at h
  split at h
  · refine Awp.cast ?_ ?_ ?_ (spec_CountTurned_e _ h) <;> kernel_rfl
  · simp [Ans.no, Ans.run] at h


/-! loop.example/headtrees/laws.toIntS -/

def laws_toIntS_an : Ann := (.seq (.leaf [0]) (.seq (.leaf [0, 3]) (.seq (.seq (.leaf [0, 3, 4]) (.block (.loop (.seq (.seq (.leaf [0, 3, 4, 11]) (.cond (.leaf [0, 3, 4]) (.leaf [3]))) (.seq (.block (.leaf [0, 3, 4])) (.leaf [0, 3, 4])))))) (.seq (.leaf [2]) (.leaf [2])))))

noncomputable def laws_toIntS_ctx : Ctx := ⟨tlook tys, olook [], ioF, 0, false, []⟩

theorem laws_toIntS_n1_l (x2238 : List Int) : Link laws_toIntS_ctx LL (Code.seq (cq [0] (bodyOf Try.f19)) (cq [0,1] (bodyOf Try.f19))) (Ann.seq (aq [0] laws_toIntS_an) (aq [0,1] laws_toIntS_an)) ⟨mkE 22 0 [(0, dL x2238)], []⟩ (laws_toIntS_n1 x2238) (fun (t : (List Int)) => (Exit.normal, ⟨mkE 22 0 [(0, dL x2238), (3, .slc 0)], [some (sI t)]⟩)) := by
  refine Link.of fun K h => ?_
  simp only [laws_toIntS_n1, wpO_bind, wpO_cond, wpO_map, wpO_some] at h
  exact Awp.of (by kernel_rfl) h

theorem laws_toIntS_n2_l (x2238 : List Int) (x2241 : List Int) : Link laws_toIntS_ctx LL (cq [0,0,1,1] (bodyOf Try.f19)) (aq [0,0,1,1] laws_toIntS_an) ⟨mkE 22 0 [(0, dL x2238), (3, .slc 0)], [some (sI x2241)]⟩ (laws_toIntS_n2) (fun (t : Unit) => (Exit.normal, ⟨mkE 22 0 [(0, dL x2238), (3, .slc 0), (4, dI 0)], [some (sI x2241)]⟩)) := by
  refine Link.of fun K h => ?_
  simp only [laws_toIntS_n2, wpO_bind, wpO_cond, wpO_map, wpO_some] at h
  exact Awp.of (by kernel_rfl) h

theorem laws_toIntS_n3_l (x2238 : List Int) (x2255 : Int) (x2256 : List Int) : Link laws_toIntS_ctx LL (cq [0,0,1,0,1,1] (bodyOf Try.f19)) (aq [0,0,1,0,1,1] laws_toIntS_an) ⟨mkE 22 0 [(0, dL x2238), (3, .slc 0), (4, dI x2255)], [some (sI x2256)]⟩ (laws_toIntS_n3 x2238 x2255 x2256) (Sum.elim (fun (t : Int × (List Int)) => (Exit.normal, ⟨mkE 22 0 [(0, dL x2238), (3, .slc 0), (4, dI t.1)], [some (sI t.2)]⟩)) (fun (t : (List Int)) => ((Exit.exit 0), ⟨mkE 22 0 [(3, .slc 0)], [some (sI t)]⟩))) := by
  refine Link.of fun K h => ?_
  simp only [laws_toIntS_n3, wpO_bind, wpO_cond, wpO_map, wpO_some] at h
  exact Awp.of (by kernel_rfl) h

def laws_toIntS_n4_l (x2238 : List Int) (x2241 : List Int) := (link_loop (mk := fun (s : Int × (List Int)) => ⟨mkE 22 0 [(0, dL x2238), (3, .slc 0), (4, dI s.1)], [some (sI s.2)]⟩) (fin := (fun (t : (List Int)) => ((Exit.exit 0), ⟨mkE 22 0 [(3, .slc 0)], [some (sI t)]⟩))) (by
  rintro t f K h
  · exact h) (fun s => link_map (laws_toIntS_n3_l x2238 s.1 s.2) (Sum.elim (fun (t : Int × (List Int)) => Sum.inl (t.1, t.2)) (fun (t : (List Int)) => Sum.inr t)) (by
  rintro (t | t)
  · kernel_rfl
  · kernel_rfl)) (0, x2241))

def laws_toIntS_n5_l (x2238 : List Int) (x2241 : List Int) := (link_block (fin2 := (fun (t : (List Int)) => (Exit.normal, ⟨mkE 22 0 [(3, .slc 0)], [some (sI t)]⟩))) (id := 0) (laws_toIntS_n4_l x2238 x2241) (fun (t : (List Int)) => t) (by
  rintro t K h
  · exact Eq.mp (by kernel_rfl) h))

def laws_toIntS_n6_l (x2238 : List Int) (x2241 : List Int) := (link_seq (laws_toIntS_n2_l x2238 x2241) (fun (t : Unit) => (laws_toIntS_n5_l x2238 x2241)))

theorem laws_toIntS_n7_l (x2256 : List Int) : Link laws_toIntS_ctx LL (cq [1,1,1] (bodyOf Try.f19)) (aq [1,1,1] laws_toIntS_an) ⟨mkE 22 0 [(3, .slc 0)], [some (sI x2256)]⟩ (laws_toIntS_n7 x2256) (fun (t : (List Int)) => (Exit.ret, ⟨mkE 22 0 [(2, .slc 0)], [some (sI t)]⟩)) := by
  refine Link.of fun K h => ?_
  simp only [laws_toIntS_n7, wpO_bind, wpO_cond, wpO_map, wpO_some] at h
  exact Awp.of (by kernel_rfl) h

def laws_toIntS_n8_l (x2238 : List Int) (x2241 : List Int) := (link_seq (laws_toIntS_n6_l x2238 x2241) (fun (t : (List Int)) => (laws_toIntS_n7_l t)))

def laws_toIntS_n9_l (x2238 : List Int) := (link_group (c := (cq [0,1] (bodyOf Try.f19))) (a := (aq [0,1] laws_toIntS_an)) [(cq [0] (bodyOf Try.f19))] [(aq [0] laws_toIntS_an)] rfl (link_seq (laws_toIntS_n1_l x2238) (fun (t : (List Int)) => (laws_toIntS_n8_l x2238 t))))

theorem laws_toIntS_e (x2238 : List Int) {r : AV} {H' : Heap} (h : (Ans.mk _ (laws_toIntS x2238) (fun (t : (List Int)) => (.slc 0, [some (sI t)])) [] none).run = some (r, H')) : Awp laws_toIntS_ctx LL (bodyOf Try.f19) laws_toIntS_an ⟨mkE 22 0 [(0, dL x2238)], []⟩ (Ret (tlook tys) Try.f19.results.toList r H') :=
  ret_of' (Link.cast (by kernel_rfl) (by kernel_rfl) (laws_toIntS_n9_l x2238)) (by unfold laws_toIntS; kernel_rfl) (by
  intro t
  exact ret_mk [.slc 0] (by kernel_rfl) (by kernel_rfl) (by kernel_rfl) (by kernel_rfl)) h

def F_laws_toIntS : Fun := fun avs H =>
  match avs, H with
  | [.dat (.list (.int .i64)) x2238], [] => ⟨_, laws_toIntS x2238, fun (t : (List Int)) => (.slc 0, [some (sI t)]), [], none⟩
  | _, _ => Ans.no

theorem laws_toIntS_sound : Sound Try.prog 19 F_laws_toIntS := by
  refine fn_sound' (C := laws_toIntS_ctx) (c := bodyOf Try.f19) (cok_of tys_ok (alln) (alln) (by kernel_rfl)) Try.func19 (by kernel_rfl) LL laws_toIntS_an ?_
  intro avs H r H' h
  unfold F_laws_toIntS at h
  split at h
  · refine Awp.cast ?_ ?_ ?_ (laws_toIntS_e _ h) <;> kernel_rfl
  · simp [Ans.no, Ans.run] at h


/-! loop.example/headtrees/laws.eqIntS -/

def laws_eqIntS_an : Ann := (.seq (.leaf [0, 1]) (.seq (.seq (.leaf [0, 1, 10]) (.cond (.seq (.leaf [4]) (.leaf [4])) (.leaf [0, 1]))) (.seq (.seq (.leaf [0, 1, 5]) (.block (.loop (.seq (.seq (.leaf [0, 1, 5, 14]) (.cond (.leaf [0, 1, 5]) (.leaf []))) (.seq (.block (.seq (.draw [] [0, 1, 2, 3, 4, 5, 6, 7, 8] [] [0, 1, 5, 25]) (.cond (.seq (.leaf [4]) (.leaf [4])) (.leaf [0, 1, 5])))) (.leaf [0, 1, 5])))))) (.seq (.leaf [4]) (.leaf [4])))))

noncomputable def laws_eqIntS_ctx : Ctx := ⟨tlook tys, olook [], ioF, 0, false, []⟩

theorem laws_eqIntS_n1_l (x2763 : List Int) (x2764 : List Int) : Link laws_eqIntS_ctx LL (Code.seq (cq [0] (bodyOf Try.f21)) (cq [0,1] (bodyOf Try.f21))) (Ann.seq (aq [0] laws_eqIntS_an) (aq [0,1] laws_eqIntS_an)) ⟨mkE 26 0 [(0, dL x2763), (1, dL x2764)], []⟩ (laws_eqIntS_n1 x2763 x2764) (Sum.elim (fun (t : Unit) => (Exit.normal, ⟨mkE 26 0 [(0, dL x2763), (1, dL x2764)], []⟩)) (fun (t : Bool) => (Exit.ret, ⟨mkE 26 0 [(4, dB t)], []⟩))) := by
  refine Link.of fun K h => ?_
  simp only [laws_eqIntS_n1, wpO_bind, wpO_cond, wpO_map, wpO_some] at h
  exact Awp.of (by kernel_rfl) h

theorem laws_eqIntS_n2_l (x2763 : List Int) (x2764 : List Int) : Link laws_eqIntS_ctx LL (cq [0,0,1,1] (bodyOf Try.f21)) (aq [0,0,1,1] laws_eqIntS_an) ⟨mkE 26 0 [(0, dL x2763), (1, dL x2764)], []⟩ (laws_eqIntS_n2) (fun (t : Unit) => (Exit.normal, ⟨mkE 26 0 [(0, dL x2763), (1, dL x2764), (5, dI 0)], []⟩)) := by
  refine Link.of fun K h => ?_
  simp only [laws_eqIntS_n2, wpO_bind, wpO_cond, wpO_map, wpO_some] at h
  exact Awp.of (by kernel_rfl) h

theorem laws_eqIntS_n3_l (x2763 : List Int) (x2764 : List Int) (x2781 : Int) : Link laws_eqIntS_ctx LL (cq [0,0,1,0,1,1] (bodyOf Try.f21)) (aq [0,0,1,0,1,1] laws_eqIntS_an) ⟨mkE 26 0 [(0, dL x2763), (1, dL x2764), (5, dI x2781)], []⟩ (laws_eqIntS_n3 x2763 x2764 x2781) (Sum.elim (fun (t : Int) => (Exit.normal, ⟨mkE 26 0 [(0, dL x2763), (1, dL x2764), (5, dI t)], []⟩)) (Sum.elim (fun (t : Bool) => (Exit.ret, ⟨mkE 26 0 [(4, dB t)], []⟩)) (fun (t : Unit) => ((Exit.exit 0), ⟨mkE 26 0 [], []⟩)))) := by
  refine Link.of fun K h => ?_
  simp only [laws_eqIntS_n3, wpO_bind, wpO_cond, wpO_map, wpO_some] at h
  exact Awp.of (by kernel_rfl) h

def laws_eqIntS_n4_l (x2763 : List Int) (x2764 : List Int) := (link_loop (mk := fun (s : Int) => ⟨mkE 26 0 [(0, dL x2763), (1, dL x2764), (5, dI s)], []⟩) (fin := (Sum.elim (fun (t : Bool) => (Exit.ret, ⟨mkE 26 0 [(4, dB t)], []⟩)) (fun (t : Unit) => ((Exit.exit 0), ⟨mkE 26 0 [], []⟩)))) (by
  rintro (t | t) f K h
  · exact h
  · exact h) (fun s => link_map (laws_eqIntS_n3_l x2763 x2764 s) (Sum.elim (fun (t : Int) => Sum.inl t) (Sum.elim (fun (t : Bool) => Sum.inr (Sum.inl t)) (fun (t : Unit) => Sum.inr (Sum.inr t)))) (by
  rintro (t | t | t)
  · kernel_rfl
  · kernel_rfl
  · kernel_rfl)) 0)

def laws_eqIntS_n5_l (x2763 : List Int) (x2764 : List Int) := (link_block (fin2 := (Sum.elim (fun (t : Unit) => (Exit.normal, ⟨mkE 26 0 [], []⟩)) (fun (t : Bool) => (Exit.ret, ⟨mkE 26 0 [(4, dB t)], []⟩)))) (id := 0) (laws_eqIntS_n4_l x2763 x2764) (Sum.elim (fun (t : Bool) => (Sum.inr t)) (fun (t : Unit) => (Sum.inl ()))) (by
  rintro (t | t) K h
  · exact Eq.mp (by kernel_rfl) h
  · exact Eq.mp (by kernel_rfl) h))

def laws_eqIntS_n6_l (x2763 : List Int) (x2764 : List Int) := (link_seq (laws_eqIntS_n2_l x2763 x2764) (fun (t : Unit) => (laws_eqIntS_n5_l x2763 x2764)))

theorem laws_eqIntS_n7_l : Link laws_eqIntS_ctx LL (cq [1,1,1] (bodyOf Try.f21)) (aq [1,1,1] laws_eqIntS_an) ⟨mkE 26 0 [], []⟩ (laws_eqIntS_n7) (fun (t : Bool) => (Exit.ret, ⟨mkE 26 0 [(4, dB t)], []⟩)) := by
  refine Link.of fun K h => ?_
  simp only [laws_eqIntS_n7, wpO_bind, wpO_cond, wpO_map, wpO_some] at h
  exact Awp.of (by kernel_rfl) h

def laws_eqIntS_n8_l (x2763 : List Int) (x2764 : List Int) := (link_seq2 (laws_eqIntS_n6_l x2763 x2764) (fun (t : Unit) => (laws_eqIntS_n7_l)) (fun (t : Bool) => t) (by
  rintro t
  · kernel_rfl) (by
  rintro t f K h
  · exact h))

def laws_eqIntS_n9_l (x2763 : List Int) (x2764 : List Int) := (link_group (c := (cq [0,1] (bodyOf Try.f21))) (a := (aq [0,1] laws_eqIntS_an)) [(cq [0] (bodyOf Try.f21))] [(aq [0] laws_eqIntS_an)] rfl (link_seq2 (laws_eqIntS_n1_l x2763 x2764) (fun (t : Unit) => (laws_eqIntS_n8_l x2763 x2764)) (fun (t : Bool) => t) (by
  rintro t
  · kernel_rfl) (by
  rintro t f K h
  · exact h)))

theorem laws_eqIntS_e (x2763 : List Int) (x2764 : List Int) {r : AV} {H' : Heap} (h : (Ans.mk _ (laws_eqIntS x2763 x2764) (fun (t : Bool) => (dB t, [])) [] none).run = some (r, H')) : Awp laws_eqIntS_ctx LL (bodyOf Try.f21) laws_eqIntS_an ⟨mkE 26 0 [(0, dL x2763), (1, dL x2764)], []⟩ (Ret (tlook tys) Try.f21.results.toList r H') :=
  ret_of' (Link.cast (by kernel_rfl) (by kernel_rfl) (laws_eqIntS_n9_l x2763 x2764)) (by unfold laws_eqIntS; kernel_rfl) (by
  intro t
  exact ret_mk [dB t] (by kernel_rfl) (by kernel_rfl) (by kernel_rfl) (by kernel_rfl)) h

def F_laws_eqIntS : Fun := fun avs H =>
  match avs, H with
  | [.dat (.list (.int .i64)) x2763, .dat (.list (.int .i64)) x2764], [] => ⟨_, laws_eqIntS x2763 x2764, fun (t : Bool) => (dB t, []), [], none⟩
  | _, _ => Ans.no

theorem laws_eqIntS_sound : Sound Try.prog 21 F_laws_eqIntS := by
  refine fn_sound' (C := laws_eqIntS_ctx) (c := bodyOf Try.f21) (cok_of tys_ok (alln) (alln) (by kernel_rfl)) Try.func21 (by kernel_rfl) LL laws_eqIntS_an ?_
  intro avs H r H' h
  unfold F_laws_eqIntS at h
  split at h
  · refine Awp.cast ?_ ?_ ?_ (laws_eqIntS_e _ _ h) <;> kernel_rfl
  · simp [Ans.no, Ans.run] at h


/-! loop.example/headtrees/laws.FnExactCountTurned -/

def laws_FnExactCountTurned_an : Ann := (.seq (.leaf [0]) (.seq (.seq (.leaf [0, 8]) (.cond (.seq (.leaf [2]) (.leaf [2])) (.leaf [0]))) (.seq (.leaf [0, 3]) (.seq (.leaf [0, 3, 4]) (.seq (.leaf [0, 3, 4, 5]) (.seq (.seq (.leaf [0, 4, 18]) (.cond (.seq (.leaf [2]) (.leaf [2])) (.leaf [0, 4]))) (.seq (.seq (.leaf [23]) (.cond (.seq (.leaf [2]) (.leaf [2])) (.leaf []))) (.seq (.leaf [2]) (.leaf [2])))))))))

noncomputable def laws_FnExactCountTurned_ctx : Ctx := ⟨tlook tys, olook [(19, F_laws_toIntS), (10, F_spec_CountTurned), (9, F_impl_CountTurned), (21, F_laws_eqIntS)], ioF, 0, false, []⟩

theorem laws_FnExactCountTurned_n1_l (x2836 : List Int) : Link laws_FnExactCountTurned_ctx LL (bodyOf Try.f6) laws_FnExactCountTurned_an ⟨mkE 24 0 [(0, dL x2836)], []⟩ (laws_FnExactCountTurned_n1 x2836) (fun (t : Bool) => (Exit.ret, ⟨mkE 24 0 [(2, dB t)], []⟩)) := by
  refine Link.of fun K h => ?_
  simp only [laws_FnExactCountTurned_n1, wpO_bind, wpO_cond, wpO_map, wpO_some] at h
  exact Awp.of (by kernel_rfl) h

theorem laws_FnExactCountTurned_e (x2836 : List Int) {r : AV} {H' : Heap} (h : (Ans.mk _ (laws_FnExactCountTurned x2836) (fun (t : Bool) => (dB t, [])) [] none).run = some (r, H')) : Awp laws_FnExactCountTurned_ctx LL (bodyOf Try.f6) laws_FnExactCountTurned_an ⟨mkE 24 0 [(0, dL x2836)], []⟩ (Ret (tlook tys) Try.f6.results.toList r H') :=
  ret_of' (laws_FnExactCountTurned_n1_l x2836) (by unfold laws_FnExactCountTurned; kernel_rfl) (by
  intro t
  exact ret_mk [dB t] (by kernel_rfl) (by kernel_rfl) (by kernel_rfl) (by kernel_rfl)) h

def F_laws_FnExactCountTurned : Fun := fun avs H =>
  match avs, H with
  | [.dat (.list (.int .i64)) x2836], [] => ⟨_, laws_FnExactCountTurned x2836, fun (t : Bool) => (dB t, []), [], none⟩
  | _, _ => Ans.no

theorem laws_FnExactCountTurned_sound : Sound Try.prog 6 F_laws_FnExactCountTurned := by
  refine fn_sound' (C := laws_FnExactCountTurned_ctx) (c := bodyOf Try.f6) (cok_of tys_ok (allc laws_toIntS_sound (allc spec_CountTurned_sound (allc impl_CountTurned_sound (allc laws_eqIntS_sound alln)))) (allc Try.call19 (allc Try.call10 (allc Try.call9 (allc Try.call21 alln)))) (by kernel_rfl)) Try.func6 (by kernel_rfl) LL laws_FnExactCountTurned_an ?_
  intro avs H r H' h
  unfold F_laws_FnExactCountTurned at h
  split at h
  · refine Awp.cast ?_ ?_ ?_ (laws_FnExactCountTurned_e _ h) <;> kernel_rfl
  · simp [Ans.no, Ans.run] at h


end Go.Rv
