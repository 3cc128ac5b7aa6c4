/-
  The checked code answers as the plain functions do; written by program. Conditions: none.
-/
import Derived.Test.YtgjhjbankpdcgaaGFnExactExchangedAt
import Derived.Test.YtgjhjbankpdcgaaProg
set_option linter.unusedVariables false
set_option linter.unusedSimpArgs false
set_option linter.defProp false
set_option maxRecDepth 100000
namespace Go.Rv
open Go.Proofs
theorem ty3 : TIOk Try.prog 3 ⟨.int .i64, 1, 8, some (.int .i64), [.int .i64 0], false⟩ := ⟨⟨infoOf (Try.prog.info? 3), by kernel_rfl, by kernel_rfl, by kernel_rfl, .int .i64 0, by kernel_rfl, by kernel_rfl⟩, (by kernel_rfl : Try.prog.underlying 3 = some (.int .i64)), no_eq⟩
theorem ty4 : TIOk Try.prog 4 ⟨.bool, 1, 1, some .bool, [.bool false], false⟩ := ⟨⟨infoOf (Try.prog.info? 4), by kernel_rfl, by kernel_rfl, by kernel_rfl, .bool false, by kernel_rfl, by kernel_rfl⟩, (by kernel_rfl : Try.prog.underlying 4 = some .bool), no_eq⟩
theorem ty5 : TIOk Try.prog 5 ⟨.int .u8, 1, 1, some (.int .u8), [.int .u8 0], false⟩ := ⟨⟨infoOf (Try.prog.info? 5), by kernel_rfl, by kernel_rfl, by kernel_rfl, .int .u8 0, by kernel_rfl, by kernel_rfl⟩, (by kernel_rfl : Try.prog.underlying 5 = some (.int .u8)), no_eq⟩
theorem ty22 : TIOk Try.prog 22 ⟨.slice 5, 1, 24, some (.list (.int .u8)), [.slice none 0 0], false⟩ := ⟨⟨infoOf (Try.prog.info? 22), by kernel_rfl, by kernel_rfl, by kernel_rfl, .slice none 0 0, by kernel_rfl, by kernel_rfl⟩, (by kernel_rfl : Try.prog.underlying 22 = some (.slice 5)), no_eq⟩
theorem ty23 : TIOk Try.prog 23 ⟨.slice 3, 1, 24, some (.list (.int .i64)), [.slice none 0 0], false⟩ := ⟨⟨infoOf (Try.prog.info? 23), by kernel_rfl, by kernel_rfl, by kernel_rfl, .slice none 0 0, by kernel_rfl, by kernel_rfl⟩, (by kernel_rfl : Try.prog.underlying 23 = some (.slice 3)), no_eq⟩
theorem ty46 : TIOk Try.prog 46 ⟨.arr 9 4, 9, 9, none, [.bool false, .bool false, .bool false, .bool false, .bool false, .bool false, .bool false, .bool false, .bool false], false⟩ := ⟨⟨infoOf (Try.prog.info? 46), by kernel_rfl, by kernel_rfl, by kernel_rfl, .agg #[.bool false, .bool false, .bool false, .bool false, .bool false, .bool false, .bool false, .bool false, .bool false], by kernel_rfl, by kernel_rfl⟩, (by kernel_rfl : Try.prog.underlying 46 = some (.array 9 4)), no_eq⟩
theorem ty53 : TIOk Try.prog 53 ⟨.strct [(0, 22), (1, 3)], 2, 32, some (.pair (.list (.int .u8)) (.pair (.int .i64) .unit)), [.slice none 0 0, .int .i64 0], false⟩ := ⟨⟨infoOf (Try.prog.info? 53), by kernel_rfl, by kernel_rfl, by kernel_rfl, .agg #[.slice none 0 0, .int .i64 0], by kernel_rfl, by kernel_rfl⟩, ⟨fieldsOf (Try.prog.underlying 53), by kernel_rfl, by kernel_rfl⟩, no_eq⟩
theorem ty62 : TIOk Try.prog 62 ⟨.strct [(0, 23), (1, 3), (2, 3)], 3, 40, some (.pair (.list (.int .i64)) (.pair (.int .i64) (.pair (.int .i64) .unit))), [.slice none 0 0, .int .i64 0, .int .i64 0], false⟩ := ⟨⟨infoOf (Try.prog.info? 62), by kernel_rfl, by kernel_rfl, by kernel_rfl, .agg #[.slice none 0 0, .int .i64 0, .int .i64 0], by kernel_rfl, by kernel_rfl⟩, ⟨fieldsOf (Try.prog.underlying 62), by kernel_rfl, by kernel_rfl⟩, no_eq⟩
theorem ty66 : TIOk Try.prog 66 ⟨.int .u64, 1, 8, some (.int .u64), [.int .u64 0], false⟩ := ⟨⟨infoOf (Try.prog.info? 66), by kernel_rfl, by kernel_rfl, by kernel_rfl, .int .u64 0, by kernel_rfl, by kernel_rfl⟩, (by kernel_rfl : Try.prog.underlying 66 = some (.int .u64)), no_eq⟩
theorem ty67 : TIOk Try.prog 67 ⟨.slice 23, 1, 24, some (.list (.list (.int .i64))), [.slice none 0 0], false⟩ := ⟨⟨infoOf (Try.prog.info? 67), by kernel_rfl, by kernel_rfl, by kernel_rfl, .slice none 0 0, by kernel_rfl, by kernel_rfl⟩, (by kernel_rfl : Try.prog.underlying 67 = some (.slice 23)), no_eq⟩
def tys : List (TypeId × TI) := [(3, ⟨.int .i64, 1, 8, some (.int .i64), [.int .i64 0], false⟩), (4, ⟨.bool, 1, 1, some .bool, [.bool false], false⟩), (5, ⟨.int .u8, 1, 1, some (.int .u8), [.int .u8 0], false⟩), (22, ⟨.slice 5, 1, 24, some (.list (.int .u8)), [.slice none 0 0], false⟩), (23, ⟨.slice 3, 1, 24, some (.list (.int .i64)), [.slice none 0 0], false⟩), (46, ⟨.arr 9 4, 9, 9, none, [.bool false, .bool false, .bool false, .bool false, .bool false, .bool false, .bool false, .bool false, .bool false], false⟩), (53, ⟨.strct [(0, 22), (1, 3)], 2, 32, some (.pair (.list (.int .u8)) (.pair (.int .i64) .unit)), [.slice none 0 0, .int .i64 0], false⟩), (62, ⟨.strct [(0, 23), (1, 3), (2, 3)], 3, 40, some (.pair (.list (.int .i64)) (.pair (.int .i64) (.pair (.int .i64) .unit))), [.slice none 0 0, .int .i64 0, .int .i64 0], false⟩), (66, ⟨.int .u64, 1, 8, some (.int .u64), [.int .u64 0], false⟩), (67, ⟨.slice 23, 1, 24, some (.list (.list (.int .i64))), [.slice none 0 0], false⟩)]
theorem tys_ok : TOk Try.prog (tlook tys) := tok_of (allc ty3 (allc ty4 (allc ty5 (allc ty22 (allc ty23 (allc ty46 (allc ty53 (allc ty62 (allc ty66 (allc ty67 alln))))))))))
def ioF (f : FuncId) (i : Nat) : Bool := [(22, 0), (48, 0)].any fun (p : Nat × Nat) => Nat.beq p.1 f && Nat.beq p.2 i


/-! loop.example/headtrees/impl.OrderOk -/

def impl_OrderOk_an : Ann := (.seq (.leaf [0, 1]) (.seq (.seq (.leaf [0, 1, 19]) (.cond (.seq (.leaf [4]) (.leaf [4])) (.leaf [0, 1]))) (.seq (.leaf [0, 1, 5]) (.seq (.seq (.leaf [1, 5, 20, 21, 22]) (.block (.loop (.seq (.leaf [1, 5, 20, 21, 22, 23]) (.seq (.cond (.leaf [1, 5, 20, 21, 22]) (.leaf [])) (.seq (.block (.seq (.leaf [1, 5, 7, 20, 21, 22]) (.seq (.seq (.leaf [1, 5, 7, 20, 21, 22, 37]) (.cond (.seq (.leaf [4]) (.leaf [4])) (.leaf [1, 5, 7, 20, 21, 22]))) (.leaf [1, 5, 20, 21, 22])))) (.leaf [1, 5, 20, 21, 22]))))))) (.seq (.leaf [4]) (.leaf [4]))))))

noncomputable def impl_OrderOk_ctx : Ctx := ⟨tlook tys, olook [], ioF, 0, false, []⟩

theorem impl_OrderOk_n1_l (x554 : List Int) (x555 : Int) : Link impl_OrderOk_ctx LL (Code.seq (cq [0] (bodyOf Try.f17)) (Code.seq (cq [0,1] (bodyOf Try.f17)) (cq [0,1,1] (bodyOf Try.f17)))) (Ann.seq (aq [0] impl_OrderOk_an) (Ann.seq (aq [0,1] impl_OrderOk_an) (aq [0,1,1] impl_OrderOk_an))) ⟨mkE 41 0 [(0, dL x554), (1, dI x555)], []⟩ (impl_OrderOk_n1 x554 x555) (Sum.elim (fun (t : Unit) => (Exit.normal, ⟨mkE 41 0 [(0, dL x554), (1, dI x555), (5, .ptr 0 0)], [some (.seq .bool (List.replicate 9 false))]⟩)) (fun (t : Bool) => (Exit.ret, ⟨mkE 41 0 [(4, dB t)], []⟩))) := by
  refine Link.of fun K h => ?_
  simp only [impl_OrderOk_n1, wpO_bind, wpO_cond, wpO_map, wpO_some] at h
  exact Awp.of (by kernel_rfl) h

theorem impl_OrderOk_n2_l (x554 : List Int) (x555 : Int) : Link impl_OrderOk_ctx LL (cq [0,0,1,1,1] (bodyOf Try.f17)) (aq [0,0,1,1,1] impl_OrderOk_an) ⟨mkE 41 0 [(0, dL x554), (1, dI x555), (5, .ptr 0 0)], [some (.seq .bool (List.replicate 9 false))]⟩ (impl_OrderOk_n2 x554) (fun (t : Int) => (Exit.normal, ⟨mkE 41 0 [(1, dI x555), (5, .ptr 0 0), (20, dL x554), (21, dI t), (22, dI 0)], [some (.seq .bool (List.replicate 9 false))]⟩)) := by
  refine Link.of fun K h => ?_
  simp only [impl_OrderOk_n2, wpO_bind, wpO_cond, wpO_map, wpO_some] at h
  exact Awp.of (by kernel_rfl) h

theorem impl_OrderOk_n3_l (x555 : Int) (x554 : List Int) (x565 : Int) (x589 : Int) (x590 : List Bool) : Link impl_OrderOk_ctx LL (cq [0,0,1,0,1,1,1] (bodyOf Try.f17)) (aq [0,0,1,0,1,1,1] impl_OrderOk_an) ⟨mkE 41 0 [(1, dI x555), (5, .ptr 0 0), (20, dL x554), (21, dI x565), (22, dI x589)], [some (.seq .bool x590)]⟩ (impl_OrderOk_n3 x555 x554 x565 x589 x590) (Sum.elim (fun (t : Int × (List Bool)) => (Exit.normal, ⟨mkE 41 0 [(1, dI x555), (5, .ptr 0 0), (20, dL x554), (21, dI x565), (22, dI t.1)], [some (.seq .bool t.2)]⟩)) (Sum.elim (fun (t : Bool) => (Exit.ret, ⟨mkE 41 0 [(4, dB t)], []⟩)) (fun (t : Unit) => ((Exit.exit 0), ⟨mkE 41 0 [], []⟩)))) := by
  refine Link.of fun K h => ?_
  simp only [impl_OrderOk_n3, wpO_bind, wpO_cond, wpO_map, wpO_some] at h
  exact Awp.of (by kernel_rfl) h

def impl_OrderOk_n4_l (x555 : Int) (x554 : List Int) (x565 : Int) := (link_loop (mk := fun (s : Int × (List Bool)) => ⟨mkE 41 0 [(1, dI x555), (5, .ptr 0 0), (20, dL x554), (21, dI x565), (22, dI s.1)], [some (.seq .bool s.2)]⟩) (fin := (Sum.elim (fun (t : Bool) => (Exit.ret, ⟨mkE 41 0 [(4, dB t)], []⟩)) (fun (t : Unit) => ((Exit.exit 0), ⟨mkE 41 0 [], []⟩)))) (by
  rintro (t | t) f K h
  · exact h
  · exact h) (fun s => link_map (impl_OrderOk_n3_l x555 x554 x565 s.1 s.2) (Sum.elim (fun (t : Int × (List Bool)) => Sum.inl (t.1, t.2)) (Sum.elim (fun (t : Bool) => Sum.inr (Sum.inl t)) (fun (t : Unit) => Sum.inr (Sum.inr t)))) (by
  rintro (t | t | t)
  · kernel_rfl
  · kernel_rfl
  · kernel_rfl)) (0, (List.replicate 9 false)))

def impl_OrderOk_n5_l (x555 : Int) (x554 : List Int) (x565 : Int) := (link_block (fin2 := (Sum.elim (fun (t : Unit) => (Exit.normal, ⟨mkE 41 0 [], []⟩)) (fun (t : Bool) => (Exit.ret, ⟨mkE 41 0 [(4, dB t)], []⟩)))) (id := 0) (impl_OrderOk_n4_l x555 x554 x565) (Sum.elim (fun (t : Bool) => (Sum.inr t)) (fun (t : Unit) => (Sum.inl ()))) (by
  rintro (t | t) K h
  · exact Eq.mp (by kernel_rfl) h
  · exact Eq.mp (by kernel_rfl) h))

def impl_OrderOk_n6_l (x554 : List Int) (x555 : Int) := (link_seq (impl_OrderOk_n2_l x554 x555) (fun (t : Int) => (impl_OrderOk_n5_l x555 x554 t)))

theorem impl_OrderOk_n7_l : Link impl_OrderOk_ctx LL (cq [1,1,1,1] (bodyOf Try.f17)) (aq [1,1,1,1] impl_OrderOk_an) ⟨mkE 41 0 [], []⟩ (impl_OrderOk_n7) (fun (t : Bool) => (Exit.ret, ⟨mkE 41 0 [(4, dB t)], []⟩)) := by
  refine Link.of fun K h => ?_
  simp only [impl_OrderOk_n7, wpO_bind, wpO_cond, wpO_map, wpO_some] at h
  exact Awp.of (by kernel_rfl) h

def impl_OrderOk_n8_l (x554 : List Int) (x555 : Int) := (link_seq2 (impl_OrderOk_n6_l x554 x555) (fun (t : Unit) => (impl_OrderOk_n7_l)) (fun (t : Bool) => t) (by
  rintro t
  · kernel_rfl) (by
  rintro t f K h
  · exact h))

def impl_OrderOk_n9_l (x554 : List Int) (x555 : Int) := (link_group (c := (cq [0,1,1] (bodyOf Try.f17))) (a := (aq [0,1,1] impl_OrderOk_an)) [(cq [0] (bodyOf Try.f17)), (cq [0,1] (bodyOf Try.f17))] [(aq [0] impl_OrderOk_an), (aq [0,1] impl_OrderOk_an)] rfl (link_seq2 (impl_OrderOk_n1_l x554 x555) (fun (t : Unit) => (impl_OrderOk_n8_l x554 x555)) (fun (t : Bool) => t) (by
  rintro t
  · kernel_rfl) (by
  rintro t f K h
  · exact h)))

theorem impl_OrderOk_e (x554 : List Int) (x555 : Int) {r : AV} {H' : Heap} (h : (Ans.mk _ (impl_OrderOk x554 x555) (fun (t : Bool) => (dB t, [])) [] none).run = some (r, H')) : Awp impl_OrderOk_ctx LL (bodyOf Try.f17) impl_OrderOk_an ⟨mkE 41 0 [(0, dL x554), (1, dI x555)], []⟩ (Ret (tlook tys) Try.f17.results.toList r H') :=
  ret_of' (Link.cast (by kernel_rfl) (by kernel_rfl) (impl_OrderOk_n9_l x554 x555)) (by unfold impl_OrderOk; kernel_rfl) (by
  intro t
  exact ret_mk [dB t] (by kernel_rfl) (by kernel_rfl) (by kernel_rfl) (by kernel_rfl)) h

def F_impl_OrderOk : Fun := fun avs H =>
  match avs, H with
  | [.dat (.list (.int .i64)) x554, .dat (.int .i64) x555], [] => ⟨_, impl_OrderOk x554 x555, fun (t : Bool) => (dB t, []), [], none⟩
  | _, _ => Ans.no

theorem impl_OrderOk_sound : Sound Try.prog 17 F_impl_OrderOk := by
  refine fn_sound' (C := impl_OrderOk_ctx) (c := bodyOf Try.f17) (cok_of tys_ok (alln) (alln) (by kernel_rfl)) Try.func17 (by kernel_rfl) LL impl_OrderOk_an ?_
  intro avs H r H' h
  unfold F_impl_OrderOk at h
  split at h
  · refine Awp.cast ?_ ?_ ?_ (impl_OrderOk_e _ _ h) <;> kernel_rfl
  · simp [Ans.no, Ans.run] at h


/-! loop.example/headtrees/spec.l1In -/

def spec_l1In_an : Ann := (.seq (.leaf [0, 1, 2]) (.seq (.leaf [6]) (.leaf [6])))

noncomputable def spec_l1In_ctx : Ctx := ⟨tlook tys, olook [], ioF, 0, false, []⟩

theorem spec_l1In_n1_l (x1281 : Int) (x1282 : Int) (x1283 : Int) : Link spec_l1In_ctx LL (bodyOf Try.f32) spec_l1In_an ⟨mkE 15 0 [(0, dI x1281), (1, dI x1282), (2, dI x1283)], []⟩ (spec_l1In_n1 x1281 x1282 x1283) (fun (t : Bool) => (Exit.ret, ⟨mkE 15 0 [(6, dB t)], []⟩)) := by
  refine Link.of fun K h => ?_
  simp only [spec_l1In_n1, wpO_bind, wpO_cond, wpO_map, wpO_some] at h
  exact Awp.of (by kernel_rfl) h

theorem spec_l1In_e (x1281 : Int) (x1282 : Int) (x1283 : Int) {r : AV} {H' : Heap} (h : (Ans.mk _ (spec_l1In x1281 x1282 x1283) (fun (t : Bool) => (dB t, [])) [] none).run = some (r, H')) : Awp spec_l1In_ctx LL (bodyOf Try.f32) spec_l1In_an ⟨mkE 15 0 [(0, dI x1281), (1, dI x1282), (2, dI x1283)], []⟩ (Ret (tlook tys) Try.f32.results.toList r H') :=
  ret_of' (spec_l1In_n1_l x1281 x1282 x1283) (by unfold spec_l1In; kernel_rfl) (by
  intro t
  exact ret_mk [dB t] (by kernel_rfl) (by kernel_rfl) (by kernel_rfl) (by kernel_rfl)) h

def F_spec_l1In : Fun := fun avs H =>
  match avs, H with
  | [.dat (.int .i64) x1281, .dat (.int .i64) x1282, .dat (.int .i64) x1283], [] => ⟨_, spec_l1In x1281 x1282 x1283, fun (t : Bool) => (dB t, []), [], none⟩
  | _, _ => Ans.no

theorem spec_l1In_sound : Sound Try.prog 32 F_spec_l1In := by
  refine fn_sound' (C := spec_l1In_ctx) (c := bodyOf Try.f32) (cok_of tys_ok (alln) (alln) (by kernel_rfl)) Try.func32 (by kernel_rfl) LL spec_l1In_an ?_
  intro avs H r H' h
  unfold F_spec_l1In at h
  split at h
  · refine Awp.cast ?_ ?_ ?_ (spec_l1In_e _ _ _ h) <;> kernel_rfl
  · simp [Ans.no, Ans.run] at h


/-! loop.example/headtrees/spec.OrderOk -/

def spec_OrderOk_an : Ann := (.seq (.leaf [0, 1]) (.seq (.seq (.leaf [0, 1, 5]) (.block (.loop (.seq (.seq (.leaf [0, 1, 5, 10]) (.cond (.leaf [0, 1, 5]) (.leaf [0, 1]))) (.seq (.block (.seq (.seq (.leaf [0, 1, 5, 19]) (.cond (.seq (.leaf [4]) (.leaf [4])) (.leaf [0, 1, 5]))) (.seq (.leaf [0, 1, 5, 6]) (.block (.loop (.seq (.seq (.leaf [0, 1, 5, 6, 22]) (.cond (.leaf [0, 1, 5, 6]) (.leaf [0, 1, 5]))) (.seq (.block (.seq (.draw [] [0, 1, 2, 3, 4, 5, 6, 7, 8] [] [0, 1, 5, 6, 33]) (.cond (.seq (.leaf [4]) (.leaf [4])) (.leaf [0, 1, 5, 6])))) (.leaf [0, 1, 5, 6])))))))) (.leaf [0, 1, 5])))))) (.seq (.leaf [4]) (.leaf [4]))))

noncomputable def spec_OrderOk_ctx : Ctx := ⟨tlook tys, olook [(32, F_spec_l1In)], ioF, 0, false, []⟩

theorem spec_OrderOk_n1_l (x1276 : List Int) (x1277 : Int) : Link spec_OrderOk_ctx LL (cq [0] (bodyOf Try.f29)) (aq [0] spec_OrderOk_an) ⟨mkE 42 0 [(0, dL x1276), (1, dI x1277)], []⟩ (spec_OrderOk_n1) (fun (t : Unit) => (Exit.normal, ⟨mkE 42 0 [(0, dL x1276), (1, dI x1277)], []⟩)) := by
  refine Link.of fun K h => ?_
  simp only [spec_OrderOk_n1, wpO_bind, wpO_cond, wpO_map, wpO_some] at h
  exact Awp.of (by kernel_rfl) h

theorem spec_OrderOk_n2_l (x1276 : List Int) (x1277 : Int) : Link spec_OrderOk_ctx LL (cq [0,0,1] (bodyOf Try.f29)) (aq [0,0,1] spec_OrderOk_an) ⟨mkE 42 0 [(0, dL x1276), (1, dI x1277)], []⟩ (spec_OrderOk_n2) (fun (t : Unit) => (Exit.normal, ⟨mkE 42 0 [(0, dL x1276), (1, dI x1277), (5, dI 0)], []⟩)) := by
  refine Link.of fun K h => ?_
  simp only [spec_OrderOk_n2, wpO_bind, wpO_cond, wpO_map, wpO_some] at h
  exact Awp.of (by kernel_rfl) h

theorem spec_OrderOk_n3_l (x1276 : List Int) (x1277 : Int) (x1316 : Int) : Link spec_OrderOk_ctx LL (cq [0,0,0,1,0,1] (bodyOf Try.f29)) (aq [0,0,0,1,0,1] spec_OrderOk_an) ⟨mkE 42 0 [(0, dL x1276), (1, dI x1277), (5, dI x1316)], []⟩ (spec_OrderOk_n3 x1276 x1316) (Sum.elim (fun (t : Unit) => (Exit.normal, ⟨mkE 42 0 [(0, dL x1276), (1, dI x1277), (5, dI x1316)], []⟩)) (fun (t : Unit) => ((Exit.exit 0), ⟨mkE 42 0 [(0, dL x1276), (1, dI x1277)], []⟩))) := by
  refine Link.of fun K h => ?_
  simp only [spec_OrderOk_n3, wpO_bind, wpO_cond, wpO_map, wpO_some] at h
  exact Awp.of (by kernel_rfl) h

theorem spec_OrderOk_n4_l (x1276 : List Int) (x1277 : Int) (x1316 : Int) : Link spec_OrderOk_ctx LL (Code.seq (cq [0,0,0,1,0,0,1,0,1] (bodyOf Try.f29)) (cq [0,1,0,0,1,0,0,1,0,1] (bodyOf Try.f29))) (Ann.seq (aq [0,0,0,1,0,0,1,0,1] spec_OrderOk_an) (aq [0,1,0,0,1,0,0,1,0,1] spec_OrderOk_an)) ⟨mkE 42 0 [(0, dL x1276), (1, dI x1277), (5, dI x1316)], []⟩ (spec_OrderOk_n4 x1276 x1277 x1316) (Sum.elim (fun (t : Unit) => (Exit.normal, ⟨mkE 42 0 [(0, dL x1276), (1, dI x1277), (5, dI x1316), (6, dI 0)], []⟩)) (fun (t : Bool) => (Exit.ret, ⟨mkE 42 0 [(4, dB t)], []⟩))) := by
  refine Link.of fun K h => ?_
  simp only [spec_OrderOk_n4, wpO_bind, wpO_cond, wpO_map, wpO_some] at h
  exact Awp.of (by kernel_rfl) h

theorem spec_OrderOk_n5_l (x1276 : List Int) (x1277 : Int) (x1316 : Int) (x1335 : Int) : Link spec_OrderOk_ctx LL (cq [0,0,1,1,0,0,1,0,0,1,0,1] (bodyOf Try.f29)) (aq [0,0,1,1,0,0,1,0,0,1,0,1] spec_OrderOk_an) ⟨mkE 42 0 [(0, dL x1276), (1, dI x1277), (5, dI x1316), (6, dI x1335)], []⟩ (spec_OrderOk_n5 x1276 x1316 x1335) (Sum.elim (fun (t : Int) => (Exit.normal, ⟨mkE 42 0 [(0, dL x1276), (1, dI x1277), (5, dI x1316), (6, dI t)], []⟩)) (Sum.elim (fun (t : Bool) => (Exit.ret, ⟨mkE 42 0 [(4, dB t)], []⟩)) (fun (t : Unit) => ((Exit.exit 2), ⟨mkE 42 0 [(0, dL x1276), (1, dI x1277), (5, dI x1316)], []⟩)))) := by
  refine Link.of fun K h => ?_
  simp only [spec_OrderOk_n5, wpO_bind, wpO_cond, wpO_map, wpO_some] at h
  exact Awp.of (by kernel_rfl) h

def spec_OrderOk_n6_l (x1276 : List Int) (x1277 : Int) (x1316 : Int) := (link_loop (mk := fun (s : Int) => ⟨mkE 42 0 [(0, dL x1276), (1, dI x1277), (5, dI x1316), (6, dI s)], []⟩) (fin := (Sum.elim (fun (t : Bool) => (Exit.ret, ⟨mkE 42 0 [(4, dB t)], []⟩)) (fun (t : Unit) => ((Exit.exit 2), ⟨mkE 42 0 [(0, dL x1276), (1, dI x1277), (5, dI x1316)], []⟩)))) (by
  rintro (t | t) f K h
  · exact h
  · exact h) (fun s => link_map (spec_OrderOk_n5_l x1276 x1277 x1316 s) (Sum.elim (fun (t : Int) => Sum.inl t) (Sum.elim (fun (t : Bool) => Sum.inr (Sum.inl t)) (fun (t : Unit) => Sum.inr (Sum.inr t)))) (by
  rintro (t | t | t)
  · kernel_rfl
  · kernel_rfl
  · kernel_rfl)) 0)

def spec_OrderOk_n7_l (x1276 : List Int) (x1277 : Int) (x1316 : Int) := (link_block (fin2 := (Sum.elim (fun (t : Unit) => (Exit.normal, ⟨mkE 42 0 [(0, dL x1276), (1, dI x1277), (5, dI x1316)], []⟩)) (fun (t : Bool) => (Exit.ret, ⟨mkE 42 0 [(4, dB t)], []⟩)))) (id := 2) (spec_OrderOk_n6_l x1276 x1277 x1316) (Sum.elim (fun (t : Bool) => (Sum.inr t)) (fun (t : Unit) => (Sum.inl ()))) (by
  rintro (t | t) K h
  · exact Eq.mp (by kernel_rfl) h
  · exact Eq.mp (by kernel_rfl) h))

def spec_OrderOk_n8_l (x1276 : List Int) (x1277 : Int) (x1316 : Int) := (link_group (c := (cq [0,1,0,0,1,0,0,1,0,1] (bodyOf Try.f29))) (a := (aq [0,1,0,0,1,0,0,1,0,1] spec_OrderOk_an)) [(cq [0,0,0,1,0,0,1,0,1] (bodyOf Try.f29))] [(aq [0,0,0,1,0,0,1,0,1] spec_OrderOk_an)] rfl (link_seq2 (spec_OrderOk_n4_l x1276 x1277 x1316) (fun (t : Unit) => (spec_OrderOk_n7_l x1276 x1277 x1316)) (fun (t : Bool) => (Sum.inr t)) (by
  rintro t
  · kernel_rfl) (by
  rintro t f K h
  · exact h)))

def spec_OrderOk_n9_l (x1276 : List Int) (x1277 : Int) (x1316 : Int) := (link_block (fin2 := (Sum.elim (fun (t : Unit) => (Exit.normal, ⟨mkE 42 0 [(0, dL x1276), (1, dI x1277), (5, dI x1316)], []⟩)) (fun (t : Bool) => (Exit.ret, ⟨mkE 42 0 [(4, dB t)], []⟩)))) (id := 1) (spec_OrderOk_n8_l x1276 x1277 x1316) (Sum.elim (fun (t : Unit) => (Sum.inl ())) (fun (t : Bool) => (Sum.inr t))) (by
  rintro (t | t) K h
  · exact Eq.mp (by kernel_rfl) h
  · exact Eq.mp (by kernel_rfl) h))

theorem spec_OrderOk_n10_l (x1276 : List Int) (x1277 : Int) (x1316 : Int) : Link spec_OrderOk_ctx LL (cq [1,1,0,0,1,0,1] (bodyOf Try.f29)) (aq [1,1,0,0,1,0,1] spec_OrderOk_an) ⟨mkE 42 0 [(0, dL x1276), (1, dI x1277), (5, dI x1316)], []⟩ (spec_OrderOk_n10 x1316) (fun (t : Int) => (Exit.normal, ⟨mkE 42 0 [(0, dL x1276), (1, dI x1277), (5, dI t)], []⟩)) := by
  refine Link.of fun K h => ?_
  simp only [spec_OrderOk_n10, wpO_bind, wpO_cond, wpO_map, wpO_some] at h
  exact Awp.of (by kernel_rfl) h

def spec_OrderOk_n11_l (x1276 : List Int) (x1277 : Int) (x1316 : Int) := (link_seq2 (spec_OrderOk_n9_l x1276 x1277 x1316) (fun (t : Unit) => (link_map (fin2 := (Sum.elim (fun (t : Int) => (Exit.normal, ⟨mkE 42 0 [(0, dL x1276), (1, dI x1277), (5, dI t)], []⟩)) (fun (t : Bool) => (Exit.ret, ⟨mkE 42 0 [(4, dB t)], []⟩)))) (spec_OrderOk_n10_l x1276 x1277 x1316) (fun (t : Int) => (Sum.inl t)) (by
  rintro t
  · kernel_rfl))) (fun (t : Bool) => (Sum.inr t)) (by
  rintro t
  · kernel_rfl) (by
  rintro t f K h
  · exact h))

def spec_OrderOk_n12_l (x1276 : List Int) (x1277 : Int) (x1316 : Int) := (link_seq2 (spec_OrderOk_n3_l x1276 x1277 x1316) (fun (t : Unit) => (link_map (fin2 := (Sum.elim (fun (t : Int) => (Exit.normal, ⟨mkE 42 0 [(0, dL x1276), (1, dI x1277), (5, dI t)], []⟩)) (Sum.elim (fun (t : Bool) => (Exit.ret, ⟨mkE 42 0 [(4, dB t)], []⟩)) (fun (t : Unit) => ((Exit.exit 0), ⟨mkE 42 0 [(0, dL x1276), (1, dI x1277)], []⟩))))) (spec_OrderOk_n11_l x1276 x1277 x1316) (Sum.elim (fun (t : Int) => (Sum.inl t)) (fun (t : Bool) => (Sum.inr (Sum.inl t)))) (by
  rintro (t | t)
  · kernel_rfl
  · kernel_rfl))) (fun (t : Unit) => (Sum.inr (Sum.inr t))) (by
  rintro t
  · kernel_rfl) (by
  rintro t f K h
  · exact h))

def spec_OrderOk_n13_l (x1276 : List Int) (x1277 : Int) := (link_loop (mk := fun (s : Int) => ⟨mkE 42 0 [(0, dL x1276), (1, dI x1277), (5, dI s)], []⟩) (fin := (Sum.elim (fun (t : Bool) => (Exit.ret, ⟨mkE 42 0 [(4, dB t)], []⟩)) (fun (t : Unit) => ((Exit.exit 0), ⟨mkE 42 0 [(0, dL x1276), (1, dI x1277)], []⟩)))) (by
  rintro (t | t) f K h
  · exact h
  · exact h) (fun s => link_map (spec_OrderOk_n12_l x1276 x1277 s) (Sum.elim (fun (t : Int) => Sum.inl t) (Sum.elim (fun (t : Bool) => Sum.inr (Sum.inl t)) (fun (t : Unit) => Sum.inr (Sum.inr t)))) (by
  rintro (t | t | t)
  · kernel_rfl
  · kernel_rfl
  · kernel_rfl)) 0)

def spec_OrderOk_n14_l (x1276 : List Int) (x1277 : Int) := (link_block (fin2 := (Sum.elim (fun (t : Unit) => (Exit.normal, ⟨mkE 42 0 [(0, dL x1276), (1, dI x1277)], []⟩)) (fun (t : Bool) => (Exit.ret, ⟨mkE 42 0 [(4, dB t)], []⟩)))) (id := 0) (spec_OrderOk_n13_l x1276 x1277) (Sum.elim (fun (t : Bool) => (Sum.inr t)) (fun (t : Unit) => (Sum.inl ()))) (by
  rintro (t | t) K h
  · exact Eq.mp (by kernel_rfl) h
  · exact Eq.mp (by kernel_rfl) h))

def spec_OrderOk_n15_l (x1276 : List Int) (x1277 : Int) := (link_seq (spec_OrderOk_n2_l x1276 x1277) (fun (t : Unit) => (spec_OrderOk_n14_l x1276 x1277)))

theorem spec_OrderOk_n16_l (x1276 : List Int) (x1277 : Int) : Link spec_OrderOk_ctx LL (cq [1,1] (bodyOf Try.f29)) (aq [1,1] spec_OrderOk_an) ⟨mkE 42 0 [(0, dL x1276), (1, dI x1277)], []⟩ (spec_OrderOk_n16 x1276 x1277) (fun (t : Bool) => (Exit.ret, ⟨mkE 42 0 [(4, dB t)], []⟩)) := by
  refine Link.of fun K h => ?_
  simp only [spec_OrderOk_n16, wpO_bind, wpO_cond, wpO_map, wpO_some] at h
  exact Awp.of (by kernel_rfl) h

def spec_OrderOk_n17_l (x1276 : List Int) (x1277 : Int) := (link_seq2 (spec_OrderOk_n15_l x1276 x1277) (fun (t : Unit) => (spec_OrderOk_n16_l x1276 x1277)) (fun (t : Bool) => t) (by
  rintro t
  · kernel_rfl) (by
  rintro t f K h
  · exact h))

def spec_OrderOk_n18_l (x1276 : List Int) (x1277 : Int) := (link_seq (spec_OrderOk_n1_l x1276 x1277) (fun (t : Unit) => (spec_OrderOk_n17_l x1276 x1277)))

theorem spec_OrderOk_e (x1276 : List Int) (x1277 : Int) {r : AV} {H' : Heap} (h : (Ans.mk _ (spec_OrderOk x1276 x1277) (fun (t : Bool) => (dB t, [])) [] none).run = some (r, H')) : Awp spec_OrderOk_ctx LL (bodyOf Try.f29) spec_OrderOk_an ⟨mkE 42 0 [(0, dL x1276), (1, dI x1277)], []⟩ (Ret (tlook tys) Try.f29.results.toList r H') :=
  ret_of' (Link.cast (by kernel_rfl) (by kernel_rfl) (spec_OrderOk_n18_l x1276 x1277)) (by unfold spec_OrderOk; kernel_rfl) (by
  intro t
  exact ret_mk [dB t] (by kernel_rfl) (by kernel_rfl) (by kernel_rfl) (by kernel_rfl)) h

def F_spec_OrderOk : Fun := fun avs H =>
  match avs, H with
  | [.dat (.list (.int .i64)) x1276, .dat (.int .i64) x1277], [] => ⟨_, spec_OrderOk x1276 x1277, fun (t : Bool) => (dB t, []), [], none⟩
  | _, _ => Ans.no

theorem spec_OrderOk_sound : Sound Try.prog 29 F_spec_OrderOk := by
  refine fn_sound' (C := spec_OrderOk_ctx) (c := bodyOf Try.f29) (cok_of tys_ok (allc spec_l1In_sound alln) (allc Try.call32 alln) (by kernel_rfl)) Try.func29 (by kernel_rfl) LL spec_OrderOk_an ?_
  intro avs H r H' h
  unfold F_spec_OrderOk at h
  split at h
  · refine Awp.cast ?_ ?_ ?_ (spec_OrderOk_e _ _ h) <;> kernel_rfl
  · simp [Ans.no, Ans.run] at h


/-! slices.Clone[[]int,int] -/

def slices_Clone_int_int_an : Ann := (.seq (.leaf [0]) (.seq (.seq (.leaf [0, 4]) (.cond (.seq (.leaf [2]) (.leaf [2])) (.leaf [0]))) (.seq (.leaf [2]) (.leaf [2]))))

noncomputable def slices_Clone_int_int_ctx : Ctx := ⟨tlook tys, olook [], ioF, 0, false, []⟩

theorem slices_Clone_int_int_n1_l (x1819 : List Int) : Link slices_Clone_int_int_ctx LL (bodyOf Try.f31) slices_Clone_int_int_an ⟨mkE 8 0 [(0, dL x1819)], []⟩ (slices_Clone_int_int_n1 x1819) (fun (t : (List Int)) => (Exit.ret, ⟨mkE 8 0 [(2, .slc 0)], [some (sI t)]⟩)) := by
  refine Link.of fun K h => ?_
  simp only [slices_Clone_int_int_n1, wpO_bind, wpO_cond, wpO_map, wpO_some] at h
  exact Awp.of (by kernel_rfl) h

theorem slices_Clone_int_int_e (x1819 : List Int) {r : AV} {H' : Heap} (h : (Ans.mk _ (slices_Clone_int_int x1819) (fun (t : (List Int)) => (.slc 0, [some (sI t)])) [] none).run = some (r, H')) : Awp slices_Clone_int_int_ctx LL (bodyOf Try.f31) slices_Clone_int_int_an ⟨mkE 8 0 [(0, dL x1819)], []⟩ (Ret (tlook tys) Try.f31.results.toList r H') :=
  ret_of' (slices_Clone_int_int_n1_l x1819) (by unfold slices_Clone_int_int; kernel_rfl) (by
  intro t
  exact ret_mk [.slc 0] (by kernel_rfl) (by kernel_rfl) (by kernel_rfl) (by kernel_rfl)) h

def F_slices_Clone_int_int : Fun := fun avs H =>
  match avs, H with
  | [.dat (.list (.int .i64)) x1819], [] => ⟨_, slices_Clone_int_int x1819, fun (t : (List Int)) => (.slc 0, [some (sI t)]), [], none⟩
  | _, _ => Ans.no

theorem slices_Clone_int_int_sound : Sound Try.prog 31 F_slices_Clone_int_int := by
  refine fn_sound' (C := slices_Clone_int_int_ctx) (c := bodyOf Try.f31) (cok_of tys_ok (alln) (alln) (by kernel_rfl)) Try.func31 (by kernel_rfl) LL slices_Clone_int_int_an ?_
  intro avs H r H' h
  unfold F_slices_Clone_int_int at h
  split at h
  · refine Awp.cast ?_ ?_ ?_ (slices_Clone_int_int_e _ h) <;> kernel_rfl
  · simp [Ans.no, Ans.run] at h


/-! loop.example/headtrees/impl.ExchangedAt -/

def impl_ExchangedAt_an : Ann := (.seq (.leaf [0, 1]) (.seq (.seq (.leaf [0, 1, 22]) (.cond (.seq (.leaf [4, 5]) (.leaf [4, 5])) (.leaf [0, 1]))) (.seq (.leaf [0, 1, 6]) (.seq (.draw [] [0, 1, 2, 3, 4, 5, 6, 7, 8, 9, 10, 11, 12, 13, 14, 15, 16, 17] [] [6]) (.seq (.leaf [4, 5]) (.leaf [4, 5]))))))

noncomputable def impl_ExchangedAt_ctx : Ctx := ⟨tlook tys, olook [(17, F_impl_OrderOk), (31, F_slices_Clone_int_int)], ioF, 0, false, []⟩

theorem impl_ExchangedAt_n1_l (x1803 : List Int) (x1804 : Int) : Link impl_ExchangedAt_ctx LL (bodyOf Try.f14) impl_ExchangedAt_an ⟨mkE 42 0 [(0, dL x1803), (1, dI x1804)], []⟩ (impl_ExchangedAt_n1 x1803 x1804) (fun (t : Bool × (List Int)) => (Exit.ret, ⟨mkE 42 0 [(4, .slc 0), (5, dB t.1)], [some (sI t.2)]⟩)) := by
  refine Link.of fun K h => ?_
  simp only [impl_ExchangedAt_n1, wpO_bind, wpO_cond, wpO_map, wpO_some] at h
  exact Awp.of (by kernel_rfl) h

theorem impl_ExchangedAt_e (x1803 : List Int) (x1804 : Int) {r : AV} {H' : Heap} (h : (Ans.mk _ (impl_ExchangedAt x1803 x1804) (fun (t : Bool × (List Int)) => (.tup [.slc 0, dB t.1], [some (sI t.2)])) [] none).run = some (r, H')) : Awp impl_ExchangedAt_ctx LL (bodyOf Try.f14) impl_ExchangedAt_an ⟨mkE 42 0 [(0, dL x1803), (1, dI x1804)], []⟩ (Ret (tlook tys) Try.f14.results.toList r H') :=
  ret_of' (impl_ExchangedAt_n1_l x1803 x1804) (by unfold impl_ExchangedAt; kernel_rfl) (by
  intro t
  exact ret_mk [.slc 0, dB t.1] (by kernel_rfl) (by kernel_rfl) (by kernel_rfl) (by kernel_rfl)) h

def F_impl_ExchangedAt : Fun := fun avs H =>
  match avs, H with
  | [.dat (.list (.int .i64)) x1803, .dat (.int .i64) x1804], [] => ⟨_, impl_ExchangedAt x1803 x1804, fun (t : Bool × (List Int)) => (.tup [.slc 0, dB t.1], [some (sI t.2)]), [], none⟩
  | _, _ => Ans.no

theorem impl_ExchangedAt_sound : Sound Try.prog 14 F_impl_ExchangedAt := by
  refine fn_sound' (C := impl_ExchangedAt_ctx) (c := bodyOf Try.f14) (cok_of tys_ok (allc impl_OrderOk_sound (allc slices_Clone_int_int_sound alln)) (allc Try.call17 (allc Try.call31 alln)) (by kernel_rfl)) Try.func14 (by kernel_rfl) LL impl_ExchangedAt_an ?_
  intro avs H r H' h
  unfold F_impl_ExchangedAt at h
  split at h
  · refine Awp.cast ?_ ?_ ?_ (impl_ExchangedAt_e _ _ h) <;> kernel_rfl
  · simp [Ans.no, Ans.run] at h


/-! loop.example/headtrees/spec.ExchangedAt -/

def spec_ExchangedAt_an : Ann := (.seq (.leaf [0, 1]) (.seq (.seq (.leaf [0, 1, 20]) (.cond (.seq (.leaf [4, 5]) (.leaf [4, 5])) (.leaf [0, 1]))) (.seq (.leaf [1, 6]) (.seq (.leaf [1, 6, 7]) (.seq (.leaf [1, 6, 7]) (.seq (.leaf [6]) (.seq (.leaf [4, 5]) (.leaf [4, 5]))))))))

noncomputable def spec_ExchangedAt_ctx : Ctx := ⟨tlook tys, olook [(29, F_spec_OrderOk), (32, F_spec_l1In)], ioF, 0, false, []⟩

theorem spec_ExchangedAt_n1_l (x1891 : List Int) (x1892 : Int) : Link spec_ExchangedAt_ctx LL (bodyOf Try.f15) spec_ExchangedAt_an ⟨mkE 43 0 [(0, dL x1891), (1, dI x1892)], []⟩ (spec_ExchangedAt_n1 x1891 x1892) (fun (t : Bool × (List Int)) => (Exit.ret, ⟨mkE 43 0 [(4, .slc 0), (5, dB t.1)], [some (sI t.2)]⟩)) := by
  refine Link.of fun K h => ?_
  simp only [spec_ExchangedAt_n1, wpO_bind, wpO_cond, wpO_map, wpO_some] at h
  exact Awp.of (by kernel_rfl) h

theorem spec_ExchangedAt_e (x1891 : List Int) (x1892 : Int) {r : AV} {H' : Heap} (h : (Ans.mk _ (spec_ExchangedAt x1891 x1892) (fun (t : Bool × (List Int)) => (.tup [.slc 0, dB t.1], [some (sI t.2)])) [] none).run = some (r, H')) : Awp spec_ExchangedAt_ctx LL (bodyOf Try.f15) spec_ExchangedAt_an ⟨mkE 43 0 [(0, dL x1891), (1, dI x1892)], []⟩ (Ret (tlook tys) Try.f15.results.toList r H') :=
  ret_of' (spec_ExchangedAt_n1_l x1891 x1892) (by unfold spec_ExchangedAt; kernel_rfl) (by
  intro t
  exact ret_mk [.slc 0, dB t.1] (by kernel_rfl) (by kernel_rfl) (by kernel_rfl) (by kernel_rfl)) h

def F_spec_ExchangedAt : Fun := fun avs H =>
  match avs, H with
  | [.dat (.list (.int .i64)) x1891, .dat (.int .i64) x1892], [] => ⟨_, spec_ExchangedAt x1891 x1892, fun (t : Bool × (List Int)) => (.tup [.slc 0, dB t.1], [some (sI t.2)]), [], none⟩
  | _, _ => Ans.no

theorem spec_ExchangedAt_sound : Sound Try.prog 15 F_spec_ExchangedAt := by
  refine fn_sound' (C := spec_ExchangedAt_ctx) (c := bodyOf Try.f15) (cok_of tys_ok (allc spec_OrderOk_sound (allc spec_l1In_sound alln)) (allc Try.call29 (allc Try.call32 alln)) (by kernel_rfl)) Try.func15 (by kernel_rfl) LL spec_ExchangedAt_an ?_
  intro avs H r H' h
  unfold F_spec_ExchangedAt at h
  split at h
  · refine Awp.cast ?_ ?_ ?_ (spec_ExchangedAt_e _ _ h) <;> kernel_rfl
  · simp [Ans.no, Ans.run] at h


/-! loop.example/headtrees/laws.toIntS -/

def laws_toIntS_an : Ann := (.seq (.leaf [0]) (.seq (.leaf [0, 3]) (.seq (.seq (.leaf [0, 3, 4]) (.block (.loop (.seq (.seq (.leaf [0, 3, 4, 11]) (.cond (.leaf [0, 3, 4]) (.leaf [3]))) (.seq (.block (.leaf [0, 3, 4])) (.leaf [0, 3, 4])))))) (.seq (.leaf [2]) (.leaf [2])))))

noncomputable def laws_toIntS_ctx : Ctx := ⟨tlook tys, olook [], ioF, 0, false, []⟩

theorem laws_toIntS_n1_l (x2238 : List Int) : Link laws_toIntS_ctx LL (Code.seq (cq [0] (bodyOf Try.f19)) (cq [0,1] (bodyOf Try.f19))) (Ann.seq (aq [0] laws_toIntS_an) (aq [0,1] laws_toIntS_an)) ⟨mkE 22 0 [(0, dL x2238)], []⟩ (laws_toIntS_n1 x2238) (fun (t : (List Int)) => (Exit.normal, ⟨mkE 22 0 [(0, dL x2238), (3, .slc 0)], [some (sI t)]⟩)) := by
  refine Link.of fun K h => ?_
  simp only [laws_toIntS_n1, wpO_bind, wpO_cond, wpO_map, wpO_some] at h
  exact Awp.of (by kernel_rfl) h

theorem laws_toIntS_n2_l (x2238 : List Int) (x2241 : List Int) : Link laws_toIntS_ctx LL (cq [0,0,1,1] (bodyOf Try.f19)) (aq [0,0,1,1] laws_toIntS_an) ⟨mkE 22 0 [(0, dL x2238), (3, .slc 0)], [some (sI x2241)]⟩ (laws_toIntS_n2) (fun (t : Unit) => (Exit.normal, ⟨mkE 22 0 [(0, dL x2238), (3, .slc 0), (4, dI 0)], [some (sI x2241)]⟩)) := by
  refine Link.of fun K h => ?_
  simp only [laws_toIntS_n2, wpO_bind, wpO_cond, wpO_map, wpO_some] at h
  exact Awp.of (by kernel_rfl) h

theorem laws_toIntS_n3_l (x2238 : List Int) (x2255 : Int) (x2256 : List Int) : Link laws_toIntS_ctx LL (cq [0,0,1,0,1,1] (bodyOf Try.f19)) (aq [0,0,1,0,1,1] laws_toIntS_an) ⟨mkE 22 0 [(0, dL x2238), (3, .slc 0), (4, dI x2255)], [some (sI x2256)]⟩ (laws_toIntS_n3 x2238 x2255 x2256) (Sum.elim (fun (t : Int × (List Int)) => (Exit.normal, ⟨mkE 22 0 [(0, dL x2238), (3, .slc 0), (4, dI t.1)], [some (sI t.2)]⟩)) (fun (t : (List Int)) => ((Exit.exit 0), ⟨mkE 22 0 [(3, .slc 0)], [some (sI t)]⟩))) := by
  refine Link.of fun K h => ?_
  simp only [laws_toIntS_n3, wpO_bind, wpO_cond, wpO_map, wpO_some] at h
  exact Awp.of (by kernel_rfl) h

def laws_toIntS_n4_l (x2238 : List Int) (x2241 : List Int) := (link_loop (mk := fun (s : Int × (List Int)) => ⟨mkE 22 0 [(0, dL x2238), (3, .slc 0), (4, dI s.1)], [some (sI s.2)]⟩) (fin := (fun (t : (List Int)) => ((Exit.exit 0), ⟨mkE 22 0 [(3, .slc 0)], [some (sI t)]⟩))) (by
  rintro t f K h
  · exact h) (fun s => link_map (laws_toIntS_n3_l x2238 s.1 s.2) (Sum.elim (fun (t : Int × (List Int)) => Sum.inl (t.1, t.2)) (fun (t : (List Int)) => Sum.inr t)) (by
  rintro (t | t)
  · kernel_rfl
  · kernel_rfl)) (0, x2241))

def laws_toIntS_n5_l (x2238 : List Int) (x2241 : List Int) := (link_block (fin2 := (fun (t : (List Int)) => (Exit.normal, ⟨mkE 22 0 [(3, .slc 0)], [some (sI t)]⟩))) (id := 0) (laws_toIntS_n4_l x2238 x2241) (fun (t : (List Int)) => t) (by
  rintro t K h
  · exact Eq.mp (by kernel_rfl) h))

def laws_toIntS_n6_l (x2238 : List Int) (x2241 : List Int) := (link_seq (laws_toIntS_n2_l x2238 x2241) (fun (t : Unit) => (laws_toIntS_n5_l x2238 x2241)))

theorem laws_toIntS_n7_l (x2256 : List Int) : Link laws_toIntS_ctx LL (cq [1,1,1] (bodyOf Try.f19)) (aq [1,1,1] laws_toIntS_an) ⟨mkE 22 0 [(3, .slc 0)], [some (sI x2256)]⟩ (laws_toIntS_n7 x2256) (fun (t : (List Int)) => (Exit.ret, ⟨mkE 22 0 [(2, .slc 0)], [some (sI t)]⟩)) := by
  refine Link.of fun K h => ?_
  simp only [laws_toIntS_n7, wpO_bind, wpO_cond, wpO_map, wpO_some] at h
  exact Awp.of (by kernel_rfl) h

def laws_toIntS_n8_l (x2238 : List Int) (x2241 : List Int) := (link_seq (laws_toIntS_n6_l x2238 x2241) (fun (t : (List Int)) => (laws_toIntS_n7_l t)))

def laws_toIntS_n9_l (x2238 : List Int) := (link_group (c := (cq [0,1] (bodyOf Try.f19))) (a := (aq [0,1] laws_toIntS_an)) [(cq [0] (bodyOf Try.f19))] [(aq [0] laws_toIntS_an)] rfl (link_seq (laws_toIntS_n1_l x2238) (fun (t : (List Int)) => (laws_toIntS_n8_l x2238 t))))

theorem laws_toIntS_e (x2238 : List Int) {r : AV} {H' : Heap} (h : (Ans.mk _ (laws_toIntS x2238) (fun (t : (List Int)) => (.slc 0, [some (sI t)])) [] none).run = some (r, H')) : Awp laws_toIntS_ctx LL (bodyOf Try.f19) laws_toIntS_an ⟨mkE 22 0 [(0, dL x2238)], []⟩ (Ret (tlook tys) Try.f19.results.toList r H') :=
  ret_of' (Link.cast (by kernel_rfl) (by kernel_rfl) (laws_toIntS_n9_l x2238)) (by unfold laws_toIntS; kernel_rfl) (by
  intro t
  exact ret_mk [.slc 0] (by kernel_rfl) (by kernel_rfl) (by kernel_rfl) (by kernel_rfl)) h

def F_laws_toIntS : Fun := fun avs H =>
  match avs, H with
  | [.dat (.list (.int .i64)) x2238], [] => ⟨_, laws_toIntS x2238, fun (t : (List Int)) => (.slc 0, [some (sI t)]), [], none⟩
  | _, _ => Ans.no

theorem laws_toIntS_sound : Sound Try.prog 19 F_laws_toIntS := by
  refine fn_sound' (C := laws_toIntS_ctx) (c := bodyOf Try.f19) (cok_of tys_ok (alln) (alln) (by kernel_rfl)) Try.func19 (by kernel_rfl) LL laws_toIntS_an ?_
  intro avs H r H' h
  unfold F_laws_toIntS at h
  split at h
  · refine Awp.cast ?_ ?_ ?_ (laws_toIntS_e _ h) <;> kernel_rfl
  · simp [Ans.no, Ans.run] at h


/-! loop.example/headtrees/laws.eqIntS -/

def laws_eqIntS_an : Ann := (.seq (.leaf [0, 1]) (.seq (.seq (.leaf [0, 1, 10]) (.cond (.seq (.leaf [4]) (.leaf [4])) (.leaf [0, 1]))) (.seq (.seq (.leaf [0, 1, 5]) (.block (.loop (.seq (.seq (.leaf [0, 1, 5, 14]) (.cond (.leaf [0, 1, 5]) (.leaf []))) (.seq (.block (.seq (.draw [] [0, 1, 2, 3, 4, 5, 6, 7, 8] [] [0, 1, 5, 25]) (.cond (.seq (.leaf [4]) (.leaf [4])) (.leaf [0, 1, 5])))) (.leaf [0, 1, 5])))))) (.seq (.leaf [4]) (.leaf [4])))))

noncomputable def laws_eqIntS_ctx : Ctx := ⟨tlook tys, olook [], ioF, 0, false, []⟩

theorem laws_eqIntS_n1_l (x2763 : List Int) (x2764 : List Int) : Link laws_eqIntS_ctx LL (Code.seq (cq [0] (bodyOf Try.f21)) (cq [0,1] (bodyOf Try.f21))) (Ann.seq (aq [0] laws_eqIntS_an) (aq [0,1] laws_eqIntS_an)) ⟨mkE 26 0 [(0, dL x2763), (1, dL x2764)], []⟩ (laws_eqIntS_n1 x2763 x2764) (Sum.elim (fun (t : Unit) => (Exit.normal, ⟨mkE 26 0 [(0, dL x2763), (1, dL x2764)], []⟩)) (fun (t : Bool) => (Exit.ret, ⟨mkE 26 0 [(4, dB t)], []⟩))) := by
  refine Link.of fun K h => ?_
  simp only [laws_eqIntS_n1, wpO_bind, wpO_cond, wpO_map, wpO_some] at h
  exact Awp.of (by kernel_rfl) h

theorem laws_eqIntS_n2_l (x2763 : List Int) (x2764 : List Int) : Link laws_eqIntS_ctx LL (cq [0,0,1,1] (bodyOf Try.f21)) (aq [0,0,1,1] laws_eqIntS_an) ⟨mkE 26 0 [(0, dL x2763), (1, dL x2764)], []⟩ (laws_eqIntS_n2) (fun (t : Unit) => (Exit.normal, ⟨mkE 26 0 [(0, dL x2763), (1, dL x2764), (5, dI 0)], []⟩)) := by
  refine Link.of fun K h => ?_
  simp only [laws_eqIntS_n2, wpO_bind, wpO_cond, wpO_map, wpO_some] at h
  exact Awp.of (by kernel_rfl) h

theorem laws_eqIntS_n3_l (x2763 : List Int) (x2764 : List Int) (x2781 : Int) : Link laws_eqIntS_ctx LL (cq [0,0,1,0,1,1] (bodyOf Try.f21)) (aq [0,0,1,0,1,1] laws_eqIntS_an) ⟨mkE 26 0 [(0, dL x2763), (1, dL x2764), (5, dI x2781)], []⟩ (laws_eqIntS_n3 x2763 x2764 x2781) (Sum.elim (fun (t : Int) => (Exit.normal, ⟨mkE 26 0 [(0, dL x2763), (1, dL x2764), (5, dI t)], []⟩)) (Sum.elim (fun (t : Bool) => (Exit.ret, ⟨mkE 26 0 [(4, dB t)], []⟩)) (fun (t : Unit) => ((Exit.exit 0), ⟨mkE 26 0 [], []⟩)))) := by
  refine Link.of fun K h => ?_
  simp only [laws_eqIntS_n3, wpO_bind, wpO_cond, wpO_map, wpO_some] at h
  exact Awp.of (by kernel_rfl) h

def laws_eqIntS_n4_l (x2763 : List Int) (x2764 : List Int) := (link_loop (mk := fun (s : Int) => ⟨mkE 26 0 [(0, dL x2763), (1, dL x2764), (5, dI s)], []⟩) (fin := (Sum.elim (fun (t : Bool) => (Exit.ret, ⟨mkE 26 0 [(4, dB t)], []⟩)) (fun (t : Unit) => ((Exit.exit 0), ⟨mkE 26 0 [], []⟩)))) (by
  rintro (t | t) f K h
  · exact h
  · exact h) (fun s => link_map (laws_eqIntS_n3_l x2763 x2764 s) (Sum.elim (fun (t : Int) => Sum.inl t) (Sum.elim (fun (t : Bool) => Sum.inr (Sum.inl t)) (fun (t : Unit) => Sum.inr (Sum.inr t)))) (by
  rintro (t | t | t)
  · kernel_rfl
  · kernel_rfl
  · kernel_rfl)) 0)

def laws_eqIntS_n5_l (x2763 : List Int) (x2764 : List Int) := (link_block (fin2 := (Sum.elim (fun (t : Unit) => (Exit.normal, ⟨mkE 26 0 [], []⟩)) (fun (t : Bool) => (Exit.ret, ⟨mkE 26 0 [(4, dB t)], []⟩)))) (id := 0) (laws_eqIntS_n4_l x2763 x2764) (Sum.elim (fun (t : Bool) => (Sum.inr t)) (fun (t : Unit) => (Sum.inl ()))) (by
  rintro (t | t) K h
  · exact Eq.mp (by kernel_rfl) h
  · exact Eq.mp (by kernel_rfl) h))

def laws_eqIntS_n6_l (x2763 : List Int) (x2764 : List Int) := (link_seq (laws_eqIntS_n2_l x2763 x2764) (fun (t : Unit) => (laws_eqIntS_n5_l x2763 x2764)))

theorem laws_eqIntS_n7_l : Link laws_eqIntS_ctx LL (cq [1,1,1] (bodyOf Try.f21)) (aq [1,1,1] laws_eqIntS_an) ⟨mkE 26 0 [], []⟩ (laws_eqIntS_n7) (fun (t : Bool) => (Exit.ret, ⟨mkE 26 0 [(4, dB t)], []⟩)) := by
  refine Link.of fun K h => ?_
  simp only [laws_eqIntS_n7, wpO_bind, wpO_cond, wpO_map, wpO_some] at h
  exact Awp.of (by kernel_rfl) h

def laws_eqIntS_n8_l (x2763 : List Int) (x2764 : List Int) := (link_seq2 (laws_eqIntS_n6_l x2763 x2764) (fun (t : Unit) => (laws_eqIntS_n7_l)) (fun (t : Bool) => t) (by
  rintro t
  · kernel_rfl) (by
  rintro t f K h
  · exact h))

def laws_eqIntS_n9_l (x2763 : List Int) (x2764 : List Int) := (link_group (c := (cq [0,1] (bodyOf Try.f21))) (a := (aq [0,1] laws_eqIntS_an)) [(cq [0] (bodyOf Try.f21))] [(aq [0] laws_eqIntS_an)] rfl (link_seq2 (laws_eqIntS_n1_l x2763 x2764) (fun (t : Unit) => (laws_eqIntS_n8_l x2763 x2764)) (fun (t : Bool) => t) (by
  rintro t
  · kernel_rfl) (by
  rintro t f K h
  · exact h)))

theorem laws_eqIntS_e (x2763 : List Int) (x2764 : List Int) {r : AV} {H' : Heap} (h : (Ans.mk _ (laws_eqIntS x2763 x2764) (fun (t : Bool) => (dB t, [])) [] none).run = some (r, H')) : Awp laws_eqIntS_ctx LL (bodyOf Try.f21) laws_eqIntS_an ⟨mkE 26 0 [(0, dL x2763), (1, dL x2764)], []⟩ (Ret (tlook tys) Try.f21.results.toList r H') :=
  ret_of' (Link.cast (by kernel_rfl) (by kernel_rfl) (laws_eqIntS_n9_l x2763 x2764)) (by unfold laws_eqIntS; kernel_rfl) (by
  intro t
  exact ret_mk [dB t] (by kernel_rfl) (by kernel_rfl) (by kernel_rfl) (by kernel_rfl)) h

def F_laws_eqIntS : Fun := fun avs H =>
  match avs, H with
  | [.dat (.list (.int .i64)) x2763, .dat (.list (.int .i64)) x2764], [] => ⟨_, laws_eqIntS x2763 x2764, fun (t : Bool) => (dB t, []), [], none⟩
  | _, _ => Ans.no

theorem laws_eqIntS_sound : Sound Try.prog 21 F_laws_eqIntS := by
  refine fn_sound' (C := laws_eqIntS_ctx) (c := bodyOf Try.f21) (cok_of tys_ok (alln) (alln) (by kernel_rfl)) Try.func21 (by kernel_rfl) LL laws_eqIntS_an ?_
  intro avs H r H' h
  unfold F_laws_eqIntS at h
  split at h
  · refine Awp.cast ?_ ?_ ?_ (laws_eqIntS_e _ _ h) <;> kernel_rfl
  · simp [Ans.no, Ans.run] at h


/-! loop.example/headtrees/laws.markIntS -/

def laws_markIntS_an : Ann := (.seq (.leaf [0, 1]) (.seq (.seq (.leaf [0, 1, 5]) (.block (.loop (.seq (.seq (.leaf [0, 1, 5, 9]) (.cond (.leaf [0, 1, 5]) (.leaf [1]))) (.seq (.block (.seq (.leaf [0, 1, 5]) (.leaf [0, 1, 5]))) (.leaf [0, 1, 5])))))) (.seq (.leaf [4]) (.leaf [4]))))

noncomputable def laws_markIntS_ctx : Ctx := ⟨tlook tys, olook [], ioF, 1, false, []⟩

theorem laws_markIntS_n1_l (x2982 : Int) (x2983 : List Int) : Link laws_markIntS_ctx LL (cq [0] (bodyOf Try.f22)) (aq [0] laws_markIntS_an) ⟨mkE 19 0 [(0, .slc 0), (1, dI x2982)], [some (sI x2983)]⟩ (laws_markIntS_n1) (fun (t : Unit) => (Exit.normal, ⟨mkE 19 0 [(0, .slc 0), (1, dI x2982)], [some (sI x2983)]⟩)) := by
  refine Link.of fun K h => ?_
  simp only [laws_markIntS_n1, wpO_bind, wpO_cond, wpO_map, wpO_some] at h
  exact Awp.of (by kernel_rfl) h

theorem laws_markIntS_n2_l (x2982 : Int) (x2983 : List Int) : Link laws_markIntS_ctx LL (cq [0,0,1] (bodyOf Try.f22)) (aq [0,0,1] laws_markIntS_an) ⟨mkE 19 0 [(0, .slc 0), (1, dI x2982)], [some (sI x2983)]⟩ (laws_markIntS_n2) (fun (t : Unit) => (Exit.normal, ⟨mkE 19 0 [(0, .slc 0), (1, dI x2982), (5, dI 0)], [some (sI x2983)]⟩)) := by
  refine Link.of fun K h => ?_
  simp only [laws_markIntS_n2, wpO_bind, wpO_cond, wpO_map, wpO_some] at h
  exact Awp.of (by kernel_rfl) h

theorem laws_markIntS_n3_l (x2997 : Int) (x2998 : Int) (x2999 : List Int) : Link laws_markIntS_ctx LL (cq [0,0,1,0,1] (bodyOf Try.f22)) (aq [0,0,1,0,1] laws_markIntS_an) ⟨mkE 19 0 [(0, .slc 0), (1, dI x2997), (5, dI x2998)], [some (sI x2999)]⟩ (laws_markIntS_n3 x2997 x2998 x2999) (Sum.elim (fun (t : Int × Int × (List Int)) => (Exit.normal, ⟨mkE 19 0 [(0, .slc 0), (1, dI t.1), (5, dI t.2.1)], [some (sI t.2.2)]⟩)) (fun (t : Int × (List Int)) => ((Exit.exit 0), ⟨mkE 19 0 [(1, dI t.1)], [some (sI t.2)]⟩))) := by
  refine Link.of fun K h => ?_
  simp only [laws_markIntS_n3, wpO_bind, wpO_cond, wpO_map, wpO_some] at h
  exact Awp.of (by kernel_rfl) h

def laws_markIntS_n4_l (x2982 : Int) (x2983 : List Int) := (link_loop (mk := fun (s : Int × Int × (List Int)) => ⟨mkE 19 0 [(0, .slc 0), (1, dI s.1), (5, dI s.2.1)], [some (sI s.2.2)]⟩) (fin := (fun (t : Int × (List Int)) => ((Exit.exit 0), ⟨mkE 19 0 [(1, dI t.1)], [some (sI t.2)]⟩))) (by
  rintro t f K h
  · exact h) (fun s => link_map (laws_markIntS_n3_l s.1 s.2.1 s.2.2) (Sum.elim (fun (t : Int × Int × (List Int)) => Sum.inl (t.1, t.2.1, t.2.2)) (fun (t : Int × (List Int)) => Sum.inr t)) (by
  rintro (t | t)
  · kernel_rfl
  · kernel_rfl)) (x2982, 0, x2983))

def laws_markIntS_n5_l (x2982 : Int) (x2983 : List Int) := (link_block (fin2 := (fun (t : Int × (List Int)) => (Exit.normal, ⟨mkE 19 0 [(1, dI t.1)], [some (sI t.2)]⟩))) (id := 0) (laws_markIntS_n4_l x2982 x2983) (fun (t : Int × (List Int)) => (t.1, t.2)) (by
  rintro t K h
  · exact Eq.mp (by kernel_rfl) h))

def laws_markIntS_n6_l (x2982 : Int) (x2983 : List Int) := (link_seq (laws_markIntS_n2_l x2982 x2983) (fun (t : Unit) => (laws_markIntS_n5_l x2982 x2983)))

theorem laws_markIntS_n7_l (x2997 : Int) (x2999 : List Int) : Link laws_markIntS_ctx LL (cq [1,1] (bodyOf Try.f22)) (aq [1,1] laws_markIntS_an) ⟨mkE 19 0 [(1, dI x2997)], [some (sI x2999)]⟩ (laws_markIntS_n7 x2997 x2999) (fun (t : Int × (List Int)) => (Exit.ret, ⟨mkE 19 0 [(4, dI t.1)], [some (sI t.2)]⟩)) := by
  refine Link.of fun K h => ?_
  simp only [laws_markIntS_n7, wpO_bind, wpO_cond, wpO_map, wpO_some] at h
  exact Awp.of (by kernel_rfl) h

def laws_markIntS_n8_l (x2982 : Int) (x2983 : List Int) := (link_seq (laws_markIntS_n6_l x2982 x2983) (fun (t : Int × (List Int)) => (laws_markIntS_n7_l t.1 t.2)))

def laws_markIntS_n9_l (x2982 : Int) (x2983 : List Int) := (link_seq (laws_markIntS_n1_l x2982 x2983) (fun (t : Unit) => (laws_markIntS_n8_l x2982 x2983)))

theorem laws_markIntS_e (x2982 : Int) (x2983 : List Int) {r : AV} {H' : Heap} (h : (Ans.mk _ (laws_markIntS x2982 x2983) (fun (t : Int × (List Int)) => (dI t.1, [some (sI t.2)])) [] none).run = some (r, H')) : Awp laws_markIntS_ctx LL (bodyOf Try.f22) laws_markIntS_an ⟨mkE 19 0 [(0, .slc 0), (1, dI x2982)], [some (sI x2983)]⟩ (Ret (tlook tys) Try.f22.results.toList r H') :=
  ret_of' (Link.cast (by kernel_rfl) (by kernel_rfl) (laws_markIntS_n9_l x2982 x2983)) (by unfold laws_markIntS; kernel_rfl) (by
  intro t
  exact ret_mk [dI t.1] (by kernel_rfl) (by kernel_rfl) (by kernel_rfl) (by kernel_rfl)) h

def F_laws_markIntS : Fun := fun avs H =>
  match avs, H with
  | [.slc 0, .dat (.int .i64) x2982], [some (.seq (.int .i64) x2983)] => ⟨_, laws_markIntS x2982 x2983, fun (t : Int × (List Int)) => (dI t.1, [some (sI t.2)]), [], none⟩
  | _, _ => Ans.no

theorem laws_markIntS_sound : Sound Try.prog 22 F_laws_markIntS := by
  refine fn_sound' (C := laws_markIntS_ctx) (c := bodyOf Try.f22) (cok_of tys_ok (alln) (alln) (by kernel_rfl)) Try.func22 (by kernel_rfl) LL laws_markIntS_an ?_
  intro avs H r H' h
  unfold F_laws_markIntS at h
  split at h
  · refine Awp.cast ?_ ?_ ?_ (laws_markIntS_e _ _ h) <;> kernel_rfl
  · simp [Ans.no, Ans.run] at h


/-! loop.example/headtrees/laws.heldIntS -/

def laws_heldIntS_an : Ann := (.seq (.leaf [0, 1]) (.seq (.seq (.leaf [0, 1, 5]) (.block (.loop (.seq (.seq (.leaf [0, 1, 5, 9]) (.cond (.leaf [0, 1, 5]) (.leaf [1]))) (.seq (.block (.seq (.seq (.leaf [0, 1, 5, 17]) (.cond (.seq (.leaf [4]) (.leaf [4])) (.leaf [0, 1, 5]))) (.leaf [0, 1, 5]))) (.leaf [0, 1, 5])))))) (.seq (.leaf [4]) (.leaf [4]))))

noncomputable def laws_heldIntS_ctx : Ctx := ⟨tlook tys, olook [], ioF, 0, false, []⟩

theorem laws_heldIntS_n1_l (x3140 : List Int) (x3141 : Int) : Link laws_heldIntS_ctx LL (cq [0] (bodyOf Try.f23)) (aq [0] laws_heldIntS_an) ⟨mkE 21 0 [(0, dL x3140), (1, dI x3141)], []⟩ (laws_heldIntS_n1) (fun (t : Unit) => (Exit.normal, ⟨mkE 21 0 [(0, dL x3140), (1, dI x3141)], []⟩)) := by
  refine Link.of fun K h => ?_
  simp only [laws_heldIntS_n1, wpO_bind, wpO_cond, wpO_map, wpO_some] at h
  exact Awp.of (by kernel_rfl) h

theorem laws_heldIntS_n2_l (x3140 : List Int) (x3141 : Int) : Link laws_heldIntS_ctx LL (cq [0,0,1] (bodyOf Try.f23)) (aq [0,0,1] laws_heldIntS_an) ⟨mkE 21 0 [(0, dL x3140), (1, dI x3141)], []⟩ (laws_heldIntS_n2) (fun (t : Unit) => (Exit.normal, ⟨mkE 21 0 [(0, dL x3140), (1, dI x3141), (5, dI 0)], []⟩)) := by
  refine Link.of fun K h => ?_
  simp only [laws_heldIntS_n2, wpO_bind, wpO_cond, wpO_map, wpO_some] at h
  exact Awp.of (by kernel_rfl) h

theorem laws_heldIntS_n3_l (x3140 : List Int) (x3155 : Int) (x3156 : Int) : Link laws_heldIntS_ctx LL (cq [0,0,1,0,1] (bodyOf Try.f23)) (aq [0,0,1,0,1] laws_heldIntS_an) ⟨mkE 21 0 [(0, dL x3140), (1, dI x3155), (5, dI x3156)], []⟩ (laws_heldIntS_n3 x3140 x3155 x3156) (Sum.elim (fun (t : Int × Int) => (Exit.normal, ⟨mkE 21 0 [(0, dL x3140), (1, dI t.1), (5, dI t.2)], []⟩)) (Sum.elim (fun (t : Int) => (Exit.ret, ⟨mkE 21 0 [(4, dI t)], []⟩)) (fun (t : Int) => ((Exit.exit 0), ⟨mkE 21 0 [(1, dI t)], []⟩)))) := by
  refine Link.of fun K h => ?_
  simp only [laws_heldIntS_n3, wpO_bind, wpO_cond, wpO_map, wpO_some] at h
  exact Awp.of (by kernel_rfl) h

def laws_heldIntS_n4_l (x3140 : List Int) (x3141 : Int) := (link_loop (mk := fun (s : Int × Int) => ⟨mkE 21 0 [(0, dL x3140), (1, dI s.1), (5, dI s.2)], []⟩) (fin := (Sum.elim (fun (t : Int) => (Exit.ret, ⟨mkE 21 0 [(4, dI t)], []⟩)) (fun (t : Int) => ((Exit.exit 0), ⟨mkE 21 0 [(1, dI t)], []⟩)))) (by
  rintro (t | t) f K h
  · exact h
  · exact h) (fun s => link_map (laws_heldIntS_n3_l x3140 s.1 s.2) (Sum.elim (fun (t : Int × Int) => Sum.inl (t.1, t.2)) (Sum.elim (fun (t : Int) => Sum.inr (Sum.inl t)) (fun (t : Int) => Sum.inr (Sum.inr t)))) (by
  rintro (t | t | t)
  · kernel_rfl
  · kernel_rfl
  · kernel_rfl)) (x3141, 0))

def laws_heldIntS_n5_l (x3140 : List Int) (x3141 : Int) := (link_block (fin2 := (Sum.elim (fun (t : Int) => (Exit.normal, ⟨mkE 21 0 [(1, dI t)], []⟩)) (fun (t : Int) => (Exit.ret, ⟨mkE 21 0 [(4, dI t)], []⟩)))) (id := 0) (laws_heldIntS_n4_l x3140 x3141) (Sum.elim (fun (t : Int) => (Sum.inr t)) (fun (t : Int) => (Sum.inl t))) (by
  rintro (t | t) K h
  · exact Eq.mp (by kernel_rfl) h
  · exact Eq.mp (by kernel_rfl) h))

def laws_heldIntS_n6_l (x3140 : List Int) (x3141 : Int) := (link_seq (laws_heldIntS_n2_l x3140 x3141) (fun (t : Unit) => (laws_heldIntS_n5_l x3140 x3141)))

theorem laws_heldIntS_n7_l (x3155 : Int) : Link laws_heldIntS_ctx LL (cq [1,1] (bodyOf Try.f23)) (aq [1,1] laws_heldIntS_an) ⟨mkE 21 0 [(1, dI x3155)], []⟩ (laws_heldIntS_n7 x3155) (fun (t : Int) => (Exit.ret, ⟨mkE 21 0 [(4, dI t)], []⟩)) := by
  refine Link.of fun K h => ?_
  simp only [laws_heldIntS_n7, wpO_bind, wpO_cond, wpO_map, wpO_some] at h
  exact Awp.of (by kernel_rfl) h

def laws_heldIntS_n8_l (x3140 : List Int) (x3141 : Int) := (link_seq2 (laws_heldIntS_n6_l x3140 x3141) (fun (t : Int) => (laws_heldIntS_n7_l t)) (fun (t : Int) => t) (by
  rintro t
  · kernel_rfl) (by
  rintro t f K h
  · exact h))

def laws_heldIntS_n9_l (x3140 : List Int) (x3141 : Int) := (link_seq (laws_heldIntS_n1_l x3140 x3141) (fun (t : Unit) => (laws_heldIntS_n8_l x3140 x3141)))

theorem laws_heldIntS_e (x3140 : List Int) (x3141 : Int) {r : AV} {H' : Heap} (h : (Ans.mk _ (laws_heldIntS x3140 x3141) (fun (t : Int) => (dI t, [])) [] none).run = some (r, H')) : Awp laws_heldIntS_ctx LL (bodyOf Try.f23) laws_heldIntS_an ⟨mkE 21 0 [(0, dL x3140), (1, dI x3141)], []⟩ (Ret (tlook tys) Try.f23.results.toList r H') :=
  ret_of' (Link.cast (by kernel_rfl) (by kernel_rfl) (laws_heldIntS_n9_l x3140 x3141)) (by unfold laws_heldIntS; kernel_rfl) (by
  intro t
  exact ret_mk [dI t] (by kernel_rfl) (by kernel_rfl) (by kernel_rfl) (by kernel_rfl)) h

def F_laws_heldIntS : Fun := fun avs H =>
  match avs, H with
  | [.dat (.list (.int .i64)) x3140, .dat (.int .i64) x3141], [] => ⟨_, laws_heldIntS x3140 x3141, fun (t : Int) => (dI t, []), [], none⟩
  | _, _ => Ans.no

theorem laws_heldIntS_sound : Sound Try.prog 23 F_laws_heldIntS := by
  refine fn_sound' (C := laws_heldIntS_ctx) (c := bodyOf Try.f23) (cok_of tys_ok (alln) (alln) (by kernel_rfl)) Try.func23 (by kernel_rfl) LL laws_heldIntS_an ?_
  intro avs H r H' h
  unfold F_laws_heldIntS at h
  split at h
  · refine Awp.cast ?_ ?_ ?_ (laws_heldIntS_e _ _ h) <;> kernel_rfl
  · simp [Ans.no, Ans.run] at h


/-! loop.example/headtrees/laws.FnExactExchangedAt -/

def laws_FnExactExchangedAt_an : Ann := (.seq (.leaf [0, 1]) (.seq (.seq (.leaf [0, 1, 17]) (.cond (.seq (.leaf [4]) (.leaf [4])) (.leaf [0, 1]))) (.seq (.leaf [0, 1, 5, 6]) (.seq (.leaf [0, 1, 5, 6, 7]) (.seq (.leaf [0, 1, 5, 6, 7, 8, 9]) (.seq (.seq (.leaf [0, 1, 5, 6, 7, 8, 9, 41]) (.cond (.seq (.leaf [4]) (.leaf [4])) (.leaf [0, 1, 5, 6, 7, 8, 9]))) (.seq (.seq (.leaf [0, 1, 5, 6, 7, 8, 9, 46]) (.cond (.seq (.leaf [4]) (.leaf [4])) (.leaf [0, 1, 5, 6, 7, 8, 9]))) (.seq (.leaf [0, 1, 5, 6, 7, 8, 9, 10]) (.seq (.leaf [0, 1, 5, 6, 8, 9, 10]) (.seq (.seq (.leaf [0, 1, 5, 6, 8, 62]) (.cond (.seq (.leaf [4]) (.leaf [4])) (.leaf [0, 1, 5, 6, 8]))) (.seq (.leaf [0, 1, 5, 6, 8, 11]) (.seq (.leaf [0, 1, 5, 6, 8, 11]) (.seq (.leaf [0, 1, 5, 6, 8, 11, 12]) (.seq (.leaf [0, 1, 5, 6, 8, 11, 12]) (.seq (.seq (.leaf [0, 1, 5, 6, 8, 11, 12, 70]) (.cond (.seq (.leaf [4]) (.leaf [4])) (.leaf [0, 1, 5, 6, 8, 11, 12]))) (.seq (.seq (.leaf [0, 1, 5, 6, 8, 11, 73]) (.cond (.seq (.leaf [4]) (.leaf [4])) (.leaf [0, 1, 5, 6, 8, 11]))) (.seq (.leaf [5, 6, 8, 11, 13, 14]) (.seq (.seq (.leaf [8, 11, 89]) (.cond (.seq (.leaf [4]) (.leaf [4])) (.leaf [8, 11]))) (.seq (.leaf [8, 11, 12]) (.seq (.leaf [11, 12]) (.seq (.seq (.leaf [11, 12, 94]) (.cond (.seq (.leaf [4]) (.leaf [4])) (.leaf [11, 12]))) (.seq (.seq (.leaf [97]) (.cond (.seq (.leaf [4]) (.leaf [4])) (.leaf []))) (.seq (.leaf [4]) (.leaf [4]))))))))))))))))))))))))

noncomputable def laws_FnExactExchangedAt_ctx : Ctx := ⟨tlook tys, olook [(19, F_laws_toIntS), (15, F_spec_ExchangedAt), (14, F_impl_ExchangedAt), (21, F_laws_eqIntS), (22, F_laws_markIntS), (23, F_laws_heldIntS)], ioF, 0, false, []⟩

theorem laws_FnExactExchangedAt_n1_l (x2894 : List Int) (x2895 : Int) : Link laws_FnExactExchangedAt_ctx LL (bodyOf Try.f7) laws_FnExactExchangedAt_an ⟨mkE 98 0 [(0, dL x2894), (1, dI x2895)], []⟩ (laws_FnExactExchangedAt_n1 x2894 x2895) (fun (t : Bool) => (Exit.ret, ⟨mkE 98 0 [(4, dB t)], []⟩)) := by
  refine Link.of fun K h => ?_
  simp only [laws_FnExactExchangedAt_n1, wpO_bind, wpO_cond, wpO_map, wpO_some] at h
  exact Awp.of (by kernel_rfl) h

theorem laws_FnExactExchangedAt_e (x2894 : List Int) (x2895 : Int) {r : AV} {H' : Heap} (h : (Ans.mk _ (laws_FnExactExchangedAt x2894 x2895) (fun (t : Bool) => (dB t, [])) [] none).run = some (r, H')) : Awp laws_FnExactExchangedAt_ctx LL (bodyOf Try.f7) laws_FnExactExchangedAt_an ⟨mkE 98 0 [(0, dL x2894), (1, dI x2895)], []⟩ (Ret (tlook tys) Try.f7.results.toList r H') :=
  ret_of' (laws_FnExactExchangedAt_n1_l x2894 x2895) (by unfold laws_FnExactExchangedAt; kernel_rfl) (by
  intro t
  exact ret_mk [dB t] (by kernel_rfl) (by kernel_rfl) (by kernel_rfl) (by kernel_rfl)) h

def F_laws_FnExactExchangedAt : Fun := fun avs H =>
  match avs, H with
  | [.dat (.list (.int .i64)) x2894, .dat (.int .i64) x2895], [] => ⟨_, laws_FnExactExchangedAt x2894 x2895, fun (t : Bool) => (dB t, []), [], none⟩
  | _, _ => Ans.no

theorem laws_FnExactExchangedAt_sound : Sound Try.prog 7 F_laws_FnExactExchangedAt := by
  refine fn_sound' (C := laws_FnExactExchangedAt_ctx) (c := bodyOf Try.f7) (cok_of tys_ok (allc laws_toIntS_sound (allc spec_ExchangedAt_sound (allc impl_ExchangedAt_sound (allc laws_eqIntS_sound (allc laws_markIntS_sound (allc laws_heldIntS_sound alln)))))) (allc Try.call19 (allc Try.call15 (allc Try.call14 (allc Try.call21 (allc Try.call22 (allc Try.call23 alln)))))) (by kernel_rfl)) Try.func7 (by kernel_rfl) LL laws_FnExactExchangedAt_an ?_
  intro avs H r H' h
  unfold F_laws_FnExactExchangedAt at h
  split at h
  · refine Awp.cast ?_ ?_ ?_ (laws_FnExactExchangedAt_e _ _ h) <;> kernel_rfl
  · simp [Ans.no, Ans.run] at h

end Go.Rv
