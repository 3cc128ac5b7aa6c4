/-
  The checked code answers as the plain functions do; written by program. Conditions: none.
-/
import Derived.Test.YtiokdplogigiaaaGN
import Derived.Test.YtiokdplogigiaaaProg
set_option linter.unusedVariables false
set_option linter.unusedSimpArgs false
set_option maxRecDepth 100000
namespace Go.Rv
open Go.Proofs
theorem ty3 : TIOk Try.prog 3 ⟨.int .i64, 1, 8, some (.int .i64), [.int .i64 0]⟩ := ⟨⟨infoOf (Try.prog.info? 3), by kernel_rfl, by kernel_rfl, by kernel_rfl, .int .i64 0, by kernel_rfl, by kernel_rfl⟩, (by kernel_rfl : Try.prog.underlying 3 = some (.int .i64))⟩
theorem ty4 : TIOk Try.prog 4 ⟨.bool, 1, 1, some .bool, [.bool false]⟩ := ⟨⟨infoOf (Try.prog.info? 4), by kernel_rfl, by kernel_rfl, by kernel_rfl, .bool false, by kernel_rfl, by kernel_rfl⟩, (by kernel_rfl : Try.prog.underlying 4 = some .bool)⟩
theorem ty5 : TIOk Try.prog 5 ⟨.int .u8, 1, 1, some (.int .u8), [.int .u8 0]⟩ := ⟨⟨infoOf (Try.prog.info? 5), by kernel_rfl, by kernel_rfl, by kernel_rfl, .int .u8 0, by kernel_rfl, by kernel_rfl⟩, (by kernel_rfl : Try.prog.underlying 5 = some (.int .u8))⟩
theorem ty9 : TIOk Try.prog 9 ⟨.str, 1, 16, some .str, [.string ByteArray.empty]⟩ := ⟨⟨infoOf (Try.prog.info? 9), by kernel_rfl, by kernel_rfl, by kernel_rfl, .string ByteArray.empty, by kernel_rfl, by kernel_rfl⟩, (by kernel_rfl : Try.prog.underlying 9 = some .string)⟩
theorem ty22 : TIOk Try.prog 22 ⟨.slice 5, 1, 24, some (.list (.int .u8)), [.slice none 0 0]⟩ := ⟨⟨infoOf (Try.prog.info? 22), by kernel_rfl, by kernel_rfl, by kernel_rfl, .slice none 0 0, by kernel_rfl, by kernel_rfl⟩, (by kernel_rfl : Try.prog.underlying 22 = some (.slice 5))⟩
theorem ty28 : TIOk Try.prog 28 ⟨.slice 3, 1, 24, some (.list (.int .i64)), [.slice none 0 0]⟩ := ⟨⟨infoOf (Try.prog.info? 28), by kernel_rfl, by kernel_rfl, by kernel_rfl, .slice none 0 0, by kernel_rfl, by kernel_rfl⟩, (by kernel_rfl : Try.prog.underlying 28 = some (.slice 3))⟩
theorem ty38 : TIOk Try.prog 38 ⟨.strct [(0, 28), (1, 28), (2, 3), (3, 3)], 4, 64, some (.pair (.list (.int .i64)) (.pair (.list (.int .i64)) (.pair (.int .i64) (.pair (.int .i64) .unit)))), [.slice none 0 0, .slice none 0 0, .int .i64 0, .int .i64 0]⟩ := ⟨⟨infoOf (Try.prog.info? 38), by kernel_rfl, by kernel_rfl, by kernel_rfl, .agg #[.slice none 0 0, .slice none 0 0, .int .i64 0, .int .i64 0], by kernel_rfl, by kernel_rfl⟩, ⟨fieldsOf (Try.prog.underlying 38), by kernel_rfl, by kernel_rfl⟩⟩
theorem ty43 : TIOk Try.prog 43 ⟨.meths [("loop.example/headtrees/impl.putNext", 37)], 1, 8, none, [.pointer none]⟩ := ⟨⟨infoOf (Try.prog.info? 43), by kernel_rfl, by kernel_rfl, by kernel_rfl, .pointer none, by kernel_rfl, by kernel_rfl⟩, ⟨⟨51, by kernel_rfl⟩, by kernel_rfl⟩⟩
theorem ty46 : TIOk Try.prog 46 ⟨.map 5 62, 1, 8, none, [.map none]⟩ := ⟨⟨infoOf (Try.prog.info? 46), by kernel_rfl, by kernel_rfl, by kernel_rfl, .map none, by kernel_rfl, by kernel_rfl⟩, (by kernel_rfl : Try.prog.underlying 46 = some (.map 5 62))⟩
theorem ty49 : TIOk Try.prog 49 ⟨.int .u64, 1, 8, some (.int .u64), [.int .u64 0]⟩ := ⟨⟨infoOf (Try.prog.info? 49), by kernel_rfl, by kernel_rfl, by kernel_rfl, .int .u64 0, by kernel_rfl, by kernel_rfl⟩, (by kernel_rfl : Try.prog.underlying 49 = some (.int .u64))⟩
theorem ty51 : TIOk Try.prog 51 ⟨.strct [(0, 38), (4, 49)], 5, 72, some (.pair (.pair (.list (.int .i64)) (.pair (.list (.int .i64)) (.pair (.int .i64) (.pair (.int .i64) .unit)))) (.pair (.int .u64) .unit)), [.slice none 0 0, .slice none 0 0, .int .i64 0, .int .i64 0, .int .u64 0]⟩ := ⟨⟨infoOf (Try.prog.info? 51), by kernel_rfl, by kernel_rfl, by kernel_rfl, .agg #[.slice none 0 0, .slice none 0 0, .int .i64 0, .int .i64 0, .int .u64 0], by kernel_rfl, by kernel_rfl⟩, ⟨fieldsOf (Try.prog.underlying 51), by kernel_rfl, by kernel_rfl⟩⟩
theorem ty58 : TIOk Try.prog 58 ⟨.map 5 69, 1, 8, none, [.map none]⟩ := ⟨⟨infoOf (Try.prog.info? 58), by kernel_rfl, by kernel_rfl, by kernel_rfl, .map none, by kernel_rfl, by kernel_rfl⟩, (by kernel_rfl : Try.prog.underlying 58 = some (.map 5 69))⟩
theorem ty62 : TIOk Try.prog 62 ⟨.scalar, 1, 8, none, [.nilFunc]⟩ := ⟨⟨infoOf (Try.prog.info? 62), by kernel_rfl, by kernel_rfl, by kernel_rfl, .nilFunc, by kernel_rfl, by kernel_rfl⟩, ⟨descOf (Try.prog.underlying 62), by kernel_rfl, by kernel_rfl⟩⟩
theorem ty66 : TIOk Try.prog 66 ⟨.strct [(0, 22), (1, 3)], 2, 32, some (.pair (.list (.int .u8)) (.pair (.int .i64) .unit)), [.slice none 0 0, .int .i64 0]⟩ := ⟨⟨infoOf (Try.prog.info? 66), by kernel_rfl, by kernel_rfl, by kernel_rfl, .agg #[.slice none 0 0, .int .i64 0], by kernel_rfl, by kernel_rfl⟩, ⟨fieldsOf (Try.prog.underlying 66), by kernel_rfl, by kernel_rfl⟩⟩
theorem ty67 : TIOk Try.prog 67 ⟨.slice 9, 1, 24, some (.list .str), [.slice none 0 0]⟩ := ⟨⟨infoOf (Try.prog.info? 67), by kernel_rfl, by kernel_rfl, by kernel_rfl, .slice none 0 0, by kernel_rfl, by kernel_rfl⟩, (by kernel_rfl : Try.prog.underlying 67 = some (.slice 9))⟩
theorem ty69 : TIOk Try.prog 69 ⟨.scalar, 1, 8, none, [.nilFunc]⟩ := ⟨⟨infoOf (Try.prog.info? 69), by kernel_rfl, by kernel_rfl, by kernel_rfl, .nilFunc, by kernel_rfl, by kernel_rfl⟩, ⟨descOf (Try.prog.underlying 69), by kernel_rfl, by kernel_rfl⟩⟩
theorem ty72 : TIOk Try.prog 72 ⟨.strct [(0, 28), (1, 3), (2, 3)], 3, 40, some (.pair (.list (.int .i64)) (.pair (.int .i64) (.pair (.int .i64) .unit))), [.slice none 0 0, .int .i64 0, .int .i64 0]⟩ := ⟨⟨infoOf (Try.prog.info? 72), by kernel_rfl, by kernel_rfl, by kernel_rfl, .agg #[.slice none 0 0, .int .i64 0, .int .i64 0], by kernel_rfl, by kernel_rfl⟩, ⟨fieldsOf (Try.prog.underlying 72), by kernel_rfl, by kernel_rfl⟩⟩
theorem ty83 : TIOk Try.prog 83 ⟨.int .u64, 1, 8, some (.int .u64), [.int .u64 0]⟩ := ⟨⟨infoOf (Try.prog.info? 83), by kernel_rfl, by kernel_rfl, by kernel_rfl, .int .u64 0, by kernel_rfl, by kernel_rfl⟩, (by kernel_rfl : Try.prog.underlying 83 = some (.int .u64))⟩
def tys : List (TypeId × TI) := [(3, ⟨.int .i64, 1, 8, some (.int .i64), [.int .i64 0]⟩), (4, ⟨.bool, 1, 1, some .bool, [.bool false]⟩), (5, ⟨.int .u8, 1, 1, some (.int .u8), [.int .u8 0]⟩), (9, ⟨.str, 1, 16, some .str, [.string ByteArray.empty]⟩), (22, ⟨.slice 5, 1, 24, some (.list (.int .u8)), [.slice none 0 0]⟩), (28, ⟨.slice 3, 1, 24, some (.list (.int .i64)), [.slice none 0 0]⟩), (38, ⟨.strct [(0, 28), (1, 28), (2, 3), (3, 3)], 4, 64, some (.pair (.list (.int .i64)) (.pair (.list (.int .i64)) (.pair (.int .i64) (.pair (.int .i64) .unit)))), [.slice none 0 0, .slice none 0 0, .int .i64 0, .int .i64 0]⟩), (43, ⟨.meths [("loop.example/headtrees/impl.putNext", 37)], 1, 8, none, [.pointer none]⟩), (46, ⟨.map 5 62, 1, 8, none, [.map none]⟩), (49, ⟨.int .u64, 1, 8, some (.int .u64), [.int .u64 0]⟩), (51, ⟨.strct [(0, 38), (4, 49)], 5, 72, some (.pair (.pair (.list (.int .i64)) (.pair (.list (.int .i64)) (.pair (.int .i64) (.pair (.int .i64) .unit)))) (.pair (.int .u64) .unit)), [.slice none 0 0, .slice none 0 0, .int .i64 0, .int .i64 0, .int .u64 0]⟩), (58, ⟨.map 5 69, 1, 8, none, [.map none]⟩), (62, ⟨.scalar, 1, 8, none, [.nilFunc]⟩), (66, ⟨.strct [(0, 22), (1, 3)], 2, 32, some (.pair (.list (.int .u8)) (.pair (.int .i64) .unit)), [.slice none 0 0, .int .i64 0]⟩), (67, ⟨.slice 9, 1, 24, some (.list .str), [.slice none 0 0]⟩), (69, ⟨.scalar, 1, 8, none, [.nilFunc]⟩), (72, ⟨.strct [(0, 28), (1, 3), (2, 3)], 3, 40, some (.pair (.list (.int .i64)) (.pair (.int .i64) (.pair (.int .i64) .unit))), [.slice none 0 0, .int .i64 0, .int .i64 0]⟩), (83, ⟨.int .u64, 1, 8, some (.int .u64), [.int .u64 0]⟩)]
theorem tys_ok : TOk Try.prog (tlook tys) := tok_of (List.forall_mem_cons.2 ⟨ty3, List.forall_mem_cons.2 ⟨ty4, List.forall_mem_cons.2 ⟨ty5, List.forall_mem_cons.2 ⟨ty9, List.forall_mem_cons.2 ⟨ty22, List.forall_mem_cons.2 ⟨ty28, List.forall_mem_cons.2 ⟨ty38, List.forall_mem_cons.2 ⟨ty43, List.forall_mem_cons.2 ⟨ty46, List.forall_mem_cons.2 ⟨ty49, List.forall_mem_cons.2 ⟨ty51, List.forall_mem_cons.2 ⟨ty58, List.forall_mem_cons.2 ⟨ty62, List.forall_mem_cons.2 ⟨ty66, List.forall_mem_cons.2 ⟨ty67, List.forall_mem_cons.2 ⟨ty69, List.forall_mem_cons.2 ⟨ty72, List.forall_mem_cons.2 ⟨ty83, by simp⟩⟩⟩⟩⟩⟩⟩⟩⟩⟩⟩⟩⟩⟩⟩⟩⟩⟩)
def ioF (f : FuncId) (i : Nat) : Bool := [(14, 0), (23, 0)].any fun (p : Nat × Nat) => Nat.beq p.1 f && Nat.beq p.2 i


/-! loop.example/headtrees/impl.newStackMachine -/

def impl_newStackMachine_an : Ann := (.seq (.leaf [0]) (.seq (.leaf [2]) (.leaf [2])))

noncomputable def impl_newStackMachine_ctx : Ctx := ⟨tlook tys, olook [], ioF, 0, false, []⟩

theorem impl_newStackMachine_n1_l (x917 : Int) : Link impl_newStackMachine_ctx LL (bodyOf Try.f31) impl_newStackMachine_an (⟨mkE 7 0 [(0, .dat (.int .i64) x917)], []⟩ : St) (impl_newStackMachine_n1 x917) (fun (t : (List Int)) => (Exit.ret, (⟨mkE 7 0 [(2, .ptr 0 0)], [some (.box [.slc 1, .nils, .dat (.int .i64) 0, .dat (.int .i64) 0]), some (.seq (.int .i64) t)]⟩ : St))) := by
  refine Link.of fun K h => ?_
  simp only [impl_newStackMachine_n1, wpO_bind, wpO_cond, wpO_map, wpO_some] at h
  exact Awp.of (by kernel_rfl) h

theorem impl_newStackMachine_e (x917 : Int) {r : AV} {H' : Heap} (h : (Ans.mk _ (impl_newStackMachine x917) (fun (t : (List Int)) => (.ptr 0 0, [some (.box [.slc 1, .nils, .dat (.int .i64) 0, .dat (.int .i64) 0]), some (.seq (.int .i64) t)])) [] none).run = some (r, H')) : Awp impl_newStackMachine_ctx LL (bodyOf Try.f31) impl_newStackMachine_an (⟨mkE 7 0 [(0, .dat (.int .i64) x917)], []⟩ : St) (Ret (tlook tys) Try.f31.results.toList r H') :=
  ret_of' (impl_newStackMachine_n1_l x917) (by unfold impl_newStackMachine; kernel_rfl) (by
  intro t
  exact ret_mk [.ptr 0 0] (by kernel_rfl) (by kernel_rfl) (by kernel_rfl) (by kernel_rfl)) h

def F_impl_newStackMachine : Fun := fun avs H =>
  match avs, H with
  | [.dat (.int .i64) x917], [] => ⟨_, impl_newStackMachine x917, fun (t : (List Int)) => (.ptr 0 0, [some (.box [.slc 1, .nils, .dat (.int .i64) 0, .dat (.int .i64) 0]), some (.seq (.int .i64) t)]), [], none⟩
  | _, _ => Ans.no

theorem impl_newStackMachine_sound : Sound Try.prog 31 F_impl_newStackMachine := by
  refine fn_sound' (C := impl_newStackMachine_ctx) (c := bodyOf Try.f31) (cok_of tys_ok (by simp) (by simp) (by kernel_rfl)) Try.func31 (by kernel_rfl) LL impl_newStackMachine_an ?_
  intro avs H r H' h
  unfold F_impl_newStackMachine at h
  split at h
  · refine Awp.cast ?_ ?_ ?_ (impl_newStackMachine_e _ h) <;> kernel_rfl
  · simp [Ans.no, Ans.run] at h


/-! loop.example/headtrees/spec.l1In -/

def spec_l1In_an : Ann := (.seq (.leaf [0, 1, 2]) (.seq (.leaf [6]) (.leaf [6])))

noncomputable def spec_l1In_ctx : Ctx := ⟨tlook tys, olook [], ioF, 0, false, []⟩

theorem spec_l1In_n1_l (x1559 : Int) (x1560 : Int) (x1561 : Int) : Link spec_l1In_ctx LL (bodyOf Try.f21) spec_l1In_an (⟨mkE 15 0 [(0, .dat (.int .i64) x1559), (1, .dat (.int .i64) x1560), (2, .dat (.int .i64) x1561)], []⟩ : St) (spec_l1In_n1 x1559 x1560 x1561) (fun (t : Bool) => (Exit.ret, (⟨mkE 15 0 [(6, .dat .bool t)], []⟩ : St))) := by
  refine Link.of fun K h => ?_
  simp only [spec_l1In_n1, wpO_bind, wpO_cond, wpO_map, wpO_some] at h
  exact Awp.of (by kernel_rfl) h

theorem spec_l1In_e (x1559 : Int) (x1560 : Int) (x1561 : Int) {r : AV} {H' : Heap} (h : (Ans.mk _ (spec_l1In x1559 x1560 x1561) (fun (t : Bool) => (.dat .bool t, [])) [] none).run = some (r, H')) : Awp spec_l1In_ctx LL (bodyOf Try.f21) spec_l1In_an (⟨mkE 15 0 [(0, .dat (.int .i64) x1559), (1, .dat (.int .i64) x1560), (2, .dat (.int .i64) x1561)], []⟩ : St) (Ret (tlook tys) Try.f21.results.toList r H') :=
  ret_of' (spec_l1In_n1_l x1559 x1560 x1561) (by unfold spec_l1In; kernel_rfl) (by
  intro t
  exact ret_mk [.dat .bool t] (by kernel_rfl) (by kernel_rfl) (by kernel_rfl) (by kernel_rfl)) h

def F_spec_l1In : Fun := fun avs H =>
  match avs, H with
  | [.dat (.int .i64) x1559, .dat (.int .i64) x1560, .dat (.int .i64) x1561], [] => ⟨_, spec_l1In x1559 x1560 x1561, fun (t : Bool) => (.dat .bool t, []), [], none⟩
  | _, _ => Ans.no

theorem spec_l1In_sound : Sound Try.prog 21 F_spec_l1In := by
  refine fn_sound' (C := spec_l1In_ctx) (c := bodyOf Try.f21) (cok_of tys_ok (by simp) (by simp) (by kernel_rfl)) Try.func21 (by kernel_rfl) LL spec_l1In_an ?_
  intro avs H r H' h
  unfold F_spec_l1In at h
  split at h
  · refine Awp.cast ?_ ?_ ?_ (spec_l1In_e _ _ _ h) <;> kernel_rfl
  · simp [Ans.no, Ans.run] at h


/-! (*loop.example/headtrees/impl.stackMachine).putNext (impl_stackMachine_putNext_v2) -/

def impl_stackMachine_putNext_v2_an : Ann := (.seq (.leaf [0]) (.seq (.seq (.draw [] [0, 1, 2, 3, 4, 5, 6, 7, 8, 9] [] [0, 12]) (.cond (.seq (.leaf [0, 2]) (.leaf [0, 2])) (.leaf [0]))) (.seq (.leaf [0]) (.seq (.draw [] [0, 1, 2, 3, 4, 5, 6, 7, 8, 9, 10, 11, 12, 13] [] [0]) (.seq (.draw [] [0, 1, 2, 3, 4, 5, 6, 7, 8, 9, 10, 11, 12, 13] [] [0]) (.seq (.leaf [0, 2]) (.leafF [⟨0, 0, true, some 1, none⟩] [0, 2])))))))

noncomputable def impl_stackMachine_putNext_v2_ctx : Ctx := ⟨tlook tys, olook [], ioF, 3, false, [2]⟩

theorem impl_stackMachine_putNext_v2_n1_l (x6220 : Nat) (x6221 : Nat) (x6222 : Int) (x6223 : Int) (x6224 : Int) (x6225 : List Int) (x6226 : List Int) : Link impl_stackMachine_putNext_v2_ctx LL (bodyOf Try.f37) impl_stackMachine_putNext_v2_an (⟨mkE 46 0 [(0, .ptr 0 0)], [some (.box [.slc 1, .win 2 x6220 x6221, .dat (.int .i64) x6222, .dat (.int .i64) x6223, .dat (.int .u64) x6224]), some (.seq (.int .i64) x6225), some (.seq (.int .i64) x6226)]⟩ : St) (impl_stackMachine_putNext_v2_n1 x6220 x6221 x6222 x6223 x6225 x6226) (fun (t : Bool × Nat × Nat × Int × Int × (List Int)) => (Exit.ret, (⟨mkE 46 0 [(0, .ptr 0 0), (2, .dat .bool t.1)], [some (.box [.slc 1, .win 2 t.2.1 t.2.2.1, .dat (.int .i64) t.2.2.2.1, .dat (.int .i64) t.2.2.2.2.1, .dat (.int .u64) x6224]), some (.seq (.int .i64) x6225), some (.seq (.int .i64) t.2.2.2.2.2)]⟩ : St))) := by
  refine Link.of fun K h => ?_
  simp only [impl_stackMachine_putNext_v2_n1, wpO_bind, wpO_cond, wpO_map, wpO_some] at h
  exact Awp.of (by kernel_rfl) h

theorem impl_stackMachine_putNext_v2_e (x6220 : Nat) (x6221 : Nat) (x6222 : Int) (x6223 : Int) (x6224 : Int) (x6225 : List Int) (x6226 : List Int) {r : AV} {H' : Heap} (h : (Ans.mk _ (impl_stackMachine_putNext_v2 x6220 x6221 x6222 x6223 x6224 x6225 x6226) (fun (t : Bool × Nat × Nat × Int × Int × (List Int)) => (.dat .bool t.1, [some (.box [.slc 1, .win 2 t.2.1 t.2.2.1, .dat (.int .i64) t.2.2.2.1, .dat (.int .i64) t.2.2.2.2.1, .dat (.int .u64) x6224]), some (.seq (.int .i64) x6225), some (.seq (.int .i64) t.2.2.2.2.2)])) [2] none).run = some (r, H')) : Awp impl_stackMachine_putNext_v2_ctx LL (bodyOf Try.f37) impl_stackMachine_putNext_v2_an (⟨mkE 46 0 [(0, .ptr 0 0)], [some (.box [.slc 1, .win 2 x6220 x6221, .dat (.int .i64) x6222, .dat (.int .i64) x6223, .dat (.int .u64) x6224]), some (.seq (.int .i64) x6225), some (.seq (.int .i64) x6226)]⟩ : St) (Ret (tlook tys) Try.f37.results.toList r H') :=
  ret_of' (impl_stackMachine_putNext_v2_n1_l x6220 x6221 x6222 x6223 x6224 x6225 x6226) (by unfold impl_stackMachine_putNext_v2; kernel_rfl) (by
  intro t
  exact ret_mk [.dat .bool t.1] (by kernel_rfl) (by kernel_rfl) (by kernel_rfl) (by kernel_rfl)) h

def F_impl_stackMachine_putNext_v2 : Fun := fun avs H =>
  match avs, H with
  | [.ptr 0 0], [some (.box [.slc 1, .win 2 x6220 x6221, .dat (.int .i64) x6222, .dat (.int .i64) x6223, .dat (.int .u64) x6224]), some (.seq (.int .i64) x6225), some (.seq (.int .i64) x6226)] => ⟨_, impl_stackMachine_putNext_v2 x6220 x6221 x6222 x6223 x6224 x6225 x6226, fun (t : Bool × Nat × Nat × Int × Int × (List Int)) => (.dat .bool t.1, [some (.box [.slc 1, .win 2 t.2.1 t.2.2.1, .dat (.int .i64) t.2.2.2.1, .dat (.int .i64) t.2.2.2.2.1, .dat (.int .u64) x6224]), some (.seq (.int .i64) x6225), some (.seq (.int .i64) t.2.2.2.2.2)]), [2], none⟩
  | _, _ => Ans.no

theorem impl_stackMachine_putNext_v2_sound : Sound Try.prog 37 F_impl_stackMachine_putNext_v2 := by
  refine fn_sound' (C := impl_stackMachine_putNext_v2_ctx) (c := bodyOf Try.f37) (cok_of tys_ok (by simp) (by simp) (by kernel_rfl)) Try.func37 (by kernel_rfl) LL impl_stackMachine_putNext_v2_an ?_
  intro avs H r H' h
  unfold F_impl_stackMachine_putNext_v2 at h
  split at h
  · refine Awp.cast ?_ ?_ ?_ (impl_stackMachine_putNext_v2_e _ _ _ _ _ _ _ h) <;> kernel_rfl
  · simp [Ans.no, Ans.run] at h


/-! loop.example/headtrees/laws.eqIntS -/

def laws_eqIntS_an : Ann := (.seq (.leaf [0, 1]) (.seq (.seq (.leaf [0, 1, 10]) (.cond (.seq (.leaf [4]) (.leaf [4])) (.leaf [0, 1]))) (.seq (.seq (.leaf [0, 1, 5]) (.block (.loop (.seq (.seq (.leaf [0, 1, 5, 14]) (.cond (.leaf [0, 1, 5]) (.leaf []))) (.seq (.block (.seq (.draw [] [0, 1, 2, 3, 4, 5, 6, 7, 8] [] [0, 1, 5, 25]) (.cond (.seq (.leaf [4]) (.leaf [4])) (.leaf [0, 1, 5])))) (.leaf [0, 1, 5])))))) (.seq (.leaf [4]) (.leaf [4])))))

noncomputable def laws_eqIntS_ctx : Ctx := ⟨tlook tys, olook [], ioF, 0, false, []⟩

theorem laws_eqIntS_n1_l (x3445 : List Int) (x3446 : List Int) : Link laws_eqIntS_ctx LL (Code.seq (Code.fst (bodyOf Try.f13)) (Code.fst (Code.snd (bodyOf Try.f13)))) (Ann.seq (Ann.fst laws_eqIntS_an) (Ann.fst (Ann.snd laws_eqIntS_an))) (⟨mkE 26 0 [(0, .dat (.list (.int .i64)) x3445), (1, .dat (.list (.int .i64)) x3446)], []⟩ : St) (laws_eqIntS_n1 x3445 x3446) (Sum.elim (fun (t : Unit) => (Exit.normal, (⟨mkE 26 0 [(0, .dat (.list (.int .i64)) x3445), (1, .dat (.list (.int .i64)) x3446)], []⟩ : St))) (fun (t : Bool) => (Exit.ret, (⟨mkE 26 0 [(4, .dat .bool t)], []⟩ : St)))) := by
  refine Link.of fun K h => ?_
  simp only [laws_eqIntS_n1, wpO_bind, wpO_cond, wpO_map, wpO_some] at h
  exact Awp.of (by kernel_rfl) h

theorem laws_eqIntS_n2_l (x3445 : List Int) (x3446 : List Int) : Link laws_eqIntS_ctx LL (Code.fst (Code.fst (Code.snd (Code.snd (bodyOf Try.f13))))) (Ann.fst (Ann.fst (Ann.snd (Ann.snd laws_eqIntS_an)))) (⟨mkE 26 0 [(0, .dat (.list (.int .i64)) x3445), (1, .dat (.list (.int .i64)) x3446)], []⟩ : St) (laws_eqIntS_n2) (fun (t : Unit) => (Exit.normal, (⟨mkE 26 0 [(0, .dat (.list (.int .i64)) x3445), (1, .dat (.list (.int .i64)) x3446), (5, .dat (.int .i64) 0)], []⟩ : St))) := by
  refine Link.of fun K h => ?_
  simp only [laws_eqIntS_n2, wpO_bind, wpO_cond, wpO_map, wpO_some] at h
  exact Awp.of (by kernel_rfl) h

theorem laws_eqIntS_n3_l (x3445 : List Int) (x3446 : List Int) (x3463 : Int) : Link laws_eqIntS_ctx LL (Code.fst (Code.fst (Code.snd (Code.fst (Code.snd (Code.snd (bodyOf Try.f13))))))) (Ann.fst (Ann.fst (Ann.snd (Ann.fst (Ann.snd (Ann.snd laws_eqIntS_an)))))) (⟨mkE 26 0 [(0, .dat (.list (.int .i64)) x3445), (1, .dat (.list (.int .i64)) x3446), (5, .dat (.int .i64) x3463)], []⟩ : St) (laws_eqIntS_n3 x3445 x3446 x3463) (Sum.elim (fun (t : Int) => (Exit.normal, (⟨mkE 26 0 [(0, .dat (.list (.int .i64)) x3445), (1, .dat (.list (.int .i64)) x3446), (5, .dat (.int .i64) t)], []⟩ : St))) (Sum.elim (fun (t : Bool) => (Exit.ret, (⟨mkE 26 0 [(4, .dat .bool t)], []⟩ : St))) (fun (t : Unit) => ((Exit.exit 0), (⟨mkE 26 0 [], []⟩ : St))))) := by
  refine Link.of fun K h => ?_
  simp only [laws_eqIntS_n3, wpO_bind, wpO_cond, wpO_map, wpO_some] at h
  exact Awp.of (by kernel_rfl) h

theorem laws_eqIntS_n4_l (x3445 : List Int) (x3446 : List Int) : Link laws_eqIntS_ctx LL (Code.fst (Code.snd (Code.fst (Code.snd (Code.snd (bodyOf Try.f13)))))) (Ann.fst (Ann.snd (Ann.fst (Ann.snd (Ann.snd laws_eqIntS_an))))) (⟨mkE 26 0 [(0, .dat (.list (.int .i64)) x3445), (1, .dat (.list (.int .i64)) x3446), (5, .dat (.int .i64) 0)], []⟩ : St) (laws_eqIntS_n4 x3445 x3446) (Sum.elim (fun (t : Bool) => (Exit.ret, (⟨mkE 26 0 [(4, .dat .bool t)], []⟩ : St))) (fun (t : Unit) => ((Exit.exit 0), (⟨mkE 26 0 [], []⟩ : St)))) := by
  unfold laws_eqIntS_n4
  exact Link.cast (by kernel_rfl) (by kernel_rfl) (link_loop (mk := fun (s : Int) => (⟨mkE 26 0 [(0, .dat (.list (.int .i64)) x3445), (1, .dat (.list (.int .i64)) x3446), (5, .dat (.int .i64) s)], []⟩ : St)) (fin := (Sum.elim (fun (t : Bool) => (Exit.ret, (⟨mkE 26 0 [(4, .dat .bool t)], []⟩ : St))) (fun (t : Unit) => ((Exit.exit 0), (⟨mkE 26 0 [], []⟩ : St))))) (by
  rintro (t | t) f K h
  · exact h
  · exact h) (fun s => link_map (laws_eqIntS_n3_l x3445 x3446 s) (Sum.elim (fun (t : Int) => Sum.inl t) (Sum.elim (fun (t : Bool) => Sum.inr (Sum.inl t)) (fun (t : Unit) => Sum.inr (Sum.inr t)))) (by
  rintro (t | t | t)
  · kernel_rfl
  · kernel_rfl
  · kernel_rfl)) 0)

theorem laws_eqIntS_n5_l (x3445 : List Int) (x3446 : List Int) : Link laws_eqIntS_ctx LL (Code.snd (Code.fst (Code.snd (Code.snd (bodyOf Try.f13))))) (Ann.snd (Ann.fst (Ann.snd (Ann.snd laws_eqIntS_an)))) (⟨mkE 26 0 [(0, .dat (.list (.int .i64)) x3445), (1, .dat (.list (.int .i64)) x3446), (5, .dat (.int .i64) 0)], []⟩ : St) (laws_eqIntS_n5 x3445 x3446) (Sum.elim (fun (t : Unit) => (Exit.normal, (⟨mkE 26 0 [], []⟩ : St))) (fun (t : Bool) => (Exit.ret, (⟨mkE 26 0 [(4, .dat .bool t)], []⟩ : St)))) := by
  unfold laws_eqIntS_n5
  exact Link.cast (by kernel_rfl) (by kernel_rfl) (link_block (id := 0) (laws_eqIntS_n4_l x3445 x3446) (Sum.elim (fun (t : Bool) => (Sum.inr t)) (fun (t : Unit) => (Sum.inl ()))) (by
  rintro (t | t) K h
  · exact Eq.mp (by kernel_rfl) h
  · exact Eq.mp (by kernel_rfl) h))

theorem laws_eqIntS_n6_l (x3445 : List Int) (x3446 : List Int) : Link laws_eqIntS_ctx LL (Code.fst (Code.snd (Code.snd (bodyOf Try.f13)))) (Ann.fst (Ann.snd (Ann.snd laws_eqIntS_an))) (⟨mkE 26 0 [(0, .dat (.list (.int .i64)) x3445), (1, .dat (.list (.int .i64)) x3446)], []⟩ : St) (laws_eqIntS_n6 x3445 x3446) (Sum.elim (fun (t : Unit) => (Exit.normal, (⟨mkE 26 0 [], []⟩ : St))) (fun (t : Bool) => (Exit.ret, (⟨mkE 26 0 [(4, .dat .bool t)], []⟩ : St)))) := by
  unfold laws_eqIntS_n6
  exact Link.cast (by kernel_rfl) (by kernel_rfl) (link_seq (b := (Code.snd (Code.fst (Code.snd (Code.snd (bodyOf Try.f13)))))) (y := (Ann.snd (Ann.fst (Ann.snd (Ann.snd laws_eqIntS_an))))) (laws_eqIntS_n2_l x3445 x3446) (fun (t : Unit) => (laws_eqIntS_n5_l x3445 x3446)))

theorem laws_eqIntS_n7_l : Link laws_eqIntS_ctx LL (Code.snd (Code.snd (Code.snd (bodyOf Try.f13)))) (Ann.snd (Ann.snd (Ann.snd laws_eqIntS_an))) (⟨mkE 26 0 [], []⟩ : St) (laws_eqIntS_n7) (fun (t : Bool) => (Exit.ret, (⟨mkE 26 0 [(4, .dat .bool t)], []⟩ : St))) := by
  refine Link.of fun K h => ?_
  simp only [laws_eqIntS_n7, wpO_bind, wpO_cond, wpO_map, wpO_some] at h
  exact Awp.of (by kernel_rfl) h

theorem laws_eqIntS_n8_l (x3445 : List Int) (x3446 : List Int) : Link laws_eqIntS_ctx LL (Code.snd (Code.snd (bodyOf Try.f13))) (Ann.snd (Ann.snd laws_eqIntS_an)) (⟨mkE 26 0 [(0, .dat (.list (.int .i64)) x3445), (1, .dat (.list (.int .i64)) x3446)], []⟩ : St) (laws_eqIntS_n8 x3445 x3446) (fun (t : Bool) => (Exit.ret, (⟨mkE 26 0 [(4, .dat .bool t)], []⟩ : St))) := by
  unfold laws_eqIntS_n8
  exact Link.cast (by kernel_rfl) (by kernel_rfl) (link_seq2 (b := (Code.snd (Code.snd (Code.snd (bodyOf Try.f13))))) (y := (Ann.snd (Ann.snd (Ann.snd laws_eqIntS_an)))) (laws_eqIntS_n6_l x3445 x3446) (fun (t : Unit) => (laws_eqIntS_n7_l)) (fun (t : Bool) => t) (by
  rintro t
  · kernel_rfl) (by
  rintro t f K h
  · exact h))

theorem laws_eqIntS_n9_l (x3445 : List Int) (x3446 : List Int) : Link laws_eqIntS_ctx LL (bodyOf Try.f13) laws_eqIntS_an (⟨mkE 26 0 [(0, .dat (.list (.int .i64)) x3445), (1, .dat (.list (.int .i64)) x3446)], []⟩ : St) (laws_eqIntS_n9 x3445 x3446) (fun (t : Bool) => (Exit.ret, (⟨mkE 26 0 [(4, .dat .bool t)], []⟩ : St))) := by
  unfold laws_eqIntS_n9
  exact Link.cast (by kernel_rfl) (by kernel_rfl) (link_group (c := (Code.fst (Code.snd (bodyOf Try.f13)))) (a := (Ann.fst (Ann.snd laws_eqIntS_an))) [(Code.fst (bodyOf Try.f13))] [(Ann.fst laws_eqIntS_an)] rfl (link_seq2 (b := (Code.snd (Code.snd (bodyOf Try.f13)))) (y := (Ann.snd (Ann.snd laws_eqIntS_an))) (laws_eqIntS_n1_l x3445 x3446) (fun (t : Unit) => (laws_eqIntS_n8_l x3445 x3446)) (fun (t : Bool) => t) (by
  rintro t
  · kernel_rfl) (by
  rintro t f K h
  · exact h)))

theorem laws_eqIntS_e (x3445 : List Int) (x3446 : List Int) {r : AV} {H' : Heap} (h : (Ans.mk _ (laws_eqIntS x3445 x3446) (fun (t : Bool) => (.dat .bool t, [])) [] none).run = some (r, H')) : Awp laws_eqIntS_ctx LL (bodyOf Try.f13) laws_eqIntS_an (⟨mkE 26 0 [(0, .dat (.list (.int .i64)) x3445), (1, .dat (.list (.int .i64)) x3446)], []⟩ : St) (Ret (tlook tys) Try.f13.results.toList r H') :=
  ret_of' (laws_eqIntS_n9_l x3445 x3446) (by unfold laws_eqIntS; kernel_rfl) (by
  intro t
  exact ret_mk [.dat .bool t] (by kernel_rfl) (by kernel_rfl) (by kernel_rfl) (by kernel_rfl)) h

def F_laws_eqIntS : Fun := fun avs H =>
  match avs, H with
  | [.dat (.list (.int .i64)) x3445, .dat (.list (.int .i64)) x3446], [] => ⟨_, laws_eqIntS x3445 x3446, fun (t : Bool) => (.dat .bool t, []), [], none⟩
  | _, _ => Ans.no

theorem laws_eqIntS_sound : Sound Try.prog 13 F_laws_eqIntS := by
  refine fn_sound' (C := laws_eqIntS_ctx) (c := bodyOf Try.f13) (cok_of tys_ok (by simp) (by simp) (by kernel_rfl)) Try.func13 (by kernel_rfl) LL laws_eqIntS_an ?_
  intro avs H r H' h
  unfold F_laws_eqIntS at h
  split at h
  · refine Awp.cast ?_ ?_ ?_ (laws_eqIntS_e _ _ h) <;> kernel_rfl
  · simp [Ans.no, Ans.run] at h


/-! loop.example/headtrees/laws.markIntS -/

def laws_markIntS_an : Ann := (.seq (.leaf [0, 1]) (.seq (.seq (.leaf [0, 1, 5]) (.block (.loop (.seq (.seq (.leaf [0, 1, 5, 9]) (.cond (.leaf [0, 1, 5]) (.leaf [1]))) (.seq (.block (.seq (.leaf [0, 1, 5]) (.leaf [0, 1, 5]))) (.leaf [0, 1, 5])))))) (.seq (.leaf [4]) (.leaf [4]))))

noncomputable def laws_markIntS_ctx : Ctx := ⟨tlook tys, olook [], ioF, 1, false, []⟩

theorem laws_markIntS_n1_l (x3503 : Int) (x3504 : List Int) : Link laws_markIntS_ctx LL (Code.fst (bodyOf Try.f14)) (Ann.fst laws_markIntS_an) (⟨mkE 19 0 [(0, .slc 0), (1, .dat (.int .i64) x3503)], [some (.seq (.int .i64) x3504)]⟩ : St) (laws_markIntS_n1) (fun (t : Unit) => (Exit.normal, (⟨mkE 19 0 [(0, .slc 0), (1, .dat (.int .i64) x3503)], [some (.seq (.int .i64) x3504)]⟩ : St))) := by
  refine Link.of fun K h => ?_
  simp only [laws_markIntS_n1, wpO_bind, wpO_cond, wpO_map, wpO_some] at h
  exact Awp.of (by kernel_rfl) h

theorem laws_markIntS_n2_l (x3503 : Int) (x3504 : List Int) : Link laws_markIntS_ctx LL (Code.fst (Code.fst (Code.snd (bodyOf Try.f14)))) (Ann.fst (Ann.fst (Ann.snd laws_markIntS_an))) (⟨mkE 19 0 [(0, .slc 0), (1, .dat (.int .i64) x3503)], [some (.seq (.int .i64) x3504)]⟩ : St) (laws_markIntS_n2) (fun (t : Unit) => (Exit.normal, (⟨mkE 19 0 [(0, .slc 0), (1, .dat (.int .i64) x3503), (5, .dat (.int .i64) 0)], [some (.seq (.int .i64) x3504)]⟩ : St))) := by
  refine Link.of fun K h => ?_
  simp only [laws_markIntS_n2, wpO_bind, wpO_cond, wpO_map, wpO_some] at h
  exact Awp.of (by kernel_rfl) h

theorem laws_markIntS_n3_l (x3518 : Int) (x3519 : Int) (x3520 : List Int) : Link laws_markIntS_ctx LL (Code.fst (Code.fst (Code.snd (Code.fst (Code.snd (bodyOf Try.f14)))))) (Ann.fst (Ann.fst (Ann.snd (Ann.fst (Ann.snd laws_markIntS_an))))) (⟨mkE 19 0 [(0, .slc 0), (1, .dat (.int .i64) x3518), (5, .dat (.int .i64) x3519)], [some (.seq (.int .i64) x3520)]⟩ : St) (laws_markIntS_n3 x3518 x3519 x3520) (Sum.elim (fun (t : Int × Int × (List Int)) => (Exit.normal, (⟨mkE 19 0 [(0, .slc 0), (1, .dat (.int .i64) t.1), (5, .dat (.int .i64) t.2.1)], [some (.seq (.int .i64) t.2.2)]⟩ : St))) (fun (t : Int × (List Int)) => ((Exit.exit 0), (⟨mkE 19 0 [(1, .dat (.int .i64) t.1)], [some (.seq (.int .i64) t.2)]⟩ : St)))) := by
  refine Link.of fun K h => ?_
  simp only [laws_markIntS_n3, wpO_bind, wpO_cond, wpO_map, wpO_some] at h
  exact Awp.of (by kernel_rfl) h

theorem laws_markIntS_n4_l (x3503 : Int) (x3504 : List Int) : Link laws_markIntS_ctx LL (Code.fst (Code.snd (Code.fst (Code.snd (bodyOf Try.f14))))) (Ann.fst (Ann.snd (Ann.fst (Ann.snd laws_markIntS_an)))) (⟨mkE 19 0 [(0, .slc 0), (1, .dat (.int .i64) x3503), (5, .dat (.int .i64) 0)], [some (.seq (.int .i64) x3504)]⟩ : St) (laws_markIntS_n4 x3503 x3504) (fun (t : Int × (List Int)) => ((Exit.exit 0), (⟨mkE 19 0 [(1, .dat (.int .i64) t.1)], [some (.seq (.int .i64) t.2)]⟩ : St))) := by
  unfold laws_markIntS_n4
  exact Link.cast (by kernel_rfl) (by kernel_rfl) (link_loop (mk := fun (s : Int × Int × (List Int)) => (⟨mkE 19 0 [(0, .slc 0), (1, .dat (.int .i64) s.1), (5, .dat (.int .i64) s.2.1)], [some (.seq (.int .i64) s.2.2)]⟩ : St)) (fin := (fun (t : Int × (List Int)) => ((Exit.exit 0), (⟨mkE 19 0 [(1, .dat (.int .i64) t.1)], [some (.seq (.int .i64) t.2)]⟩ : St)))) (by
  rintro t f K h
  · exact h) (fun s => link_map (laws_markIntS_n3_l s.1 s.2.1 s.2.2) (Sum.elim (fun (t : Int × Int × (List Int)) => Sum.inl (t.1, t.2.1, t.2.2)) (fun (t : Int × (List Int)) => Sum.inr t)) (by
  rintro (t | t)
  · kernel_rfl
  · kernel_rfl)) (x3503, 0, x3504))

theorem laws_markIntS_n5_l (x3503 : Int) (x3504 : List Int) : Link laws_markIntS_ctx LL (Code.snd (Code.fst (Code.snd (bodyOf Try.f14)))) (Ann.snd (Ann.fst (Ann.snd laws_markIntS_an))) (⟨mkE 19 0 [(0, .slc 0), (1, .dat (.int .i64) x3503), (5, .dat (.int .i64) 0)], [some (.seq (.int .i64) x3504)]⟩ : St) (laws_markIntS_n5 x3503 x3504) (fun (t : Int × (List Int)) => (Exit.normal, (⟨mkE 19 0 [(1, .dat (.int .i64) t.1)], [some (.seq (.int .i64) t.2)]⟩ : St))) := by
  unfold laws_markIntS_n5
  exact Link.cast (by kernel_rfl) (by kernel_rfl) (link_block (id := 0) (laws_markIntS_n4_l x3503 x3504) (fun (t : Int × (List Int)) => (t.1, t.2)) (by
  rintro t K h
  · exact Eq.mp (by kernel_rfl) h))

theorem laws_markIntS_n6_l (x3503 : Int) (x3504 : List Int) : Link laws_markIntS_ctx LL (Code.fst (Code.snd (bodyOf Try.f14))) (Ann.fst (Ann.snd laws_markIntS_an)) (⟨mkE 19 0 [(0, .slc 0), (1, .dat (.int .i64) x3503)], [some (.seq (.int .i64) x3504)]⟩ : St) (laws_markIntS_n6 x3503 x3504) (fun (t : Int × (List Int)) => (Exit.normal, (⟨mkE 19 0 [(1, .dat (.int .i64) t.1)], [some (.seq (.int .i64) t.2)]⟩ : St))) := by
  unfold laws_markIntS_n6
  exact Link.cast (by kernel_rfl) (by kernel_rfl) (link_seq (b := (Code.snd (Code.fst (Code.snd (bodyOf Try.f14))))) (y := (Ann.snd (Ann.fst (Ann.snd laws_markIntS_an)))) (laws_markIntS_n2_l x3503 x3504) (fun (t : Unit) => (laws_markIntS_n5_l x3503 x3504)))

theorem laws_markIntS_n7_l (x3518 : Int) (x3520 : List Int) : Link laws_markIntS_ctx LL (Code.snd (Code.snd (bodyOf Try.f14))) (Ann.snd (Ann.snd laws_markIntS_an)) (⟨mkE 19 0 [(1, .dat (.int .i64) x3518)], [some (.seq (.int .i64) x3520)]⟩ : St) (laws_markIntS_n7 x3518 x3520) (fun (t : Int × (List Int)) => (Exit.ret, (⟨mkE 19 0 [(4, .dat (.int .i64) t.1)], [some (.seq (.int .i64) t.2)]⟩ : St))) := by
  refine Link.of fun K h => ?_
  simp only [laws_markIntS_n7, wpO_bind, wpO_cond, wpO_map, wpO_some] at h
  exact Awp.of (by kernel_rfl) h

theorem laws_markIntS_n8_l (x3503 : Int) (x3504 : List Int) : Link laws_markIntS_ctx LL (Code.snd (bodyOf Try.f14)) (Ann.snd laws_markIntS_an) (⟨mkE 19 0 [(0, .slc 0), (1, .dat (.int .i64) x3503)], [some (.seq (.int .i64) x3504)]⟩ : St) (laws_markIntS_n8 x3503 x3504) (fun (t : Int × (List Int)) => (Exit.ret, (⟨mkE 19 0 [(4, .dat (.int .i64) t.1)], [some (.seq (.int .i64) t.2)]⟩ : St))) := by
  unfold laws_markIntS_n8
  exact Link.cast (by kernel_rfl) (by kernel_rfl) (link_seq (b := (Code.snd (Code.snd (bodyOf Try.f14)))) (y := (Ann.snd (Ann.snd laws_markIntS_an))) (laws_markIntS_n6_l x3503 x3504) (fun (t : Int × (List Int)) => (laws_markIntS_n7_l t.1 t.2)))

theorem laws_markIntS_n9_l (x3503 : Int) (x3504 : List Int) : Link laws_markIntS_ctx LL (bodyOf Try.f14) laws_markIntS_an (⟨mkE 19 0 [(0, .slc 0), (1, .dat (.int .i64) x3503)], [some (.seq (.int .i64) x3504)]⟩ : St) (laws_markIntS_n9 x3503 x3504) (fun (t : Int × (List Int)) => (Exit.ret, (⟨mkE 19 0 [(4, .dat (.int .i64) t.1)], [some (.seq (.int .i64) t.2)]⟩ : St))) := by
  unfold laws_markIntS_n9
  exact Link.cast (by kernel_rfl) (by kernel_rfl) (link_seq (b := (Code.snd (bodyOf Try.f14))) (y := (Ann.snd laws_markIntS_an)) (laws_markIntS_n1_l x3503 x3504) (fun (t : Unit) => (laws_markIntS_n8_l x3503 x3504)))

theorem laws_markIntS_e (x3503 : Int) (x3504 : List Int) {r : AV} {H' : Heap} (h : (Ans.mk _ (laws_markIntS x3503 x3504) (fun (t : Int × (List Int)) => (.dat (.int .i64) t.1, [some (.seq (.int .i64) t.2)])) [] none).run = some (r, H')) : Awp laws_markIntS_ctx LL (bodyOf Try.f14) laws_markIntS_an (⟨mkE 19 0 [(0, .slc 0), (1, .dat (.int .i64) x3503)], [some (.seq (.int .i64) x3504)]⟩ : St) (Ret (tlook tys) Try.f14.results.toList r H') :=
  ret_of' (laws_markIntS_n9_l x3503 x3504) (by unfold laws_markIntS; kernel_rfl) (by
  intro t
  exact ret_mk [.dat (.int .i64) t.1] (by kernel_rfl) (by kernel_rfl) (by kernel_rfl) (by kernel_rfl)) h

def F_laws_markIntS : Fun := fun avs H =>
  match avs, H with
  | [.slc 0, .dat (.int .i64) x3503], [some (.seq (.int .i64) x3504)] => ⟨_, laws_markIntS x3503 x3504, fun (t : Int × (List Int)) => (.dat (.int .i64) t.1, [some (.seq (.int .i64) t.2)]), [], none⟩
  | _, _ => Ans.no

theorem laws_markIntS_sound : Sound Try.prog 14 F_laws_markIntS := by
  refine fn_sound' (C := laws_markIntS_ctx) (c := bodyOf Try.f14) (cok_of tys_ok (by simp) (by simp) (by kernel_rfl)) Try.func14 (by kernel_rfl) LL laws_markIntS_an ?_
  intro avs H r H' h
  unfold F_laws_markIntS at h
  split at h
  · refine Awp.cast ?_ ?_ ?_ (laws_markIntS_e _ _ h) <;> kernel_rfl
  · simp [Ans.no, Ans.run] at h


/-! loop.example/headtrees/laws.heldIntS -/

def laws_heldIntS_an : Ann := (.seq (.leaf [0, 1]) (.seq (.seq (.leaf [0, 1, 5]) (.block (.loop (.seq (.seq (.leaf [0, 1, 5, 9]) (.cond (.leaf [0, 1, 5]) (.leaf [1]))) (.seq (.block (.seq (.seq (.leaf [0, 1, 5, 17]) (.cond (.seq (.leaf [4]) (.leaf [4])) (.leaf [0, 1, 5]))) (.leaf [0, 1, 5]))) (.leaf [0, 1, 5])))))) (.seq (.leaf [4]) (.leaf [4]))))

noncomputable def laws_heldIntS_ctx : Ctx := ⟨tlook tys, olook [], ioF, 0, false, []⟩

theorem laws_heldIntS_n1_l (x3565 : List Int) (x3566 : Int) : Link laws_heldIntS_ctx LL (Code.fst (bodyOf Try.f15)) (Ann.fst laws_heldIntS_an) (⟨mkE 21 0 [(0, .dat (.list (.int .i64)) x3565), (1, .dat (.int .i64) x3566)], []⟩ : St) (laws_heldIntS_n1) (fun (t : Unit) => (Exit.normal, (⟨mkE 21 0 [(0, .dat (.list (.int .i64)) x3565), (1, .dat (.int .i64) x3566)], []⟩ : St))) := by
  refine Link.of fun K h => ?_
  simp only [laws_heldIntS_n1, wpO_bind, wpO_cond, wpO_map, wpO_some] at h
  exact Awp.of (by kernel_rfl) h

theorem laws_heldIntS_n2_l (x3565 : List Int) (x3566 : Int) : Link laws_heldIntS_ctx LL (Code.fst (Code.fst (Code.snd (bodyOf Try.f15)))) (Ann.fst (Ann.fst (Ann.snd laws_heldIntS_an))) (⟨mkE 21 0 [(0, .dat (.list (.int .i64)) x3565), (1, .dat (.int .i64) x3566)], []⟩ : St) (laws_heldIntS_n2) (fun (t : Unit) => (Exit.normal, (⟨mkE 21 0 [(0, .dat (.list (.int .i64)) x3565), (1, .dat (.int .i64) x3566), (5, .dat (.int .i64) 0)], []⟩ : St))) := by
  refine Link.of fun K h => ?_
  simp only [laws_heldIntS_n2, wpO_bind, wpO_cond, wpO_map, wpO_some] at h
  exact Awp.of (by kernel_rfl) h

theorem laws_heldIntS_n3_l (x3565 : List Int) (x3580 : Int) (x3581 : Int) : Link laws_heldIntS_ctx LL (Code.fst (Code.fst (Code.snd (Code.fst (Code.snd (bodyOf Try.f15)))))) (Ann.fst (Ann.fst (Ann.snd (Ann.fst (Ann.snd laws_heldIntS_an))))) (⟨mkE 21 0 [(0, .dat (.list (.int .i64)) x3565), (1, .dat (.int .i64) x3580), (5, .dat (.int .i64) x3581)], []⟩ : St) (laws_heldIntS_n3 x3565 x3580 x3581) (Sum.elim (fun (t : Int × Int) => (Exit.normal, (⟨mkE 21 0 [(0, .dat (.list (.int .i64)) x3565), (1, .dat (.int .i64) t.1), (5, .dat (.int .i64) t.2)], []⟩ : St))) (Sum.elim (fun (t : Int) => (Exit.ret, (⟨mkE 21 0 [(4, .dat (.int .i64) t)], []⟩ : St))) (fun (t : Int) => ((Exit.exit 0), (⟨mkE 21 0 [(1, .dat (.int .i64) t)], []⟩ : St))))) := by
  refine Link.of fun K h => ?_
  simp only [laws_heldIntS_n3, wpO_bind, wpO_cond, wpO_map, wpO_some] at h
  exact Awp.of (by kernel_rfl) h

theorem laws_heldIntS_n4_l (x3565 : List Int) (x3566 : Int) : Link laws_heldIntS_ctx LL (Code.fst (Code.snd (Code.fst (Code.snd (bodyOf Try.f15))))) (Ann.fst (Ann.snd (Ann.fst (Ann.snd laws_heldIntS_an)))) (⟨mkE 21 0 [(0, .dat (.list (.int .i64)) x3565), (1, .dat (.int .i64) x3566), (5, .dat (.int .i64) 0)], []⟩ : St) (laws_heldIntS_n4 x3565 x3566) (Sum.elim (fun (t : Int) => (Exit.ret, (⟨mkE 21 0 [(4, .dat (.int .i64) t)], []⟩ : St))) (fun (t : Int) => ((Exit.exit 0), (⟨mkE 21 0 [(1, .dat (.int .i64) t)], []⟩ : St)))) := by
  unfold laws_heldIntS_n4
  exact Link.cast (by kernel_rfl) (by kernel_rfl) (link_loop (mk := fun (s : Int × Int) => (⟨mkE 21 0 [(0, .dat (.list (.int .i64)) x3565), (1, .dat (.int .i64) s.1), (5, .dat (.int .i64) s.2)], []⟩ : St)) (fin := (Sum.elim (fun (t : Int) => (Exit.ret, (⟨mkE 21 0 [(4, .dat (.int .i64) t)], []⟩ : St))) (fun (t : Int) => ((Exit.exit 0), (⟨mkE 21 0 [(1, .dat (.int .i64) t)], []⟩ : St))))) (by
  rintro (t | t) f K h
  · exact h
  · exact h) (fun s => link_map (laws_heldIntS_n3_l x3565 s.1 s.2) (Sum.elim (fun (t : Int × Int) => Sum.inl (t.1, t.2)) (Sum.elim (fun (t : Int) => Sum.inr (Sum.inl t)) (fun (t : Int) => Sum.inr (Sum.inr t)))) (by
  rintro (t | t | t)
  · kernel_rfl
  · kernel_rfl
  · kernel_rfl)) (x3566, 0))

theorem laws_heldIntS_n5_l (x3565 : List Int) (x3566 : Int) : Link laws_heldIntS_ctx LL (Code.snd (Code.fst (Code.snd (bodyOf Try.f15)))) (Ann.snd (Ann.fst (Ann.snd laws_heldIntS_an))) (⟨mkE 21 0 [(0, .dat (.list (.int .i64)) x3565), (1, .dat (.int .i64) x3566), (5, .dat (.int .i64) 0)], []⟩ : St) (laws_heldIntS_n5 x3565 x3566) (Sum.elim (fun (t : Int) => (Exit.normal, (⟨mkE 21 0 [(1, .dat (.int .i64) t)], []⟩ : St))) (fun (t : Int) => (Exit.ret, (⟨mkE 21 0 [(4, .dat (.int .i64) t)], []⟩ : St)))) := by
  unfold laws_heldIntS_n5
  exact Link.cast (by kernel_rfl) (by kernel_rfl) (link_block (id := 0) (laws_heldIntS_n4_l x3565 x3566) (Sum.elim (fun (t : Int) => (Sum.inr t)) (fun (t : Int) => (Sum.inl t))) (by
  rintro (t | t) K h
  · exact Eq.mp (by kernel_rfl) h
  · exact Eq.mp (by kernel_rfl) h))

theorem laws_heldIntS_n6_l (x3565 : List Int) (x3566 : Int) : Link laws_heldIntS_ctx LL (Code.fst (Code.snd (bodyOf Try.f15))) (Ann.fst (Ann.snd laws_heldIntS_an)) (⟨mkE 21 0 [(0, .dat (.list (.int .i64)) x3565), (1, .dat (.int .i64) x3566)], []⟩ : St) (laws_heldIntS_n6 x3565 x3566) (Sum.elim (fun (t : Int) => (Exit.normal, (⟨mkE 21 0 [(1, .dat (.int .i64) t)], []⟩ : St))) (fun (t : Int) => (Exit.ret, (⟨mkE 21 0 [(4, .dat (.int .i64) t)], []⟩ : St)))) := by
  unfold laws_heldIntS_n6
  exact Link.cast (by kernel_rfl) (by kernel_rfl) (link_seq (b := (Code.snd (Code.fst (Code.snd (bodyOf Try.f15))))) (y := (Ann.snd (Ann.fst (Ann.snd laws_heldIntS_an)))) (laws_heldIntS_n2_l x3565 x3566) (fun (t : Unit) => (laws_heldIntS_n5_l x3565 x3566)))

theorem laws_heldIntS_n7_l (x3580 : Int) : Link laws_heldIntS_ctx LL (Code.snd (Code.snd (bodyOf Try.f15))) (Ann.snd (Ann.snd laws_heldIntS_an)) (⟨mkE 21 0 [(1, .dat (.int .i64) x3580)], []⟩ : St) (laws_heldIntS_n7 x3580) (fun (t : Int) => (Exit.ret, (⟨mkE 21 0 [(4, .dat (.int .i64) t)], []⟩ : St))) := by
  refine Link.of fun K h => ?_
  simp only [laws_heldIntS_n7, wpO_bind, wpO_cond, wpO_map, wpO_some] at h
  exact Awp.of (by kernel_rfl) h

theorem laws_heldIntS_n8_l (x3565 : List Int) (x3566 : Int) : Link laws_heldIntS_ctx LL (Code.snd (bodyOf Try.f15)) (Ann.snd laws_heldIntS_an) (⟨mkE 21 0 [(0, .dat (.list (.int .i64)) x3565), (1, .dat (.int .i64) x3566)], []⟩ : St) (laws_heldIntS_n8 x3565 x3566) (fun (t : Int) => (Exit.ret, (⟨mkE 21 0 [(4, .dat (.int .i64) t)], []⟩ : St))) := by
  unfold laws_heldIntS_n8
  exact Link.cast (by kernel_rfl) (by kernel_rfl) (link_seq2 (b := (Code.snd (Code.snd (bodyOf Try.f15)))) (y := (Ann.snd (Ann.snd laws_heldIntS_an))) (laws_heldIntS_n6_l x3565 x3566) (fun (t : Int) => (laws_heldIntS_n7_l t)) (fun (t : Int) => t) (by
  rintro t
  · kernel_rfl) (by
  rintro t f K h
  · exact h))

theorem laws_heldIntS_n9_l (x3565 : List Int) (x3566 : Int) : Link laws_heldIntS_ctx LL (bodyOf Try.f15) laws_heldIntS_an (⟨mkE 21 0 [(0, .dat (.list (.int .i64)) x3565), (1, .dat (.int .i64) x3566)], []⟩ : St) (laws_heldIntS_n9 x3565 x3566) (fun (t : Int) => (Exit.ret, (⟨mkE 21 0 [(4, .dat (.int .i64) t)], []⟩ : St))) := by
  unfold laws_heldIntS_n9
  exact Link.cast (by kernel_rfl) (by kernel_rfl) (link_seq (b := (Code.snd (bodyOf Try.f15))) (y := (Ann.snd laws_heldIntS_an)) (laws_heldIntS_n1_l x3565 x3566) (fun (t : Unit) => (laws_heldIntS_n8_l x3565 x3566)))

theorem laws_heldIntS_e (x3565 : List Int) (x3566 : Int) {r : AV} {H' : Heap} (h : (Ans.mk _ (laws_heldIntS x3565 x3566) (fun (t : Int) => (.dat (.int .i64) t, [])) [] none).run = some (r, H')) : Awp laws_heldIntS_ctx LL (bodyOf Try.f15) laws_heldIntS_an (⟨mkE 21 0 [(0, .dat (.list (.int .i64)) x3565), (1, .dat (.int .i64) x3566)], []⟩ : St) (Ret (tlook tys) Try.f15.results.toList r H') :=
  ret_of' (laws_heldIntS_n9_l x3565 x3566) (by unfold laws_heldIntS; kernel_rfl) (by
  intro t
  exact ret_mk [.dat (.int .i64) t] (by kernel_rfl) (by kernel_rfl) (by kernel_rfl) (by kernel_rfl)) h

def F_laws_heldIntS : Fun := fun avs H =>
  match avs, H with
  | [.dat (.list (.int .i64)) x3565, .dat (.int .i64) x3566], [] => ⟨_, laws_heldIntS x3565 x3566, fun (t : Int) => (.dat (.int .i64) t, []), [], none⟩
  | _, _ => Ans.no

theorem laws_heldIntS_sound : Sound Try.prog 15 F_laws_heldIntS := by
  refine fn_sound' (C := laws_heldIntS_ctx) (c := bodyOf Try.f15) (cok_of tys_ok (by simp) (by simp) (by kernel_rfl)) Try.func15 (by kernel_rfl) LL laws_heldIntS_an ?_
  intro avs H r H' h
  unfold F_laws_heldIntS at h
  split at h
  · refine Awp.cast ?_ ?_ ?_ (laws_heldIntS_e _ _ h) <;> kernel_rfl
  · simp [Ans.no, Ans.run] at h


/-! loop.example/headtrees/spec.l7Step -/

def spec_l7Step_an : Ann := (.seq (.leaf [0, 1, 2, 3]) (.seq (.leaf [0, 1, 2, 3, 11]) (.seq (.block (.seq (.leaf [0, 1, 2, 3, 11, 15]) (.cond (.seq (.leaf [8, 9, 10]) (.leafF [⟨0, 8, false, none, none⟩] [8, 9, 10])) (.seq (.leaf [0, 1, 2, 3, 11, 32]) (.cond (.seq (.leaf [1, 2, 11]) (.seq (.leaf [8, 9, 10]) (.leafF [⟨0, 8, false, none, none⟩] [8, 9, 10]))) (.seq (.leaf [0, 1, 2, 3, 11, 70]) (.cond (.seq (.leaf [1, 2]) (.seq (.leaf [8, 9, 10]) (.leafF [⟨0, 8, false, none, none⟩] [8, 9, 10]))) (.seq (.leaf [1, 2, 11, 99]) (.cond (.seq (.leaf [8, 9, 10]) (.leafF [⟨0, 8, false, none, none⟩] [8, 9, 10])) (.leaf [1, 2])))))))))) (.seq (.leaf [8, 9, 10]) (.leaf [8, 9, 10])))))

noncomputable def spec_l7Step_ctx : Ctx := ⟨tlook tys, olook [], ioF, 1, false, []⟩

theorem spec_l7Step_n1_l (x3898 : List Int) (x3899 : Int) (x3900 : Int) (x3901 : List Int) : Link spec_l7Step_ctx LL (Code.seq (Code.fst (bodyOf Try.f23)) (Code.fst (Code.snd (bodyOf Try.f23)))) (Ann.seq (Ann.fst spec_l7Step_an) (Ann.fst (Ann.snd spec_l7Step_an))) (⟨mkE 125 0 [(0, .slc 0), (1, .dat (.list (.int .i64)) x3898), (2, .dat (.int .i64) x3899), (3, .dat (.int .u8) x3900)], [some (.seq (.int .i64) x3901)]⟩ : St) (spec_l7Step_n1 x3898) (fun (t : Int) => (Exit.normal, (⟨mkE 125 0 [(0, .slc 0), (1, .dat (.list (.int .i64)) x3898), (2, .dat (.int .i64) x3899), (3, .dat (.int .u8) x3900), (11, .dat (.int .i64) t)], [some (.seq (.int .i64) x3901)]⟩ : St))) := by
  refine Link.of fun K h => ?_
  simp only [spec_l7Step_n1, wpO_bind, wpO_cond, wpO_map, wpO_some] at h
  exact Awp.of (by kernel_rfl) h

theorem spec_l7Step_n2_l (x3898 : List Int) (x3899 : Int) (x3900 : Int) (x4430 : Int) (x3901 : List Int) : Link spec_l7Step_ctx LL (Code.fst (Code.fst (Code.fst (Code.snd (Code.snd (bodyOf Try.f23)))))) (Ann.fst (Ann.fst (Ann.fst (Ann.snd (Ann.snd spec_l7Step_an))))) (⟨mkE 125 0 [(0, .slc 0), (1, .dat (.list (.int .i64)) x3898), (2, .dat (.int .i64) x3899), (3, .dat (.int .u8) x3900), (11, .dat (.int .i64) x4430)], [some (.seq (.int .i64) x3901)]⟩ : St) (spec_l7Step_n2 x3899 x3900 x3901) (fun (t : Bool) => (Exit.normal, (⟨mkE 125 0 [(0, .slc 0), (1, .dat (.list (.int .i64)) x3898), (2, .dat (.int .i64) x3899), (3, .dat (.int .u8) x3900), (11, .dat (.int .i64) x4430), (15, .dat .bool t)], [some (.seq (.int .i64) x3901)]⟩ : St))) := by
  refine Link.of fun K h => ?_
  simp only [spec_l7Step_n2, wpO_bind, wpO_cond, wpO_map, wpO_some] at h
  exact Awp.of (by kernel_rfl) h

theorem spec_l7Step_n3_l (x3898 : List Int) (x3899 : Int) (x3900 : Int) (x4430 : Int) (x4691 : Bool) (x3901 : List Int) : Link spec_l7Step_ctx LL (Code.fst (Code.snd (Code.fst (Code.fst (Code.snd (Code.snd (bodyOf Try.f23))))))) (Ann.fst (Ann.snd (Ann.fst (Ann.fst (Ann.snd (Ann.snd spec_l7Step_an)))))) (⟨mkE 125 0 [(0, .slc 0), (1, .dat (.list (.int .i64)) x3898), (2, .dat (.int .i64) x3899), (3, .dat (.int .u8) x3900), (11, .dat (.int .i64) x4430), (15, .dat .bool x4691)], [some (.seq (.int .i64) x3901)]⟩ : St) (spec_l7Step_n3 x3898 x3899 x3901) (fun (t : (List Int) × Int × Bool × (List Int)) => (Exit.ret, (⟨mkE 125 0 [(8, .dat (.list (.int .i64)) t.1), (9, .dat (.int .i64) t.2.1), (10, .dat .bool t.2.2.1)], [some (.seq (.int .i64) t.2.2.2)]⟩ : St))) := by
  refine Link.of fun K h => ?_
  simp only [spec_l7Step_n3, wpO_bind, wpO_cond, wpO_map, wpO_some] at h
  exact Awp.of (by kernel_rfl) h

theorem spec_l7Step_n4_l (x3898 : List Int) (x3899 : Int) (x3900 : Int) (x4430 : Int) (x4691 : Bool) (x3901 : List Int) : Link spec_l7Step_ctx LL (Code.fst (Code.snd (Code.snd (Code.fst (Code.fst (Code.snd (Code.snd (bodyOf Try.f23)))))))) (Ann.fst (Ann.snd (Ann.snd (Ann.fst (Ann.fst (Ann.snd (Ann.snd spec_l7Step_an))))))) (⟨mkE 125 0 [(0, .slc 0), (1, .dat (.list (.int .i64)) x3898), (2, .dat (.int .i64) x3899), (3, .dat (.int .u8) x3900), (11, .dat (.int .i64) x4430), (15, .dat .bool x4691)], [some (.seq (.int .i64) x3901)]⟩ : St) (spec_l7Step_n4 x3898 x3899 x3900 x4430 x3901) (fun (t : Bool) => (Exit.normal, (⟨mkE 125 0 [(0, .slc 0), (1, .dat (.list (.int .i64)) x3898), (2, .dat (.int .i64) x3899), (3, .dat (.int .u8) x3900), (11, .dat (.int .i64) x4430), (32, .dat .bool t)], [some (.seq (.int .i64) x3901)]⟩ : St))) := by
  refine Link.of fun K h => ?_
  simp only [spec_l7Step_n4, wpO_bind, wpO_cond, wpO_map, wpO_some] at h
  exact Awp.of (by kernel_rfl) h

theorem spec_l7Step_n5_l (x3898 : List Int) (x3899 : Int) (x3900 : Int) (x4430 : Int) (x4889 : Bool) (x3901 : List Int) : Link spec_l7Step_ctx LL (Code.snd (Code.snd (Code.snd (Code.fst (Code.fst (Code.snd (Code.snd (bodyOf Try.f23)))))))) (Ann.snd (Ann.snd (Ann.snd (Ann.fst (Ann.fst (Ann.snd (Ann.snd spec_l7Step_an))))))) (⟨mkE 125 0 [(0, .slc 0), (1, .dat (.list (.int .i64)) x3898), (2, .dat (.int .i64) x3899), (3, .dat (.int .u8) x3900), (11, .dat (.int .i64) x4430), (32, .dat .bool x4889)], [some (.seq (.int .i64) x3901)]⟩ : St) (spec_l7Step_n5 x3898 x3899 x3900 x4430 x4889 x3901) (Sum.elim (fun (t : Unit) => (Exit.normal, (⟨mkE 125 0 [(1, .dat (.list (.int .i64)) x3898), (2, .dat (.int .i64) x3899)], [some (.seq (.int .i64) x3901)]⟩ : St))) (fun (t : (List Int) × Int × Bool × (List Int)) => (Exit.ret, (⟨mkE 125 0 [(8, .dat (.list (.int .i64)) t.1), (9, .dat (.int .i64) t.2.1), (10, .dat .bool t.2.2.1)], [some (.seq (.int .i64) t.2.2.2)]⟩ : St)))) := by
  refine Link.of fun K h => ?_
  simp only [spec_l7Step_n5, wpO_bind, wpO_cond, wpO_map, wpO_some] at h
  exact Awp.of (by kernel_rfl) h

theorem spec_l7Step_n6_l (x3898 : List Int) (x3899 : Int) (x3900 : Int) (x4430 : Int) (x4691 : Bool) (x3901 : List Int) : Link spec_l7Step_ctx LL (Code.snd (Code.snd (Code.fst (Code.fst (Code.snd (Code.snd (bodyOf Try.f23))))))) (Ann.snd (Ann.snd (Ann.fst (Ann.fst (Ann.snd (Ann.snd spec_l7Step_an)))))) (⟨mkE 125 0 [(0, .slc 0), (1, .dat (.list (.int .i64)) x3898), (2, .dat (.int .i64) x3899), (3, .dat (.int .u8) x3900), (11, .dat (.int .i64) x4430), (15, .dat .bool x4691)], [some (.seq (.int .i64) x3901)]⟩ : St) (spec_l7Step_n6 x3898 x3899 x3900 x4430 x3901) (Sum.elim (fun (t : Unit) => (Exit.normal, (⟨mkE 125 0 [(1, .dat (.list (.int .i64)) x3898), (2, .dat (.int .i64) x3899)], [some (.seq (.int .i64) x3901)]⟩ : St))) (fun (t : (List Int) × Int × Bool × (List Int)) => (Exit.ret, (⟨mkE 125 0 [(8, .dat (.list (.int .i64)) t.1), (9, .dat (.int .i64) t.2.1), (10, .dat .bool t.2.2.1)], [some (.seq (.int .i64) t.2.2.2)]⟩ : St)))) := by
  unfold spec_l7Step_n6
  exact Link.cast (by kernel_rfl) (by kernel_rfl) (link_seq (b := (Code.snd (Code.snd (Code.snd (Code.fst (Code.fst (Code.snd (Code.snd (bodyOf Try.f23))))))))) (y := (Ann.snd (Ann.snd (Ann.snd (Ann.fst (Ann.fst (Ann.snd (Ann.snd spec_l7Step_an)))))))) (spec_l7Step_n4_l x3898 x3899 x3900 x4430 x4691 x3901) (fun (t : Bool) => (spec_l7Step_n5_l x3898 x3899 x3900 x4430 t x3901)))

theorem spec_l7Step_n7_l (x3898 : List Int) (x3899 : Int) (x3900 : Int) (x4430 : Int) (x4691 : Bool) (x3901 : List Int) : Link spec_l7Step_ctx LL (Code.snd (Code.fst (Code.fst (Code.snd (Code.snd (bodyOf Try.f23)))))) (Ann.snd (Ann.fst (Ann.fst (Ann.snd (Ann.snd spec_l7Step_an))))) (⟨mkE 125 0 [(0, .slc 0), (1, .dat (.list (.int .i64)) x3898), (2, .dat (.int .i64) x3899), (3, .dat (.int .u8) x3900), (11, .dat (.int .i64) x4430), (15, .dat .bool x4691)], [some (.seq (.int .i64) x3901)]⟩ : St) (spec_l7Step_n7 x3898 x3899 x3900 x4430 x4691 x3901) (Sum.elim (fun (t : Unit) => (Exit.normal, (⟨mkE 125 0 [(1, .dat (.list (.int .i64)) x3898), (2, .dat (.int .i64) x3899)], [some (.seq (.int .i64) x3901)]⟩ : St))) (fun (t : (List Int) × Int × Bool × (List Int)) => (Exit.ret, (⟨mkE 125 0 [(8, .dat (.list (.int .i64)) t.1), (9, .dat (.int .i64) t.2.1), (10, .dat .bool t.2.2.1)], [some (.seq (.int .i64) t.2.2.2)]⟩ : St)))) := by
  unfold spec_l7Step_n7
  exact Link.cast (by kernel_rfl) (by kernel_rfl) (link_cond (c := .tmp 15) (by kernel_rfl) ((link_map (spec_l7Step_n3_l x3898 x3899 x3900 x4430 x4691 x3901) (fun (t : (List Int) × Int × Bool × (List Int)) => (Sum.inr t)) (by
  rintro t
  · kernel_rfl))) ((spec_l7Step_n6_l x3898 x3899 x3900 x4430 x4691 x3901)))

theorem spec_l7Step_n8_l (x3898 : List Int) (x3899 : Int) (x3900 : Int) (x4430 : Int) (x3901 : List Int) : Link spec_l7Step_ctx LL (Code.fst (Code.fst (Code.snd (Code.snd (bodyOf Try.f23))))) (Ann.fst (Ann.fst (Ann.snd (Ann.snd spec_l7Step_an)))) (⟨mkE 125 0 [(0, .slc 0), (1, .dat (.list (.int .i64)) x3898), (2, .dat (.int .i64) x3899), (3, .dat (.int .u8) x3900), (11, .dat (.int .i64) x4430)], [some (.seq (.int .i64) x3901)]⟩ : St) (spec_l7Step_n8 x3898 x3899 x3900 x4430 x3901) (Sum.elim (fun (t : Unit) => (Exit.normal, (⟨mkE 125 0 [(1, .dat (.list (.int .i64)) x3898), (2, .dat (.int .i64) x3899)], [some (.seq (.int .i64) x3901)]⟩ : St))) (fun (t : (List Int) × Int × Bool × (List Int)) => (Exit.ret, (⟨mkE 125 0 [(8, .dat (.list (.int .i64)) t.1), (9, .dat (.int .i64) t.2.1), (10, .dat .bool t.2.2.1)], [some (.seq (.int .i64) t.2.2.2)]⟩ : St)))) := by
  unfold spec_l7Step_n8
  exact Link.cast (by kernel_rfl) (by kernel_rfl) (link_seq (b := (Code.snd (Code.fst (Code.fst (Code.snd (Code.snd (bodyOf Try.f23))))))) (y := (Ann.snd (Ann.fst (Ann.fst (Ann.snd (Ann.snd spec_l7Step_an)))))) (spec_l7Step_n2_l x3898 x3899 x3900 x4430 x3901) (fun (t : Bool) => (spec_l7Step_n7_l x3898 x3899 x3900 x4430 t x3901)))

theorem spec_l7Step_n9_l (x3898 : List Int) (x3899 : Int) (x3900 : Int) (x4430 : Int) (x3901 : List Int) : Link spec_l7Step_ctx LL (Code.fst (Code.snd (Code.snd (bodyOf Try.f23)))) (Ann.fst (Ann.snd (Ann.snd spec_l7Step_an))) (⟨mkE 125 0 [(0, .slc 0), (1, .dat (.list (.int .i64)) x3898), (2, .dat (.int .i64) x3899), (3, .dat (.int .u8) x3900), (11, .dat (.int .i64) x4430)], [some (.seq (.int .i64) x3901)]⟩ : St) (spec_l7Step_n9 x3898 x3899 x3900 x4430 x3901) (Sum.elim (fun (t : Unit) => (Exit.normal, (⟨mkE 125 0 [(1, .dat (.list (.int .i64)) x3898), (2, .dat (.int .i64) x3899)], [some (.seq (.int .i64) x3901)]⟩ : St))) (fun (t : (List Int) × Int × Bool × (List Int)) => (Exit.ret, (⟨mkE 125 0 [(8, .dat (.list (.int .i64)) t.1), (9, .dat (.int .i64) t.2.1), (10, .dat .bool t.2.2.1)], [some (.seq (.int .i64) t.2.2.2)]⟩ : St)))) := by
  unfold spec_l7Step_n9
  exact Link.cast (by kernel_rfl) (by kernel_rfl) (link_block (id := 0) (spec_l7Step_n8_l x3898 x3899 x3900 x4430 x3901) (Sum.elim (fun (t : Unit) => (Sum.inl ())) (fun (t : (List Int) × Int × Bool × (List Int)) => (Sum.inr t))) (by
  rintro (t | t) K h
  · exact Eq.mp (by kernel_rfl) h
  · exact Eq.mp (by kernel_rfl) h))

theorem spec_l7Step_n10_l (x3898 : List Int) (x3899 : Int) (x3901 : List Int) : Link spec_l7Step_ctx LL (Code.snd (Code.snd (Code.snd (bodyOf Try.f23)))) (Ann.snd (Ann.snd (Ann.snd spec_l7Step_an))) (⟨mkE 125 0 [(1, .dat (.list (.int .i64)) x3898), (2, .dat (.int .i64) x3899)], [some (.seq (.int .i64) x3901)]⟩ : St) (spec_l7Step_n10 x3898 x3899 x3901) (fun (t : (List Int) × Int × Bool × (List Int)) => (Exit.ret, (⟨mkE 125 0 [(8, .dat (.list (.int .i64)) t.1), (9, .dat (.int .i64) t.2.1), (10, .dat .bool t.2.2.1)], [some (.seq (.int .i64) t.2.2.2)]⟩ : St))) := by
  refine Link.of fun K h => ?_
  simp only [spec_l7Step_n10, wpO_bind, wpO_cond, wpO_map, wpO_some] at h
  exact Awp.of (by kernel_rfl) h

theorem spec_l7Step_n11_l (x3898 : List Int) (x3899 : Int) (x3900 : Int) (x4430 : Int) (x3901 : List Int) : Link spec_l7Step_ctx LL (Code.snd (Code.snd (bodyOf Try.f23))) (Ann.snd (Ann.snd spec_l7Step_an)) (⟨mkE 125 0 [(0, .slc 0), (1, .dat (.list (.int .i64)) x3898), (2, .dat (.int .i64) x3899), (3, .dat (.int .u8) x3900), (11, .dat (.int .i64) x4430)], [some (.seq (.int .i64) x3901)]⟩ : St) (spec_l7Step_n11 x3898 x3899 x3900 x4430 x3901) (fun (t : (List Int) × Int × Bool × (List Int)) => (Exit.ret, (⟨mkE 125 0 [(8, .dat (.list (.int .i64)) t.1), (9, .dat (.int .i64) t.2.1), (10, .dat .bool t.2.2.1)], [some (.seq (.int .i64) t.2.2.2)]⟩ : St))) := by
  unfold spec_l7Step_n11
  exact Link.cast (by kernel_rfl) (by kernel_rfl) (link_seq2 (b := (Code.snd (Code.snd (Code.snd (bodyOf Try.f23))))) (y := (Ann.snd (Ann.snd (Ann.snd spec_l7Step_an)))) (spec_l7Step_n9_l x3898 x3899 x3900 x4430 x3901) (fun (t : Unit) => (spec_l7Step_n10_l x3898 x3899 x3901)) (fun (t : (List Int) × Int × Bool × (List Int)) => t) (by
  rintro t
  · kernel_rfl) (by
  rintro t f K h
  · exact h))

theorem spec_l7Step_n12_l (x3898 : List Int) (x3899 : Int) (x3900 : Int) (x3901 : List Int) : Link spec_l7Step_ctx LL (bodyOf Try.f23) spec_l7Step_an (⟨mkE 125 0 [(0, .slc 0), (1, .dat (.list (.int .i64)) x3898), (2, .dat (.int .i64) x3899), (3, .dat (.int .u8) x3900)], [some (.seq (.int .i64) x3901)]⟩ : St) (spec_l7Step_n12 x3898 x3899 x3900 x3901) (fun (t : (List Int) × Int × Bool × (List Int)) => (Exit.ret, (⟨mkE 125 0 [(8, .dat (.list (.int .i64)) t.1), (9, .dat (.int .i64) t.2.1), (10, .dat .bool t.2.2.1)], [some (.seq (.int .i64) t.2.2.2)]⟩ : St))) := by
  unfold spec_l7Step_n12
  exact Link.cast (by kernel_rfl) (by kernel_rfl) (link_group (c := (Code.fst (Code.snd (bodyOf Try.f23)))) (a := (Ann.fst (Ann.snd spec_l7Step_an))) [(Code.fst (bodyOf Try.f23))] [(Ann.fst spec_l7Step_an)] rfl (link_seq (b := (Code.snd (Code.snd (bodyOf Try.f23)))) (y := (Ann.snd (Ann.snd spec_l7Step_an))) (spec_l7Step_n1_l x3898 x3899 x3900 x3901) (fun (t : Int) => (spec_l7Step_n11_l x3898 x3899 x3900 t x3901))))

theorem spec_l7Step_e (x3898 : List Int) (x3899 : Int) (x3900 : Int) (x3901 : List Int) {r : AV} {H' : Heap} (h : (Ans.mk _ (spec_l7Step x3898 x3899 x3900 x3901) (fun (t : (List Int) × Int × Bool × (List Int)) => (.tup [.dat (.list (.int .i64)) t.1, .dat (.int .i64) t.2.1, .dat .bool t.2.2.1], [some (.seq (.int .i64) t.2.2.2)])) [] none).run = some (r, H')) : Awp spec_l7Step_ctx LL (bodyOf Try.f23) spec_l7Step_an (⟨mkE 125 0 [(0, .slc 0), (1, .dat (.list (.int .i64)) x3898), (2, .dat (.int .i64) x3899), (3, .dat (.int .u8) x3900)], [some (.seq (.int .i64) x3901)]⟩ : St) (Ret (tlook tys) Try.f23.results.toList r H') :=
  ret_of' (spec_l7Step_n12_l x3898 x3899 x3900 x3901) (by unfold spec_l7Step; kernel_rfl) (by
  intro t
  exact ret_mk [.dat (.list (.int .i64)) t.1, .dat (.int .i64) t.2.1, .dat .bool t.2.2.1] (by kernel_rfl) (by kernel_rfl) (by kernel_rfl) (by kernel_rfl)) h

def F_spec_l7Step : Fun := fun avs H =>
  match avs, H with
  | [.slc 0, .dat (.list (.int .i64)) x3898, .dat (.int .i64) x3899, .dat (.int .u8) x3900], [some (.seq (.int .i64) x3901)] => ⟨_, spec_l7Step x3898 x3899 x3900 x3901, fun (t : (List Int) × Int × Bool × (List Int)) => (.tup [.dat (.list (.int .i64)) t.1, .dat (.int .i64) t.2.1, .dat .bool t.2.2.1], [some (.seq (.int .i64) t.2.2.2)]), [], none⟩
  | _, _ => Ans.no

theorem spec_l7Step_sound : Sound Try.prog 23 F_spec_l7Step := by
  refine fn_sound' (C := spec_l7Step_ctx) (c := bodyOf Try.f23) (cok_of tys_ok (by simp) (by simp) (by kernel_rfl)) Try.func23 (by kernel_rfl) LL spec_l7Step_an ?_
  intro avs H r H' h
  unfold F_spec_l7Step at h
  split at h
  · refine Awp.cast ?_ ?_ ?_ (spec_l7Step_e _ _ _ _ h) <;> kernel_rfl
  · simp [Ans.no, Ans.run] at h


/-! loop.example/headtrees/spec.RunEager -/

def spec_RunEager_an : Ann := (.seq (.leaf [0, 1]) (.seq (.seq (.leaf [0, 1, 18]) (.cond (.seq (.leaf [4, 5]) (.leaf [4, 5])) (.leaf [0, 1]))) (.seq (.leaf [0, 1, 6]) (.seq (.seq (.leaf [0, 1, 6, 7]) (.block (.loop (.seq (.seq (.leaf [0, 1, 6, 7, 23]) (.cond (.leaf [0, 1, 6, 7]) (.leaf [0, 1, 6]))) (.seq (.block (.leaf [0, 1, 6, 7])) (.leaf [0, 1, 6, 7])))))) (.seq (.leaf [0, 1, 6, 8]) (.seq (.leaf [0, 1, 6, 8, 9]) (.seq (.seq (.leafF [⟨1, 8, false, none, none⟩] [0, 1, 6, 8, 9, 10]) (.block (.loop (.seq (.seq (.leaf [0, 1, 6, 8, 9, 10, 33]) (.cond (.leaf [0, 1, 6, 8, 9, 10]) (.leaf [0, 6, 9]))) (.seq (.block (.seq (.leafF [⟨6, 38, false, none, none⟩] [0, 1, 6, 10, 11, 12, 13]) (.seq (.seq (.leaf [0, 1, 6, 10, 11, 12, 48]) (.cond (.seq (.leaf [4, 5]) (.leaf [4, 5])) (.leaf [0, 1, 6, 10, 11, 12]))) (.seq (.leaf [0, 1, 6, 8, 10, 12]) (.leaf [0, 1, 6, 8, 9, 10]))))) (.leaf [0, 1, 6, 8, 9, 10])))))) (.seq (.leaf [0, 6, 9, 14]) (.seq (.seq (.leaf [0, 6, 9, 14, 15]) (.block (.loop (.seq (.seq (.leaf [0, 6, 9, 14, 15, 54]) (.cond (.leaf [0, 6, 9, 14, 15]) (.leaf [0, 6, 9, 14]))) (.seq (.block (.seq (.leaf [0, 6, 9, 14, 15, 61]) (.cond (.seq (.leaf [0, 6, 9, 14, 15]) (.leaf [0, 6, 9, 14, 15])) (.leaf [0, 6, 9, 14, 15])))) (.leaf [0, 6, 9, 14, 15])))))) (.seq (.seq (.leaf [6, 73]) (.cond (.seq (.leaf [4, 5]) (.leaf [4, 5])) (.leaf [6]))) (.seq (.leaf [4, 5]) (.leaf [4, 5]))))))))))))

noncomputable def spec_RunEager_ctx : Ctx := ⟨tlook tys, olook [(21, F_spec_l1In), (23, F_spec_l7Step)], ioF, 0, false, []⟩

theorem spec_RunEager_n1_l (x3861 : Int) (x3862 : ByteArray) : Link spec_RunEager_ctx LL (Code.seq (Code.fst (bodyOf Try.f16)) (Code.seq (Code.fst (Code.snd (bodyOf Try.f16))) (Code.fst (Code.snd (Code.snd (bodyOf Try.f16)))))) (Ann.seq (Ann.fst spec_RunEager_an) (Ann.seq (Ann.fst (Ann.snd spec_RunEager_an)) (Ann.fst (Ann.snd (Ann.snd spec_RunEager_an))))) (⟨mkE 76 0 [(0, .dat (.int .i64) x3861), (1, .dat .str x3862)], []⟩ : St) (spec_RunEager_n1 x3861) (Sum.elim (fun (t : Unit) => (Exit.normal, (⟨mkE 76 0 [(0, .dat (.int .i64) x3861), (1, .dat .str x3862), (6, .slc 0)], [some (.seq (.int .i64) ([] : List Int))]⟩ : St))) (fun (t : Bool × (List Int)) => (Exit.ret, (⟨mkE 76 0 [(4, .slc 0), (5, .dat .bool t.1)], [some (.seq (.int .i64) t.2)]⟩ : St)))) := by
  refine Link.of fun K h => ?_
  simp only [spec_RunEager_n1, wpO_bind, wpO_cond, wpO_map, wpO_some] at h
  exact Awp.of (by kernel_rfl) h

theorem spec_RunEager_n2_l (x3861 : Int) (x3862 : ByteArray) : Link spec_RunEager_ctx LL (Code.fst (Code.fst (Code.snd (Code.snd (Code.snd (bodyOf Try.f16)))))) (Ann.fst (Ann.fst (Ann.snd (Ann.snd (Ann.snd spec_RunEager_an))))) (⟨mkE 76 0 [(0, .dat (.int .i64) x3861), (1, .dat .str x3862), (6, .slc 0)], [some (.seq (.int .i64) ([] : List Int))]⟩ : St) (spec_RunEager_n2) (fun (t : Unit) => (Exit.normal, (⟨mkE 76 0 [(0, .dat (.int .i64) x3861), (1, .dat .str x3862), (6, .slc 0), (7, .dat (.int .i64) 0)], [some (.seq (.int .i64) ([] : List Int))]⟩ : St))) := by
  refine Link.of fun K h => ?_
  simp only [spec_RunEager_n2, wpO_bind, wpO_cond, wpO_map, wpO_some] at h
  exact Awp.of (by kernel_rfl) h

theorem spec_RunEager_n3_l (x3861 : Int) (x3862 : ByteArray) (x5026 : Int) (x5027 : List Int) : Link spec_RunEager_ctx LL (Code.fst (Code.fst (Code.snd (Code.fst (Code.snd (Code.snd (Code.snd (bodyOf Try.f16)))))))) (Ann.fst (Ann.fst (Ann.snd (Ann.fst (Ann.snd (Ann.snd (Ann.snd spec_RunEager_an))))))) (⟨mkE 76 0 [(0, .dat (.int .i64) x3861), (1, .dat .str x3862), (6, .slc 0), (7, .dat (.int .i64) x5026)], [some (.seq (.int .i64) x5027)]⟩ : St) (spec_RunEager_n3 x3861 x5026 x5027) (Sum.elim (fun (t : Int × (List Int)) => (Exit.normal, (⟨mkE 76 0 [(0, .dat (.int .i64) x3861), (1, .dat .str x3862), (6, .slc 0), (7, .dat (.int .i64) t.1)], [some (.seq (.int .i64) t.2)]⟩ : St))) (fun (t : (List Int)) => ((Exit.exit 0), (⟨mkE 76 0 [(0, .dat (.int .i64) x3861), (1, .dat .str x3862), (6, .slc 0)], [some (.seq (.int .i64) t)]⟩ : St)))) := by
  refine Link.of fun K h => ?_
  simp only [spec_RunEager_n3, wpO_bind, wpO_cond, wpO_map, wpO_some] at h
  exact Awp.of (by kernel_rfl) h

theorem spec_RunEager_n4_l (x3861 : Int) (x3862 : ByteArray) : Link spec_RunEager_ctx LL (Code.fst (Code.snd (Code.fst (Code.snd (Code.snd (Code.snd (bodyOf Try.f16))))))) (Ann.fst (Ann.snd (Ann.fst (Ann.snd (Ann.snd (Ann.snd spec_RunEager_an)))))) (⟨mkE 76 0 [(0, .dat (.int .i64) x3861), (1, .dat .str x3862), (6, .slc 0), (7, .dat (.int .i64) 0)], [some (.seq (.int .i64) ([] : List Int))]⟩ : St) (spec_RunEager_n4 x3861) (fun (t : (List Int)) => ((Exit.exit 0), (⟨mkE 76 0 [(0, .dat (.int .i64) x3861), (1, .dat .str x3862), (6, .slc 0)], [some (.seq (.int .i64) t)]⟩ : St))) := by
  unfold spec_RunEager_n4
  exact Link.cast (by kernel_rfl) (by kernel_rfl) (link_loop (mk := fun (s : Int × (List Int)) => (⟨mkE 76 0 [(0, .dat (.int .i64) x3861), (1, .dat .str x3862), (6, .slc 0), (7, .dat (.int .i64) s.1)], [some (.seq (.int .i64) s.2)]⟩ : St)) (fin := (fun (t : (List Int)) => ((Exit.exit 0), (⟨mkE 76 0 [(0, .dat (.int .i64) x3861), (1, .dat .str x3862), (6, .slc 0)], [some (.seq (.int .i64) t)]⟩ : St)))) (by
  rintro t f K h
  · exact h) (fun s => link_map (spec_RunEager_n3_l x3861 x3862 s.1 s.2) (Sum.elim (fun (t : Int × (List Int)) => Sum.inl (t.1, t.2)) (fun (t : (List Int)) => Sum.inr t)) (by
  rintro (t | t)
  · kernel_rfl
  · kernel_rfl)) (0, ([] : List Int)))

theorem spec_RunEager_n5_l (x3861 : Int) (x3862 : ByteArray) : Link spec_RunEager_ctx LL (Code.snd (Code.fst (Code.snd (Code.snd (Code.snd (bodyOf Try.f16)))))) (Ann.snd (Ann.fst (Ann.snd (Ann.snd (Ann.snd spec_RunEager_an))))) (⟨mkE 76 0 [(0, .dat (.int .i64) x3861), (1, .dat .str x3862), (6, .slc 0), (7, .dat (.int .i64) 0)], [some (.seq (.int .i64) ([] : List Int))]⟩ : St) (spec_RunEager_n5 x3861) (fun (t : (List Int)) => (Exit.normal, (⟨mkE 76 0 [(0, .dat (.int .i64) x3861), (1, .dat .str x3862), (6, .slc 0)], [some (.seq (.int .i64) t)]⟩ : St))) := by
  unfold spec_RunEager_n5
  exact Link.cast (by kernel_rfl) (by kernel_rfl) (link_block (id := 0) (spec_RunEager_n4_l x3861 x3862) (fun (t : (List Int)) => t) (by
  rintro t K h
  · exact Eq.mp (by kernel_rfl) h))

theorem spec_RunEager_n6_l (x3861 : Int) (x3862 : ByteArray) : Link spec_RunEager_ctx LL (Code.fst (Code.snd (Code.snd (Code.snd (bodyOf Try.f16))))) (Ann.fst (Ann.snd (Ann.snd (Ann.snd spec_RunEager_an)))) (⟨mkE 76 0 [(0, .dat (.int .i64) x3861), (1, .dat .str x3862), (6, .slc 0)], [some (.seq (.int .i64) ([] : List Int))]⟩ : St) (spec_RunEager_n6 x3861) (fun (t : (List Int)) => (Exit.normal, (⟨mkE 76 0 [(0, .dat (.int .i64) x3861), (1, .dat .str x3862), (6, .slc 0)], [some (.seq (.int .i64) t)]⟩ : St))) := by
  unfold spec_RunEager_n6
  exact Link.cast (by kernel_rfl) (by kernel_rfl) (link_seq (b := (Code.snd (Code.fst (Code.snd (Code.snd (Code.snd (bodyOf Try.f16))))))) (y := (Ann.snd (Ann.fst (Ann.snd (Ann.snd (Ann.snd spec_RunEager_an)))))) (spec_RunEager_n2_l x3861 x3862) (fun (t : Unit) => (spec_RunEager_n5_l x3861 x3862)))

theorem spec_RunEager_n7_l (x3861 : Int) (x3862 : ByteArray) (x5027 : List Int) : Link spec_RunEager_ctx LL (Code.seq (Code.fst (Code.snd (Code.snd (Code.snd (Code.snd (bodyOf Try.f16)))))) (Code.fst (Code.snd (Code.snd (Code.snd (Code.snd (Code.snd (bodyOf Try.f16)))))))) (Ann.seq (Ann.fst (Ann.snd (Ann.snd (Ann.snd (Ann.snd spec_RunEager_an))))) (Ann.fst (Ann.snd (Ann.snd (Ann.snd (Ann.snd (Ann.snd spec_RunEager_an))))))) (⟨mkE 76 0 [(0, .dat (.int .i64) x3861), (1, .dat .str x3862), (6, .slc 0)], [some (.seq (.int .i64) x5027)]⟩ : St) (spec_RunEager_n7) (fun (t : Unit) => (Exit.normal, (⟨mkE 76 0 [(0, .dat (.int .i64) x3861), (1, .dat .str x3862), (6, .slc 0), (8, .slc 1), (9, .dat (.int .i64) 1)], [some (.seq (.int .i64) x5027), some (.seq (.int .i64) ([] : List Int))]⟩ : St))) := by
  refine Link.of fun K h => ?_
  simp only [spec_RunEager_n7, wpO_bind, wpO_cond, wpO_map, wpO_some] at h
  exact Awp.of (by kernel_rfl) h

theorem spec_RunEager_n8_l (x3861 : Int) (x3862 : ByteArray) (x5027 : List Int) : Link spec_RunEager_ctx LL (Code.fst (Code.fst (Code.snd (Code.snd (Code.snd (Code.snd (Code.snd (Code.snd (bodyOf Try.f16))))))))) (Ann.fst (Ann.fst (Ann.snd (Ann.snd (Ann.snd (Ann.snd (Ann.snd (Ann.snd spec_RunEager_an)))))))) (⟨mkE 76 0 [(0, .dat (.int .i64) x3861), (1, .dat .str x3862), (6, .slc 0), (8, .slc 1), (9, .dat (.int .i64) 1)], [some (.seq (.int .i64) x5027), some (.seq (.int .i64) ([] : List Int))]⟩ : St) (spec_RunEager_n8) (fun (t : Unit) => (Exit.normal, (⟨mkE 76 0 [(0, .dat (.int .i64) x3861), (1, .dat .str x3862), (6, .slc 0), (8, .dat (.list (.int .i64)) ([] : List Int)), (9, .dat (.int .i64) 1), (10, .dat (.int .i64) 0)], [some (.seq (.int .i64) x5027)]⟩ : St))) := by
  refine Link.of fun K h => ?_
  simp only [spec_RunEager_n8, wpO_bind, wpO_cond, wpO_map, wpO_some] at h
  exact Awp.of (by kernel_rfl) h

theorem spec_RunEager_n9_l (x3861 : Int) (x3862 : ByteArray) (x5061 : List Int) (x5062 : Int) (x5063 : Int) (x5064 : List Int) : Link spec_RunEager_ctx LL (Code.fst (Code.fst (Code.snd (Code.fst (Code.snd (Code.snd (Code.snd (Code.snd (Code.snd (Code.snd (bodyOf Try.f16))))))))))) (Ann.fst (Ann.fst (Ann.snd (Ann.fst (Ann.snd (Ann.snd (Ann.snd (Ann.snd (Ann.snd (Ann.snd spec_RunEager_an)))))))))) (⟨mkE 76 0 [(0, .dat (.int .i64) x3861), (1, .dat .str x3862), (6, .slc 0), (8, .dat (.list (.int .i64)) x5061), (9, .dat (.int .i64) x5062), (10, .dat (.int .i64) x5063)], [some (.seq (.int .i64) x5064)]⟩ : St) (spec_RunEager_n9 x3862 x5061 x5062 x5063 x5064) (Sum.elim (fun (t : (List Int) × Int × Int × (List Int)) => (Exit.normal, (⟨mkE 76 0 [(0, .dat (.int .i64) x3861), (1, .dat .str x3862), (6, .slc 0), (8, .dat (.list (.int .i64)) t.1), (9, .dat (.int .i64) t.2.1), (10, .dat (.int .i64) t.2.2.1)], [some (.seq (.int .i64) t.2.2.2)]⟩ : St))) (Sum.elim (fun (t : Bool × (List Int)) => (Exit.ret, (⟨mkE 76 0 [(4, .slc 0), (5, .dat .bool t.1)], [some (.seq (.int .i64) t.2)]⟩ : St))) (fun (t : Int × (List Int)) => ((Exit.exit 2), (⟨mkE 76 0 [(0, .dat (.int .i64) x3861), (6, .slc 0), (9, .dat (.int .i64) t.1)], [some (.seq (.int .i64) t.2)]⟩ : St))))) := by
  refine Link.of fun K h => ?_
  simp only [spec_RunEager_n9, wpO_bind, wpO_cond, wpO_map, wpO_some] at h
  exact Awp.of (by kernel_rfl) h

theorem spec_RunEager_n10_l (x3861 : Int) (x3862 : ByteArray) (x5027 : List Int) : Link spec_RunEager_ctx LL (Code.fst (Code.snd (Code.fst (Code.snd (Code.snd (Code.snd (Code.snd (Code.snd (Code.snd (bodyOf Try.f16)))))))))) (Ann.fst (Ann.snd (Ann.fst (Ann.snd (Ann.snd (Ann.snd (Ann.snd (Ann.snd (Ann.snd spec_RunEager_an))))))))) (⟨mkE 76 0 [(0, .dat (.int .i64) x3861), (1, .dat .str x3862), (6, .slc 0), (8, .dat (.list (.int .i64)) ([] : List Int)), (9, .dat (.int .i64) 1), (10, .dat (.int .i64) 0)], [some (.seq (.int .i64) x5027)]⟩ : St) (spec_RunEager_n10 x3862 x5027) (Sum.elim (fun (t : Bool × (List Int)) => (Exit.ret, (⟨mkE 76 0 [(4, .slc 0), (5, .dat .bool t.1)], [some (.seq (.int .i64) t.2)]⟩ : St))) (fun (t : Int × (List Int)) => ((Exit.exit 2), (⟨mkE 76 0 [(0, .dat (.int .i64) x3861), (6, .slc 0), (9, .dat (.int .i64) t.1)], [some (.seq (.int .i64) t.2)]⟩ : St)))) := by
  unfold spec_RunEager_n10
  exact Link.cast (by kernel_rfl) (by kernel_rfl) (link_loop (mk := fun (s : (List Int) × Int × Int × (List Int)) => (⟨mkE 76 0 [(0, .dat (.int .i64) x3861), (1, .dat .str x3862), (6, .slc 0), (8, .dat (.list (.int .i64)) s.1), (9, .dat (.int .i64) s.2.1), (10, .dat (.int .i64) s.2.2.1)], [some (.seq (.int .i64) s.2.2.2)]⟩ : St)) (fin := (Sum.elim (fun (t : Bool × (List Int)) => (Exit.ret, (⟨mkE 76 0 [(4, .slc 0), (5, .dat .bool t.1)], [some (.seq (.int .i64) t.2)]⟩ : St))) (fun (t : Int × (List Int)) => ((Exit.exit 2), (⟨mkE 76 0 [(0, .dat (.int .i64) x3861), (6, .slc 0), (9, .dat (.int .i64) t.1)], [some (.seq (.int .i64) t.2)]⟩ : St))))) (by
  rintro (t | t) f K h
  · exact h
  · exact h) (fun s => link_map (spec_RunEager_n9_l x3861 x3862 s.1 s.2.1 s.2.2.1 s.2.2.2) (Sum.elim (fun (t : (List Int) × Int × Int × (List Int)) => Sum.inl (t.1, t.2.1, t.2.2.1, t.2.2.2)) (Sum.elim (fun (t : Bool × (List Int)) => Sum.inr (Sum.inl t)) (fun (t : Int × (List Int)) => Sum.inr (Sum.inr t)))) (by
  rintro (t | t | t)
  · kernel_rfl
  · kernel_rfl
  · kernel_rfl)) (([] : List Int), 1, 0, x5027))

theorem spec_RunEager_n11_l (x3861 : Int) (x3862 : ByteArray) (x5027 : List Int) : Link spec_RunEager_ctx LL (Code.snd (Code.fst (Code.snd (Code.snd (Code.snd (Code.snd (Code.snd (Code.snd (bodyOf Try.f16))))))))) (Ann.snd (Ann.fst (Ann.snd (Ann.snd (Ann.snd (Ann.snd (Ann.snd (Ann.snd spec_RunEager_an)))))))) (⟨mkE 76 0 [(0, .dat (.int .i64) x3861), (1, .dat .str x3862), (6, .slc 0), (8, .dat (.list (.int .i64)) ([] : List Int)), (9, .dat (.int .i64) 1), (10, .dat (.int .i64) 0)], [some (.seq (.int .i64) x5027)]⟩ : St) (spec_RunEager_n11 x3862 x5027) (Sum.elim (fun (t : Int × (List Int)) => (Exit.normal, (⟨mkE 76 0 [(0, .dat (.int .i64) x3861), (6, .slc 0), (9, .dat (.int .i64) t.1)], [some (.seq (.int .i64) t.2)]⟩ : St))) (fun (t : Bool × (List Int)) => (Exit.ret, (⟨mkE 76 0 [(4, .slc 0), (5, .dat .bool t.1)], [some (.seq (.int .i64) t.2)]⟩ : St)))) := by
  unfold spec_RunEager_n11
  exact Link.cast (by kernel_rfl) (by kernel_rfl) (link_block (id := 2) (spec_RunEager_n10_l x3861 x3862 x5027) (Sum.elim (fun (t : Bool × (List Int)) => (Sum.inr t)) (fun (t : Int × (List Int)) => (Sum.inl (t.1, t.2)))) (by
  rintro (t | t) K h
  · exact Eq.mp (by kernel_rfl) h
  · exact Eq.mp (by kernel_rfl) h))

theorem spec_RunEager_n12_l (x3861 : Int) (x3862 : ByteArray) (x5027 : List Int) : Link spec_RunEager_ctx LL (Code.fst (Code.snd (Code.snd (Code.snd (Code.snd (Code.snd (Code.snd (bodyOf Try.f16)))))))) (Ann.fst (Ann.snd (Ann.snd (Ann.snd (Ann.snd (Ann.snd (Ann.snd spec_RunEager_an))))))) (⟨mkE 76 0 [(0, .dat (.int .i64) x3861), (1, .dat .str x3862), (6, .slc 0), (8, .slc 1), (9, .dat (.int .i64) 1)], [some (.seq (.int .i64) x5027), some (.seq (.int .i64) ([] : List Int))]⟩ : St) (spec_RunEager_n12 x3862 x5027) (Sum.elim (fun (t : Int × (List Int)) => (Exit.normal, (⟨mkE 76 0 [(0, .dat (.int .i64) x3861), (6, .slc 0), (9, .dat (.int .i64) t.1)], [some (.seq (.int .i64) t.2)]⟩ : St))) (fun (t : Bool × (List Int)) => (Exit.ret, (⟨mkE 76 0 [(4, .slc 0), (5, .dat .bool t.1)], [some (.seq (.int .i64) t.2)]⟩ : St)))) := by
  unfold spec_RunEager_n12
  exact Link.cast (by kernel_rfl) (by kernel_rfl) (link_seq (b := (Code.snd (Code.fst (Code.snd (Code.snd (Code.snd (Code.snd (Code.snd (Code.snd (bodyOf Try.f16)))))))))) (y := (Ann.snd (Ann.fst (Ann.snd (Ann.snd (Ann.snd (Ann.snd (Ann.snd (Ann.snd spec_RunEager_an))))))))) (spec_RunEager_n8_l x3861 x3862 x5027) (fun (t : Unit) => (spec_RunEager_n11_l x3861 x3862 x5027)))

theorem spec_RunEager_n13_l (x3861 : Int) (x5062 : Int) (x5064 : List Int) : Link spec_RunEager_ctx LL (Code.fst (Code.snd (Code.snd (Code.snd (Code.snd (Code.snd (Code.snd (Code.snd (bodyOf Try.f16))))))))) (Ann.fst (Ann.snd (Ann.snd (Ann.snd (Ann.snd (Ann.snd (Ann.snd (Ann.snd spec_RunEager_an)))))))) (⟨mkE 76 0 [(0, .dat (.int .i64) x3861), (6, .slc 0), (9, .dat (.int .i64) x5062)], [some (.seq (.int .i64) x5064)]⟩ : St) (spec_RunEager_n13) (fun (t : Unit) => (Exit.normal, (⟨mkE 76 0 [(0, .dat (.int .i64) x3861), (6, .slc 0), (9, .dat (.int .i64) x5062), (14, .dat (.int .i64) 0)], [some (.seq (.int .i64) x5064)]⟩ : St))) := by
  refine Link.of fun K h => ?_
  simp only [spec_RunEager_n13, wpO_bind, wpO_cond, wpO_map, wpO_some] at h
  exact Awp.of (by kernel_rfl) h

theorem spec_RunEager_n14_l (x3861 : Int) (x5062 : Int) (x5064 : List Int) : Link spec_RunEager_ctx LL (Code.fst (Code.fst (Code.snd (Code.snd (Code.snd (Code.snd (Code.snd (Code.snd (Code.snd (Code.snd (bodyOf Try.f16))))))))))) (Ann.fst (Ann.fst (Ann.snd (Ann.snd (Ann.snd (Ann.snd (Ann.snd (Ann.snd (Ann.snd (Ann.snd spec_RunEager_an)))))))))) (⟨mkE 76 0 [(0, .dat (.int .i64) x3861), (6, .slc 0), (9, .dat (.int .i64) x5062), (14, .dat (.int .i64) 0)], [some (.seq (.int .i64) x5064)]⟩ : St) (spec_RunEager_n14) (fun (t : Unit) => (Exit.normal, (⟨mkE 76 0 [(0, .dat (.int .i64) x3861), (6, .slc 0), (9, .dat (.int .i64) x5062), (14, .dat (.int .i64) 0), (15, .dat (.int .i64) 0)], [some (.seq (.int .i64) x5064)]⟩ : St))) := by
  refine Link.of fun K h => ?_
  simp only [spec_RunEager_n14, wpO_bind, wpO_cond, wpO_map, wpO_some] at h
  exact Awp.of (by kernel_rfl) h

theorem spec_RunEager_n15_l (x3861 : Int) (x5062 : Int) (x5106 : Int) (x5107 : Int) (x5108 : List Int) : Link spec_RunEager_ctx LL (Code.fst (Code.fst (Code.snd (Code.fst (Code.snd (Code.snd (Code.snd (Code.snd (Code.snd (Code.snd (Code.snd (Code.snd (bodyOf Try.f16))))))))))))) (Ann.fst (Ann.fst (Ann.snd (Ann.fst (Ann.snd (Ann.snd (Ann.snd (Ann.snd (Ann.snd (Ann.snd (Ann.snd (Ann.snd spec_RunEager_an)))))))))))) (⟨mkE 76 0 [(0, .dat (.int .i64) x3861), (6, .slc 0), (9, .dat (.int .i64) x5062), (14, .dat (.int .i64) x5106), (15, .dat (.int .i64) x5107)], [some (.seq (.int .i64) x5108)]⟩ : St) (spec_RunEager_n15 x3861 x5106 x5107 x5108) (Sum.elim (fun (t : Int × Int × (List Int)) => (Exit.normal, (⟨mkE 76 0 [(0, .dat (.int .i64) x3861), (6, .slc 0), (9, .dat (.int .i64) x5062), (14, .dat (.int .i64) t.1), (15, .dat (.int .i64) t.2.1)], [some (.seq (.int .i64) t.2.2)]⟩ : St))) (fun (t : Int × (List Int)) => ((Exit.exit 4), (⟨mkE 76 0 [(0, .dat (.int .i64) x3861), (6, .slc 0), (9, .dat (.int .i64) x5062), (14, .dat (.int .i64) t.1)], [some (.seq (.int .i64) t.2)]⟩ : St)))) := by
  refine Link.of fun K h => ?_
  simp only [spec_RunEager_n15, wpO_bind, wpO_cond, wpO_map, wpO_some] at h
  exact Awp.of (by kernel_rfl) h

theorem spec_RunEager_n16_l (x3861 : Int) (x5062 : Int) (x5064 : List Int) : Link spec_RunEager_ctx LL (Code.fst (Code.snd (Code.fst (Code.snd (Code.snd (Code.snd (Code.snd (Code.snd (Code.snd (Code.snd (Code.snd (bodyOf Try.f16)))))))))))) (Ann.fst (Ann.snd (Ann.fst (Ann.snd (Ann.snd (Ann.snd (Ann.snd (Ann.snd (Ann.snd (Ann.snd (Ann.snd spec_RunEager_an))))))))))) (⟨mkE 76 0 [(0, .dat (.int .i64) x3861), (6, .slc 0), (9, .dat (.int .i64) x5062), (14, .dat (.int .i64) 0), (15, .dat (.int .i64) 0)], [some (.seq (.int .i64) x5064)]⟩ : St) (spec_RunEager_n16 x3861 x5064) (fun (t : Int × (List Int)) => ((Exit.exit 4), (⟨mkE 76 0 [(0, .dat (.int .i64) x3861), (6, .slc 0), (9, .dat (.int .i64) x5062), (14, .dat (.int .i64) t.1)], [some (.seq (.int .i64) t.2)]⟩ : St))) := by
  unfold spec_RunEager_n16
  exact Link.cast (by kernel_rfl) (by kernel_rfl) (link_loop (mk := fun (s : Int × Int × (List Int)) => (⟨mkE 76 0 [(0, .dat (.int .i64) x3861), (6, .slc 0), (9, .dat (.int .i64) x5062), (14, .dat (.int .i64) s.1), (15, .dat (.int .i64) s.2.1)], [some (.seq (.int .i64) s.2.2)]⟩ : St)) (fin := (fun (t : Int × (List Int)) => ((Exit.exit 4), (⟨mkE 76 0 [(0, .dat (.int .i64) x3861), (6, .slc 0), (9, .dat (.int .i64) x5062), (14, .dat (.int .i64) t.1)], [some (.seq (.int .i64) t.2)]⟩ : St)))) (by
  rintro t f K h
  · exact h) (fun s => link_map (spec_RunEager_n15_l x3861 x5062 s.1 s.2.1 s.2.2) (Sum.elim (fun (t : Int × Int × (List Int)) => Sum.inl (t.1, t.2.1, t.2.2)) (fun (t : Int × (List Int)) => Sum.inr t)) (by
  rintro (t | t)
  · kernel_rfl
  · kernel_rfl)) (0, 0, x5064))

theorem spec_RunEager_n17_l (x3861 : Int) (x5062 : Int) (x5064 : List Int) : Link spec_RunEager_ctx LL (Code.snd (Code.fst (Code.snd (Code.snd (Code.snd (Code.snd (Code.snd (Code.snd (Code.snd (Code.snd (bodyOf Try.f16))))))))))) (Ann.snd (Ann.fst (Ann.snd (Ann.snd (Ann.snd (Ann.snd (Ann.snd (Ann.snd (Ann.snd (Ann.snd spec_RunEager_an)))))))))) (⟨mkE 76 0 [(0, .dat (.int .i64) x3861), (6, .slc 0), (9, .dat (.int .i64) x5062), (14, .dat (.int .i64) 0), (15, .dat (.int .i64) 0)], [some (.seq (.int .i64) x5064)]⟩ : St) (spec_RunEager_n17 x3861 x5064) (fun (t : Int × (List Int)) => (Exit.normal, (⟨mkE 76 0 [(0, .dat (.int .i64) x3861), (6, .slc 0), (9, .dat (.int .i64) x5062), (14, .dat (.int .i64) t.1)], [some (.seq (.int .i64) t.2)]⟩ : St))) := by
  unfold spec_RunEager_n17
  exact Link.cast (by kernel_rfl) (by kernel_rfl) (link_block (id := 4) (spec_RunEager_n16_l x3861 x5062 x5064) (fun (t : Int × (List Int)) => (t.1, t.2)) (by
  rintro t K h
  · exact Eq.mp (by kernel_rfl) h))

theorem spec_RunEager_n18_l (x3861 : Int) (x5062 : Int) (x5064 : List Int) : Link spec_RunEager_ctx LL (Code.fst (Code.snd (Code.snd (Code.snd (Code.snd (Code.snd (Code.snd (Code.snd (Code.snd (bodyOf Try.f16)))))))))) (Ann.fst (Ann.snd (Ann.snd (Ann.snd (Ann.snd (Ann.snd (Ann.snd (Ann.snd (Ann.snd spec_RunEager_an))))))))) (⟨mkE 76 0 [(0, .dat (.int .i64) x3861), (6, .slc 0), (9, .dat (.int .i64) x5062), (14, .dat (.int .i64) 0)], [some (.seq (.int .i64) x5064)]⟩ : St) (spec_RunEager_n18 x3861 x5064) (fun (t : Int × (List Int)) => (Exit.normal, (⟨mkE 76 0 [(0, .dat (.int .i64) x3861), (6, .slc 0), (9, .dat (.int .i64) x5062), (14, .dat (.int .i64) t.1)], [some (.seq (.int .i64) t.2)]⟩ : St))) := by
  unfold spec_RunEager_n18
  exact Link.cast (by kernel_rfl) (by kernel_rfl) (link_seq (b := (Code.snd (Code.fst (Code.snd (Code.snd (Code.snd (Code.snd (Code.snd (Code.snd (Code.snd (Code.snd (bodyOf Try.f16)))))))))))) (y := (Ann.snd (Ann.fst (Ann.snd (Ann.snd (Ann.snd (Ann.snd (Ann.snd (Ann.snd (Ann.snd (Ann.snd spec_RunEager_an))))))))))) (spec_RunEager_n14_l x3861 x5062 x5064) (fun (t : Unit) => (spec_RunEager_n17_l x3861 x5062 x5064)))

theorem spec_RunEager_n19_l (x3861 : Int) (x5062 : Int) (x5106 : Int) (x5108 : List Int) : Link spec_RunEager_ctx LL (Code.snd (Code.snd (Code.snd (Code.snd (Code.snd (Code.snd (Code.snd (Code.snd (Code.snd (bodyOf Try.f16)))))))))) (Ann.snd (Ann.snd (Ann.snd (Ann.snd (Ann.snd (Ann.snd (Ann.snd (Ann.snd (Ann.snd spec_RunEager_an))))))))) (⟨mkE 76 0 [(0, .dat (.int .i64) x3861), (6, .slc 0), (9, .dat (.int .i64) x5062), (14, .dat (.int .i64) x5106)], [some (.seq (.int .i64) x5108)]⟩ : St) (spec_RunEager_n19 x3861 x5062 x5106 x5108) (fun (t : Bool × (List Int)) => (Exit.ret, (⟨mkE 76 0 [(4, .slc 0), (5, .dat .bool t.1)], [some (.seq (.int .i64) t.2)]⟩ : St))) := by
  refine Link.of fun K h => ?_
  simp only [spec_RunEager_n19, wpO_bind, wpO_cond, wpO_map, wpO_some] at h
  exact Awp.of (by kernel_rfl) h

theorem spec_RunEager_n20_l (x3861 : Int) (x5062 : Int) (x5064 : List Int) : Link spec_RunEager_ctx LL (Code.snd (Code.snd (Code.snd (Code.snd (Code.snd (Code.snd (Code.snd (Code.snd (bodyOf Try.f16))))))))) (Ann.snd (Ann.snd (Ann.snd (Ann.snd (Ann.snd (Ann.snd (Ann.snd (Ann.snd spec_RunEager_an)))))))) (⟨mkE 76 0 [(0, .dat (.int .i64) x3861), (6, .slc 0), (9, .dat (.int .i64) x5062), (14, .dat (.int .i64) 0)], [some (.seq (.int .i64) x5064)]⟩ : St) (spec_RunEager_n20 x3861 x5062 x5064) (fun (t : Bool × (List Int)) => (Exit.ret, (⟨mkE 76 0 [(4, .slc 0), (5, .dat .bool t.1)], [some (.seq (.int .i64) t.2)]⟩ : St))) := by
  unfold spec_RunEager_n20
  exact Link.cast (by kernel_rfl) (by kernel_rfl) (link_seq (b := (Code.snd (Code.snd (Code.snd (Code.snd (Code.snd (Code.snd (Code.snd (Code.snd (Code.snd (bodyOf Try.f16))))))))))) (y := (Ann.snd (Ann.snd (Ann.snd (Ann.snd (Ann.snd (Ann.snd (Ann.snd (Ann.snd (Ann.snd spec_RunEager_an)))))))))) (spec_RunEager_n18_l x3861 x5062 x5064) (fun (t : Int × (List Int)) => (spec_RunEager_n19_l x3861 x5062 t.1 t.2)))

theorem spec_RunEager_n21_l (x3861 : Int) (x5062 : Int) (x5064 : List Int) : Link spec_RunEager_ctx LL (Code.snd (Code.snd (Code.snd (Code.snd (Code.snd (Code.snd (Code.snd (bodyOf Try.f16)))))))) (Ann.snd (Ann.snd (Ann.snd (Ann.snd (Ann.snd (Ann.snd (Ann.snd spec_RunEager_an))))))) (⟨mkE 76 0 [(0, .dat (.int .i64) x3861), (6, .slc 0), (9, .dat (.int .i64) x5062)], [some (.seq (.int .i64) x5064)]⟩ : St) (spec_RunEager_n21 x3861 x5062 x5064) (fun (t : Bool × (List Int)) => (Exit.ret, (⟨mkE 76 0 [(4, .slc 0), (5, .dat .bool t.1)], [some (.seq (.int .i64) t.2)]⟩ : St))) := by
  unfold spec_RunEager_n21
  exact Link.cast (by kernel_rfl) (by kernel_rfl) (link_seq (b := (Code.snd (Code.snd (Code.snd (Code.snd (Code.snd (Code.snd (Code.snd (Code.snd (bodyOf Try.f16)))))))))) (y := (Ann.snd (Ann.snd (Ann.snd (Ann.snd (Ann.snd (Ann.snd (Ann.snd (Ann.snd spec_RunEager_an))))))))) (spec_RunEager_n13_l x3861 x5062 x5064) (fun (t : Unit) => (spec_RunEager_n20_l x3861 x5062 x5064)))

theorem spec_RunEager_n22_l (x3861 : Int) (x3862 : ByteArray) (x5027 : List Int) : Link spec_RunEager_ctx LL (Code.snd (Code.snd (Code.snd (Code.snd (Code.snd (Code.snd (bodyOf Try.f16))))))) (Ann.snd (Ann.snd (Ann.snd (Ann.snd (Ann.snd (Ann.snd spec_RunEager_an)))))) (⟨mkE 76 0 [(0, .dat (.int .i64) x3861), (1, .dat .str x3862), (6, .slc 0), (8, .slc 1), (9, .dat (.int .i64) 1)], [some (.seq (.int .i64) x5027), some (.seq (.int .i64) ([] : List Int))]⟩ : St) (spec_RunEager_n22 x3861 x3862 x5027) (fun (t : Bool × (List Int)) => (Exit.ret, (⟨mkE 76 0 [(4, .slc 0), (5, .dat .bool t.1)], [some (.seq (.int .i64) t.2)]⟩ : St))) := by
  unfold spec_RunEager_n22
  exact Link.cast (by kernel_rfl) (by kernel_rfl) (link_seq2 (b := (Code.snd (Code.snd (Code.snd (Code.snd (Code.snd (Code.snd (Code.snd (bodyOf Try.f16))))))))) (y := (Ann.snd (Ann.snd (Ann.snd (Ann.snd (Ann.snd (Ann.snd (Ann.snd spec_RunEager_an)))))))) (spec_RunEager_n12_l x3861 x3862 x5027) (fun (t : Int × (List Int)) => (spec_RunEager_n21_l x3861 t.1 t.2)) (fun (t : Bool × (List Int)) => t) (by
  rintro t
  · kernel_rfl) (by
  rintro t f K h
  · exact h))

theorem spec_RunEager_n23_l (x3861 : Int) (x3862 : ByteArray) (x5027 : List Int) : Link spec_RunEager_ctx LL (Code.snd (Code.snd (Code.snd (Code.snd (bodyOf Try.f16))))) (Ann.snd (Ann.snd (Ann.snd (Ann.snd spec_RunEager_an)))) (⟨mkE 76 0 [(0, .dat (.int .i64) x3861), (1, .dat .str x3862), (6, .slc 0)], [some (.seq (.int .i64) x5027)]⟩ : St) (spec_RunEager_n23 x3861 x3862 x5027) (fun (t : Bool × (List Int)) => (Exit.ret, (⟨mkE 76 0 [(4, .slc 0), (5, .dat .bool t.1)], [some (.seq (.int .i64) t.2)]⟩ : St))) := by
  unfold spec_RunEager_n23
  exact Link.cast (by kernel_rfl) (by kernel_rfl) (link_group (c := (Code.fst (Code.snd (Code.snd (Code.snd (Code.snd (Code.snd (bodyOf Try.f16)))))))) (a := (Ann.fst (Ann.snd (Ann.snd (Ann.snd (Ann.snd (Ann.snd spec_RunEager_an))))))) [(Code.fst (Code.snd (Code.snd (Code.snd (Code.snd (bodyOf Try.f16))))))] [(Ann.fst (Ann.snd (Ann.snd (Ann.snd (Ann.snd spec_RunEager_an)))))] rfl (link_seq (b := (Code.snd (Code.snd (Code.snd (Code.snd (Code.snd (Code.snd (bodyOf Try.f16)))))))) (y := (Ann.snd (Ann.snd (Ann.snd (Ann.snd (Ann.snd (Ann.snd spec_RunEager_an))))))) (spec_RunEager_n7_l x3861 x3862 x5027) (fun (t : Unit) => (spec_RunEager_n22_l x3861 x3862 x5027))))

theorem spec_RunEager_n24_l (x3861 : Int) (x3862 : ByteArray) : Link spec_RunEager_ctx LL (Code.snd (Code.snd (Code.snd (bodyOf Try.f16)))) (Ann.snd (Ann.snd (Ann.snd spec_RunEager_an))) (⟨mkE 76 0 [(0, .dat (.int .i64) x3861), (1, .dat .str x3862), (6, .slc 0)], [some (.seq (.int .i64) ([] : List Int))]⟩ : St) (spec_RunEager_n24 x3861 x3862) (fun (t : Bool × (List Int)) => (Exit.ret, (⟨mkE 76 0 [(4, .slc 0), (5, .dat .bool t.1)], [some (.seq (.int .i64) t.2)]⟩ : St))) := by
  unfold spec_RunEager_n24
  exact Link.cast (by kernel_rfl) (by kernel_rfl) (link_seq (b := (Code.snd (Code.snd (Code.snd (Code.snd (bodyOf Try.f16)))))) (y := (Ann.snd (Ann.snd (Ann.snd (Ann.snd spec_RunEager_an))))) (spec_RunEager_n6_l x3861 x3862) (fun (t : (List Int)) => (spec_RunEager_n23_l x3861 x3862 t)))

theorem spec_RunEager_n25_l (x3861 : Int) (x3862 : ByteArray) : Link spec_RunEager_ctx LL (bodyOf Try.f16) spec_RunEager_an (⟨mkE 76 0 [(0, .dat (.int .i64) x3861), (1, .dat .str x3862)], []⟩ : St) (spec_RunEager_n25 x3861 x3862) (fun (t : Bool × (List Int)) => (Exit.ret, (⟨mkE 76 0 [(4, .slc 0), (5, .dat .bool t.1)], [some (.seq (.int .i64) t.2)]⟩ : St))) := by
  unfold spec_RunEager_n25
  exact Link.cast (by kernel_rfl) (by kernel_rfl) (link_group (c := (Code.fst (Code.snd (Code.snd (bodyOf Try.f16))))) (a := (Ann.fst (Ann.snd (Ann.snd spec_RunEager_an)))) [(Code.fst (bodyOf Try.f16)), (Code.fst (Code.snd (bodyOf Try.f16)))] [(Ann.fst spec_RunEager_an), (Ann.fst (Ann.snd spec_RunEager_an))] rfl (link_seq2 (b := (Code.snd (Code.snd (Code.snd (bodyOf Try.f16))))) (y := (Ann.snd (Ann.snd (Ann.snd spec_RunEager_an)))) (spec_RunEager_n1_l x3861 x3862) (fun (t : Unit) => (spec_RunEager_n24_l x3861 x3862)) (fun (t : Bool × (List Int)) => t) (by
  rintro t
  · kernel_rfl) (by
  rintro t f K h
  · exact h)))

theorem spec_RunEager_e (x3861 : Int) (x3862 : ByteArray) {r : AV} {H' : Heap} (h : (Ans.mk _ (spec_RunEager x3861 x3862) (fun (t : Bool × (List Int)) => (.tup [.slc 0, .dat .bool t.1], [some (.seq (.int .i64) t.2)])) [] none).run = some (r, H')) : Awp spec_RunEager_ctx LL (bodyOf Try.f16) spec_RunEager_an (⟨mkE 76 0 [(0, .dat (.int .i64) x3861), (1, .dat .str x3862)], []⟩ : St) (Ret (tlook tys) Try.f16.results.toList r H') :=
  ret_of' (spec_RunEager_n25_l x3861 x3862) (by unfold spec_RunEager; kernel_rfl) (by
  intro t
  exact ret_mk [.slc 0, .dat .bool t.1] (by kernel_rfl) (by kernel_rfl) (by kernel_rfl) (by kernel_rfl)) h

def F_spec_RunEager : Fun := fun avs H =>
  match avs, H with
  | [.dat (.int .i64) x3861, .dat .str x3862], [] => ⟨_, spec_RunEager x3861 x3862, fun (t : Bool × (List Int)) => (.tup [.slc 0, .dat .bool t.1], [some (.seq (.int .i64) t.2)]), [], none⟩
  | _, _ => Ans.no

theorem spec_RunEager_sound : Sound Try.prog 16 F_spec_RunEager := by
  refine fn_sound' (C := spec_RunEager_ctx) (c := bodyOf Try.f16) (cok_of tys_ok (List.forall_mem_cons.2 ⟨spec_l1In_sound, List.forall_mem_cons.2 ⟨spec_l7Step_sound, by simp⟩⟩) (List.forall_mem_cons.2 ⟨Try.call21, List.forall_mem_cons.2 ⟨Try.call23, by simp⟩⟩) (by kernel_rfl)) Try.func16 (by kernel_rfl) LL spec_RunEager_an ?_
  intro avs H r H' h
  unfold F_spec_RunEager at h
  split at h
  · refine Awp.cast ?_ ?_ ?_ (spec_RunEager_e _ _ h) <;> kernel_rfl
  · simp [Ans.no, Ans.run] at h


/-! loop.example/headtrees/impl.newEagerMachine -/

def impl_newEagerMachine_an : Ann := (.seq (.leaf [0]) (.seq (.leaf [2]) (.leaf [2])))

noncomputable def impl_newEagerMachine_ctx : Ctx := ⟨tlook tys, olook [(31, F_impl_newStackMachine)], ioF, 0, false, []⟩

theorem impl_newEagerMachine_n1_l (x5151 : Int) : Link impl_newEagerMachine_ctx LL (bodyOf Try.f24) impl_newEagerMachine_an (⟨mkE 9 0 [(0, .dat (.int .i64) x5151)], []⟩ : St) (impl_newEagerMachine_n1 x5151) (fun (t : (List Int)) => (Exit.ret, (⟨mkE 9 0 [(2, .ptr 0 0)], [some (.box [.slc 1, .nils, .dat (.int .i64) 0, .dat (.int .i64) 0, .dat (.int .u64) 0]), some (.seq (.int .i64) t)]⟩ : St))) := by
  refine Link.of fun K h => ?_
  simp only [impl_newEagerMachine_n1, wpO_bind, wpO_cond, wpO_map, wpO_some] at h
  exact Awp.of (by kernel_rfl) h

theorem impl_newEagerMachine_e (x5151 : Int) {r : AV} {H' : Heap} (h : (Ans.mk _ (impl_newEagerMachine x5151) (fun (t : (List Int)) => (.ptr 0 0, [some (.box [.slc 1, .nils, .dat (.int .i64) 0, .dat (.int .i64) 0, .dat (.int .u64) 0]), some (.seq (.int .i64) t)])) [] none).run = some (r, H')) : Awp impl_newEagerMachine_ctx LL (bodyOf Try.f24) impl_newEagerMachine_an (⟨mkE 9 0 [(0, .dat (.int .i64) x5151)], []⟩ : St) (Ret (tlook tys) Try.f24.results.toList r H') :=
  ret_of' (impl_newEagerMachine_n1_l x5151) (by unfold impl_newEagerMachine; kernel_rfl) (by
  intro t
  exact ret_mk [.ptr 0 0] (by kernel_rfl) (by kernel_rfl) (by kernel_rfl) (by kernel_rfl)) h

def F_impl_newEagerMachine : Fun := fun avs H =>
  match avs, H with
  | [.dat (.int .i64) x5151], [] => ⟨_, impl_newEagerMachine x5151, fun (t : (List Int)) => (.ptr 0 0, [some (.box [.slc 1, .nils, .dat (.int .i64) 0, .dat (.int .i64) 0, .dat (.int .u64) 0]), some (.seq (.int .i64) t)]), [], none⟩
  | _, _ => Ans.no

theorem impl_newEagerMachine_sound : Sound Try.prog 24 F_impl_newEagerMachine := by
  refine fn_sound' (C := impl_newEagerMachine_ctx) (c := bodyOf Try.f24) (cok_of tys_ok (List.forall_mem_cons.2 ⟨impl_newStackMachine_sound, by simp⟩) (List.forall_mem_cons.2 ⟨Try.call31, by simp⟩) (by kernel_rfl)) Try.func24 (by kernel_rfl) LL impl_newEagerMachine_an ?_
  intro avs H r H' h
  unfold F_impl_newEagerMachine at h
  split at h
  · refine Awp.cast ?_ ?_ ?_ (impl_newEagerMachine_e _ h) <;> kernel_rfl
  · simp [Ans.no, Ans.run] at h


/-! loop.example/headtrees/impl.eagerMoves -/

def F_impl_eagerMoves : Fun := F_map [(.int .u8 83, .methodOf 43 "loop.example/headtrees/impl.putNext"), (.int .u8 76, .func 38), (.int .u8 82, .func 39), (.int .u8 68, .func 40)]

theorem impl_eagerMoves_sound : Sound Try.prog 26 F_impl_eagerMoves :=
  mapfn_sound (mt := 46) (kt := 5) (et := 62) (d := .int .u8) Try.func26 (by kernel_rfl) (by kernel_rfl) (by kernel_rfl) (by kernel_rfl) (by kernel_rfl)


/-! (*loop.example/headtrees/impl.eagerMachine).upperAndNext -/

def impl_eagerMachine_upperAndNext_an : Ann := (.seq (.leaf [0]) (.seq (.leaf [0, 5]) (.seq (.seq (.draw [] [0, 1, 2, 3, 4, 5, 6, 7, 8, 9, 10, 11, 12, 13, 14, 15] [] [0, 5, 27]) (.cond (.seq (.leaf [2, 3, 4]) (.leaf [2, 3, 4])) (.leaf [0, 5]))) (.seq (.draw [] [0, 1, 2, 3, 4, 5, 6, 7, 8, 9, 10, 11, 12, 13, 14, 15, 16, 17] [] [2, 3, 4]) (.leaf [2, 3, 4])))))

noncomputable def impl_eagerMachine_upperAndNext_ctx : Ctx := ⟨tlook tys, olook [], ioF, 3, false, []⟩

theorem impl_eagerMachine_upperAndNext_n1_l (x6367 : Nat) (x6368 : Nat) (x6369 : Int) (x6370 : Int) (x6371 : Int) (x6372 : List Int) (x6373 : List Int) : Link impl_eagerMachine_upperAndNext_ctx LL (bodyOf Try.f46) impl_eagerMachine_upperAndNext_an (⟨mkE 43 0 [(0, .ptr 0 0)], [some (.box [.slc 1, .win 2 x6367 x6368, .dat (.int .i64) x6369, .dat (.int .i64) x6370, .dat (.int .u64) x6371]), some (.seq (.int .i64) x6372), some (.seq (.int .i64) x6373)]⟩ : St) (impl_eagerMachine_upperAndNext_n1 x6367 x6368 x6369 x6372 x6373) (fun (t : Int × Int × Bool) => (Exit.ret, (⟨mkE 43 0 [(2, .dat (.int .i64) t.1), (3, .dat (.int .i64) t.2.1), (4, .dat .bool t.2.2)], [some (.box [.slc 1, .win 2 x6367 x6368, .dat (.int .i64) x6369, .dat (.int .i64) x6370, .dat (.int .u64) x6371]), some (.seq (.int .i64) x6372), some (.seq (.int .i64) x6373)]⟩ : St))) := by
  refine Link.of fun K h => ?_
  simp only [impl_eagerMachine_upperAndNext_n1, wpO_bind, wpO_cond, wpO_map, wpO_some] at h
  exact Awp.of (by kernel_rfl) h

theorem impl_eagerMachine_upperAndNext_e (x6367 : Nat) (x6368 : Nat) (x6369 : Int) (x6370 : Int) (x6371 : Int) (x6372 : List Int) (x6373 : List Int) {r : AV} {H' : Heap} (h : (Ans.mk _ (impl_eagerMachine_upperAndNext x6367 x6368 x6369 x6370 x6371 x6372 x6373) (fun (t : Int × Int × Bool) => (.tup [.dat (.int .i64) t.1, .dat (.int .i64) t.2.1, .dat .bool t.2.2], [some (.box [.slc 1, .win 2 x6367 x6368, .dat (.int .i64) x6369, .dat (.int .i64) x6370, .dat (.int .u64) x6371]), some (.seq (.int .i64) x6372), some (.seq (.int .i64) x6373)])) [] none).run = some (r, H')) : Awp impl_eagerMachine_upperAndNext_ctx LL (bodyOf Try.f46) impl_eagerMachine_upperAndNext_an (⟨mkE 43 0 [(0, .ptr 0 0)], [some (.box [.slc 1, .win 2 x6367 x6368, .dat (.int .i64) x6369, .dat (.int .i64) x6370, .dat (.int .u64) x6371]), some (.seq (.int .i64) x6372), some (.seq (.int .i64) x6373)]⟩ : St) (Ret (tlook tys) Try.f46.results.toList r H') :=
  ret_of' (impl_eagerMachine_upperAndNext_n1_l x6367 x6368 x6369 x6370 x6371 x6372 x6373) (by unfold impl_eagerMachine_upperAndNext; kernel_rfl) (by
  intro t
  exact ret_mk [.dat (.int .i64) t.1, .dat (.int .i64) t.2.1, .dat .bool t.2.2] (by kernel_rfl) (by kernel_rfl) (by kernel_rfl) (by kernel_rfl)) h

def F_impl_eagerMachine_upperAndNext : Fun := fun avs H =>
  match avs, H with
  | [.ptr 0 0], [some (.box [.slc 1, .win 2 x6367 x6368, .dat (.int .i64) x6369, .dat (.int .i64) x6370, .dat (.int .u64) x6371]), some (.seq (.int .i64) x6372), some (.seq (.int .i64) x6373)] => ⟨_, impl_eagerMachine_upperAndNext x6367 x6368 x6369 x6370 x6371 x6372 x6373, fun (t : Int × Int × Bool) => (.tup [.dat (.int .i64) t.1, .dat (.int .i64) t.2.1, .dat .bool t.2.2], [some (.box [.slc 1, .win 2 x6367 x6368, .dat (.int .i64) x6369, .dat (.int .i64) x6370, .dat (.int .u64) x6371]), some (.seq (.int .i64) x6372), some (.seq (.int .i64) x6373)]), [], none⟩
  | _, _ => Ans.no

theorem impl_eagerMachine_upperAndNext_sound : Sound Try.prog 46 F_impl_eagerMachine_upperAndNext := by
  refine fn_sound' (C := impl_eagerMachine_upperAndNext_ctx) (c := bodyOf Try.f46) (cok_of tys_ok (by simp) (by simp) (by kernel_rfl)) Try.func46 (by kernel_rfl) LL impl_eagerMachine_upperAndNext_an ?_
  intro avs H r H' h
  unfold F_impl_eagerMachine_upperAndNext at h
  split at h
  · refine Awp.cast ?_ ?_ ?_ (impl_eagerMachine_upperAndNext_e _ _ _ _ _ _ _ h) <;> kernel_rfl
  · simp [Ans.no, Ans.run] at h


/-! loop.example/headtrees/impl.only -/

def impl_only_an : Ann := (.seq (.leaf [0]) (.seq (.leaf [2]) (.leaf [2])))

noncomputable def impl_only_ctx : Ctx := ⟨tlook tys, olook [], ioF, 0, false, []⟩

theorem impl_only_n1_l (x5337 : Int) : Link impl_only_ctx LL (bodyOf Try.f54) impl_only_an (⟨mkE 6 0 [(0, .dat (.int .i64) x5337)], []⟩ : St) (impl_only_n1 x5337) (fun (t : Int) => (Exit.ret, (⟨mkE 6 0 [(2, .dat (.int .u64) t)], []⟩ : St))) := by
  refine Link.of fun K h => ?_
  simp only [impl_only_n1, wpO_bind, wpO_cond, wpO_map, wpO_some] at h
  exact Awp.of (by kernel_rfl) h

theorem impl_only_e (x5337 : Int) {r : AV} {H' : Heap} (h : (Ans.mk _ (impl_only x5337) (fun (t : Int) => (.dat (.int .u64) t, [])) [] none).run = some (r, H')) : Awp impl_only_ctx LL (bodyOf Try.f54) impl_only_an (⟨mkE 6 0 [(0, .dat (.int .i64) x5337)], []⟩ : St) (Ret (tlook tys) Try.f54.results.toList r H') :=
  ret_of' (impl_only_n1_l x5337) (by unfold impl_only; kernel_rfl) (by
  intro t
  exact ret_mk [.dat (.int .u64) t] (by kernel_rfl) (by kernel_rfl) (by kernel_rfl) (by kernel_rfl)) h

def F_impl_only : Fun := fun avs H =>
  match avs, H with
  | [.dat (.int .i64) x5337], [] => ⟨_, impl_only x5337, fun (t : Int) => (.dat (.int .u64) t, []), [], none⟩
  | _, _ => Ans.no

theorem impl_only_sound : Sound Try.prog 54 F_impl_only := by
  refine fn_sound' (C := impl_only_ctx) (c := bodyOf Try.f54) (cok_of tys_ok (by simp) (by simp) (by kernel_rfl)) Try.func54 (by kernel_rfl) LL impl_only_an ?_
  intro avs H r H' h
  unfold F_impl_only at h
  split at h
  · refine Awp.cast ?_ ?_ ?_ (impl_only_e _ h) <;> kernel_rfl
  · simp [Ans.no, Ans.run] at h


/-! (loop.example/headtrees/impl.wordSet).hasAll -/

def impl_wordSet_hasAll_an : Ann := (.seq (.leaf [0, 1]) (.seq (.leaf [4]) (.leaf [4])))

noncomputable def impl_wordSet_hasAll_ctx : Ctx := ⟨tlook tys, olook [], ioF, 0, false, []⟩

theorem impl_wordSet_hasAll_n1_l (x5343 : Int) (x5344 : Int) : Link impl_wordSet_hasAll_ctx LL (bodyOf Try.f53) impl_wordSet_hasAll_an (⟨mkE 10 0 [(0, .dat (.int .u64) x5343), (1, .dat (.int .u64) x5344)], []⟩ : St) (impl_wordSet_hasAll_n1 x5343 x5344) (fun (t : Bool) => (Exit.ret, (⟨mkE 10 0 [(4, .dat .bool t)], []⟩ : St))) := by
  refine Link.of fun K h => ?_
  simp only [impl_wordSet_hasAll_n1, wpO_bind, wpO_cond, wpO_map, wpO_some] at h
  exact Awp.of (by kernel_rfl) h

theorem impl_wordSet_hasAll_e (x5343 : Int) (x5344 : Int) {r : AV} {H' : Heap} (h : (Ans.mk _ (impl_wordSet_hasAll x5343 x5344) (fun (t : Bool) => (.dat .bool t, [])) [] none).run = some (r, H')) : Awp impl_wordSet_hasAll_ctx LL (bodyOf Try.f53) impl_wordSet_hasAll_an (⟨mkE 10 0 [(0, .dat (.int .u64) x5343), (1, .dat (.int .u64) x5344)], []⟩ : St) (Ret (tlook tys) Try.f53.results.toList r H') :=
  ret_of' (impl_wordSet_hasAll_n1_l x5343 x5344) (by unfold impl_wordSet_hasAll; kernel_rfl) (by
  intro t
  exact ret_mk [.dat .bool t] (by kernel_rfl) (by kernel_rfl) (by kernel_rfl) (by kernel_rfl)) h

def F_impl_wordSet_hasAll : Fun := fun avs H =>
  match avs, H with
  | [.dat (.int .u64) x5343, .dat (.int .u64) x5344], [] => ⟨_, impl_wordSet_hasAll x5343 x5344, fun (t : Bool) => (.dat .bool t, []), [], none⟩
  | _, _ => Ans.no

theorem impl_wordSet_hasAll_sound : Sound Try.prog 53 F_impl_wordSet_hasAll := by
  refine fn_sound' (C := impl_wordSet_hasAll_ctx) (c := bodyOf Try.f53) (cok_of tys_ok (by simp) (by simp) (by kernel_rfl)) Try.func53 (by kernel_rfl) LL impl_wordSet_hasAll_an ?_
  intro avs H r H' h
  unfold F_impl_wordSet_hasAll at h
  split at h
  · refine Awp.cast ?_ ?_ ?_ (impl_wordSet_hasAll_e _ _ h) <;> kernel_rfl
  · simp [Ans.no, Ans.run] at h


/-! (*loop.example/headtrees/impl.eagerMachine).hasHead -/

def impl_eagerMachine_hasHead_an : Ann := (.seq (.leaf [0, 1]) (.seq (.draw [5, 6] [0, 1, 2, 3, 4, 5, 6, 7] [] [4]) (.leaf [4])))

noncomputable def impl_eagerMachine_hasHead_ctx : Ctx := ⟨tlook tys, olook [(54, F_impl_only), (53, F_impl_wordSet_hasAll)], ioF, 3, false, []⟩

theorem impl_eagerMachine_hasHead_n1_l (x6409 : Int) (x6410 : Nat) (x6411 : Nat) (x6412 : Int) (x6413 : Int) (x6414 : Int) (x6415 : List Int) (x6416 : List Int) : Link impl_eagerMachine_hasHead_ctx LL (bodyOf Try.f47) impl_eagerMachine_hasHead_an (⟨mkE 12 0 [(0, .ptr 0 0), (1, .dat (.int .i64) x6409)], [some (.box [.slc 1, .win 2 x6410 x6411, .dat (.int .i64) x6412, .dat (.int .i64) x6413, .dat (.int .u64) x6414]), some (.seq (.int .i64) x6415), some (.seq (.int .i64) x6416)]⟩ : St) (impl_eagerMachine_hasHead_n1 x6409 x6414) (fun (t : Bool) => (Exit.ret, (⟨mkE 12 0 [(4, .dat .bool t)], [some (.box [.slc 1, .win 2 x6410 x6411, .dat (.int .i64) x6412, .dat (.int .i64) x6413, .dat (.int .u64) x6414]), some (.seq (.int .i64) x6415), some (.seq (.int .i64) x6416)]⟩ : St))) := by
  refine Link.of fun K h => ?_
  simp only [impl_eagerMachine_hasHead_n1, wpO_bind, wpO_cond, wpO_map, wpO_some] at h
  exact Awp.of (by kernel_rfl) h

theorem impl_eagerMachine_hasHead_e (x6409 : Int) (x6410 : Nat) (x6411 : Nat) (x6412 : Int) (x6413 : Int) (x6414 : Int) (x6415 : List Int) (x6416 : List Int) {r : AV} {H' : Heap} (h : (Ans.mk _ (impl_eagerMachine_hasHead x6409 x6410 x6411 x6412 x6413 x6414 x6415 x6416) (fun (t : Bool) => (.dat .bool t, [some (.box [.slc 1, .win 2 x6410 x6411, .dat (.int .i64) x6412, .dat (.int .i64) x6413, .dat (.int .u64) x6414]), some (.seq (.int .i64) x6415), some (.seq (.int .i64) x6416)])) [] none).run = some (r, H')) : Awp impl_eagerMachine_hasHead_ctx LL (bodyOf Try.f47) impl_eagerMachine_hasHead_an (⟨mkE 12 0 [(0, .ptr 0 0), (1, .dat (.int .i64) x6409)], [some (.box [.slc 1, .win 2 x6410 x6411, .dat (.int .i64) x6412, .dat (.int .i64) x6413, .dat (.int .u64) x6414]), some (.seq (.int .i64) x6415), some (.seq (.int .i64) x6416)]⟩ : St) (Ret (tlook tys) Try.f47.results.toList r H') :=
  ret_of' (impl_eagerMachine_hasHead_n1_l x6409 x6410 x6411 x6412 x6413 x6414 x6415 x6416) (by unfold impl_eagerMachine_hasHead; kernel_rfl) (by
  intro t
  exact ret_mk [.dat .bool t] (by kernel_rfl) (by kernel_rfl) (by kernel_rfl) (by kernel_rfl)) h

def F_impl_eagerMachine_hasHead : Fun := fun avs H =>
  match avs, H with
  | [.ptr 0 0, .dat (.int .i64) x6409], [some (.box [.slc 1, .win 2 x6410 x6411, .dat (.int .i64) x6412, .dat (.int .i64) x6413, .dat (.int .u64) x6414]), some (.seq (.int .i64) x6415), some (.seq (.int .i64) x6416)] => ⟨_, impl_eagerMachine_hasHead x6409 x6410 x6411 x6412 x6413 x6414 x6415 x6416, fun (t : Bool) => (.dat .bool t, [some (.box [.slc 1, .win 2 x6410 x6411, .dat (.int .i64) x6412, .dat (.int .i64) x6413, .dat (.int .u64) x6414]), some (.seq (.int .i64) x6415), some (.seq (.int .i64) x6416)]), [], none⟩
  | _, _ => Ans.no

theorem impl_eagerMachine_hasHead_sound : Sound Try.prog 47 F_impl_eagerMachine_hasHead := by
  refine fn_sound' (C := impl_eagerMachine_hasHead_ctx) (c := bodyOf Try.f47) (cok_of tys_ok (List.forall_mem_cons.2 ⟨impl_only_sound, List.forall_mem_cons.2 ⟨impl_wordSet_hasAll_sound, by simp⟩⟩) (List.forall_mem_cons.2 ⟨Try.call54, List.forall_mem_cons.2 ⟨Try.call53, by simp⟩⟩) (by kernel_rfl)) Try.func47 (by kernel_rfl) LL impl_eagerMachine_hasHead_an ?_
  intro avs H r H' h
  unfold F_impl_eagerMachine_hasHead at h
  split at h
  · refine Awp.cast ?_ ?_ ?_ (impl_eagerMachine_hasHead_e _ _ _ _ _ _ _ _ h) <;> kernel_rfl
  · simp [Ans.no, Ans.run] at h


/-! (*loop.example/headtrees/impl.eagerMachine).giveHead -/

def impl_eagerMachine_giveHead_an : Ann := (.seq (.leaf [0, 1]) (.draw [5] [0, 1, 2, 3, 4, 5, 6, 7, 8, 9] [] []))

noncomputable def impl_eagerMachine_giveHead_ctx : Ctx := ⟨tlook tys, olook [(54, F_impl_only)], ioF, 3, false, []⟩

theorem impl_eagerMachine_giveHead_n1_l (x6428 : Int) (x6429 : Int) (x6430 : Nat) (x6431 : Nat) (x6432 : Int) (x6433 : Int) (x6434 : Int) (x6435 : List Int) (x6436 : List Int) : Link impl_eagerMachine_giveHead_ctx LL (bodyOf Try.f48) impl_eagerMachine_giveHead_an (⟨mkE 24 0 [(0, .ptr 0 0), (1, .dat (.int .i64) x6428), (2, .dat (.int .i64) x6429)], [some (.box [.slc 1, .win 2 x6430 x6431, .dat (.int .i64) x6432, .dat (.int .i64) x6433, .dat (.int .u64) x6434]), some (.seq (.int .i64) x6435), some (.seq (.int .i64) x6436)]⟩ : St) (impl_eagerMachine_giveHead_n1 x6428 x6429 x6434 x6435) (fun (t : Int × (List Int)) => (Exit.normal, (⟨mkE 24 0 [], [some (.box [.slc 1, .win 2 x6430 x6431, .dat (.int .i64) x6432, .dat (.int .i64) x6433, .dat (.int .u64) t.1]), some (.seq (.int .i64) t.2), some (.seq (.int .i64) x6436)]⟩ : St))) := by
  refine Link.of fun K h => ?_
  simp only [impl_eagerMachine_giveHead_n1, wpO_bind, wpO_cond, wpO_map, wpO_some] at h
  exact Awp.of (by kernel_rfl) h

theorem impl_eagerMachine_giveHead_e (x6428 : Int) (x6429 : Int) (x6430 : Nat) (x6431 : Nat) (x6432 : Int) (x6433 : Int) (x6434 : Int) (x6435 : List Int) (x6436 : List Int) {r : AV} {H' : Heap} (h : (Ans.mk _ (impl_eagerMachine_giveHead x6428 x6429 x6430 x6431 x6432 x6433 x6434 x6435 x6436) (fun (t : Int × (List Int)) => (.tup [], [some (.box [.slc 1, .win 2 x6430 x6431, .dat (.int .i64) x6432, .dat (.int .i64) x6433, .dat (.int .u64) t.1]), some (.seq (.int .i64) t.2), some (.seq (.int .i64) x6436)])) [] none).run = some (r, H')) : Awp impl_eagerMachine_giveHead_ctx LL (bodyOf Try.f48) impl_eagerMachine_giveHead_an (⟨mkE 24 0 [(0, .ptr 0 0), (1, .dat (.int .i64) x6428), (2, .dat (.int .i64) x6429)], [some (.box [.slc 1, .win 2 x6430 x6431, .dat (.int .i64) x6432, .dat (.int .i64) x6433, .dat (.int .u64) x6434]), some (.seq (.int .i64) x6435), some (.seq (.int .i64) x6436)]⟩ : St) (Ret (tlook tys) Try.f48.results.toList r H') :=
  ret_of (impl_eagerMachine_giveHead_n1_l x6428 x6429 x6430 x6431 x6432 x6433 x6434 x6435 x6436) (fun (t : Int × (List Int)) => (t.1, t.2)) (by unfold impl_eagerMachine_giveHead; kernel_rfl) (by
  rintro t
  · exact ret_mk [] (by kernel_rfl) (by kernel_rfl) (by kernel_rfl) (by kernel_rfl)) h

def F_impl_eagerMachine_giveHead : Fun := fun avs H =>
  match avs, H with
  | [.ptr 0 0, .dat (.int .i64) x6428, .dat (.int .i64) x6429], [some (.box [.slc 1, .win 2 x6430 x6431, .dat (.int .i64) x6432, .dat (.int .i64) x6433, .dat (.int .u64) x6434]), some (.seq (.int .i64) x6435), some (.seq (.int .i64) x6436)] => ⟨_, impl_eagerMachine_giveHead x6428 x6429 x6430 x6431 x6432 x6433 x6434 x6435 x6436, fun (t : Int × (List Int)) => (.tup [], [some (.box [.slc 1, .win 2 x6430 x6431, .dat (.int .i64) x6432, .dat (.int .i64) x6433, .dat (.int .u64) t.1]), some (.seq (.int .i64) t.2), some (.seq (.int .i64) x6436)]), [], none⟩
  | _, _ => Ans.no

theorem impl_eagerMachine_giveHead_sound : Sound Try.prog 48 F_impl_eagerMachine_giveHead := by
  refine fn_sound' (C := impl_eagerMachine_giveHead_ctx) (c := bodyOf Try.f48) (cok_of tys_ok (List.forall_mem_cons.2 ⟨impl_only_sound, by simp⟩) (List.forall_mem_cons.2 ⟨Try.call54, by simp⟩) (by kernel_rfl)) Try.func48 (by kernel_rfl) LL impl_eagerMachine_giveHead_an ?_
  intro avs H r H' h
  unfold F_impl_eagerMachine_giveHead at h
  split at h
  · refine Awp.cast ?_ ?_ ?_ (impl_eagerMachine_giveHead_e _ _ _ _ _ _ _ _ _ h) <;> kernel_rfl
  · simp [Ans.no, Ans.run] at h


/-! (*loop.example/headtrees/impl.eagerMachine).takeAway -/

def impl_eagerMachine_takeAway_an : Ann := (.draw [] [0, 1, 2, 3, 4, 5, 6, 7, 8, 9, 10, 11, 12, 13, 14, 15, 16, 17] [] [])

noncomputable def impl_eagerMachine_takeAway_ctx : Ctx := ⟨tlook tys, olook [], ioF, 3, false, []⟩

theorem impl_eagerMachine_takeAway_n1_l (x6457 : Nat) (x6458 : Nat) (x6459 : Int) (x6460 : Int) (x6461 : Int) (x6462 : List Int) (x6463 : List Int) : Link impl_eagerMachine_takeAway_ctx LL (bodyOf Try.f49) impl_eagerMachine_takeAway_an (⟨mkE 19 0 [(0, .ptr 0 0)], [some (.box [.slc 1, .win 2 x6457 x6458, .dat (.int .i64) x6459, .dat (.int .i64) x6460, .dat (.int .u64) x6461]), some (.seq (.int .i64) x6462), some (.seq (.int .i64) x6463)]⟩ : St) (impl_eagerMachine_takeAway_n1 x6457 x6458) (fun (t : Nat × Nat) => (Exit.normal, (⟨mkE 19 0 [], [some (.box [.slc 1, .win 2 t.1 t.2, .dat (.int .i64) x6459, .dat (.int .i64) x6460, .dat (.int .u64) x6461]), some (.seq (.int .i64) x6462), some (.seq (.int .i64) x6463)]⟩ : St))) := by
  refine Link.of fun K h => ?_
  simp only [impl_eagerMachine_takeAway_n1, wpO_bind, wpO_cond, wpO_map, wpO_some] at h
  exact Awp.of (by kernel_rfl) h

theorem impl_eagerMachine_takeAway_e (x6457 : Nat) (x6458 : Nat) (x6459 : Int) (x6460 : Int) (x6461 : Int) (x6462 : List Int) (x6463 : List Int) {r : AV} {H' : Heap} (h : (Ans.mk _ (impl_eagerMachine_takeAway x6457 x6458 x6459 x6460 x6461 x6462 x6463) (fun (t : Nat × Nat) => (.tup [], [some (.box [.slc 1, .win 2 t.1 t.2, .dat (.int .i64) x6459, .dat (.int .i64) x6460, .dat (.int .u64) x6461]), some (.seq (.int .i64) x6462), some (.seq (.int .i64) x6463)])) [] none).run = some (r, H')) : Awp impl_eagerMachine_takeAway_ctx LL (bodyOf Try.f49) impl_eagerMachine_takeAway_an (⟨mkE 19 0 [(0, .ptr 0 0)], [some (.box [.slc 1, .win 2 x6457 x6458, .dat (.int .i64) x6459, .dat (.int .i64) x6460, .dat (.int .u64) x6461]), some (.seq (.int .i64) x6462), some (.seq (.int .i64) x6463)]⟩ : St) (Ret (tlook tys) Try.f49.results.toList r H') :=
  ret_of (impl_eagerMachine_takeAway_n1_l x6457 x6458 x6459 x6460 x6461 x6462 x6463) (fun (t : Nat × Nat) => (t.1, t.2)) (by unfold impl_eagerMachine_takeAway; kernel_rfl) (by
  rintro t
  · exact ret_mk [] (by kernel_rfl) (by kernel_rfl) (by kernel_rfl) (by kernel_rfl)) h

def F_impl_eagerMachine_takeAway : Fun := fun avs H =>
  match avs, H with
  | [.ptr 0 0], [some (.box [.slc 1, .win 2 x6457 x6458, .dat (.int .i64) x6459, .dat (.int .i64) x6460, .dat (.int .u64) x6461]), some (.seq (.int .i64) x6462), some (.seq (.int .i64) x6463)] => ⟨_, impl_eagerMachine_takeAway x6457 x6458 x6459 x6460 x6461 x6462 x6463, fun (t : Nat × Nat) => (.tup [], [some (.box [.slc 1, .win 2 t.1 t.2, .dat (.int .i64) x6459, .dat (.int .i64) x6460, .dat (.int .u64) x6461]), some (.seq (.int .i64) x6462), some (.seq (.int .i64) x6463)]), [], none⟩
  | _, _ => Ans.no

theorem impl_eagerMachine_takeAway_sound : Sound Try.prog 49 F_impl_eagerMachine_takeAway := by
  refine fn_sound' (C := impl_eagerMachine_takeAway_ctx) (c := bodyOf Try.f49) (cok_of tys_ok (by simp) (by simp) (by kernel_rfl)) Try.func49 (by kernel_rfl) LL impl_eagerMachine_takeAway_an ?_
  intro avs H r H' h
  unfold F_impl_eagerMachine_takeAway at h
  split at h
  · refine Awp.cast ?_ ?_ ?_ (impl_eagerMachine_takeAway_e _ _ _ _ _ _ _ h) <;> kernel_rfl
  · simp [Ans.no, Ans.run] at h


/-! (*loop.example/headtrees/impl.eagerMachine).takeUnderNext -/

def impl_eagerMachine_takeUnderNext_an : Ann := (.seq (.leaf [0]) (.seq (.leaf [0, 3, 4, 5]) (.seq (.seq (.leaf [0, 3, 4, 18]) (.cond (.seq (.leaf [2]) (.leaf [2])) (.leaf [0, 3, 4]))) (.seq (.leaf [0]) (.seq (.leaf []) (.seq (.leaf [2]) (.leaf [2])))))))

noncomputable def impl_eagerMachine_takeUnderNext_ctx : Ctx := ⟨tlook tys, olook [(46, F_impl_eagerMachine_upperAndNext), (47, F_impl_eagerMachine_hasHead), (48, F_impl_eagerMachine_giveHead), (49, F_impl_eagerMachine_takeAway)], ioF, 3, false, []⟩

theorem impl_eagerMachine_takeUnderNext_n1_l (x6360 : Nat) (x6361 : Nat) (x6362 : Int) (x6363 : Int) (x6364 : Int) (x6365 : List Int) (x6366 : List Int) : Link impl_eagerMachine_takeUnderNext_ctx LL (bodyOf Try.f38) impl_eagerMachine_takeUnderNext_an (⟨mkE 25 0 [(0, .ptr 0 0)], [some (.box [.slc 1, .win 2 x6360 x6361, .dat (.int .i64) x6362, .dat (.int .i64) x6363, .dat (.int .u64) x6364]), some (.seq (.int .i64) x6365), some (.seq (.int .i64) x6366)]⟩ : St) (impl_eagerMachine_takeUnderNext_n1 x6360 x6361 x6362 x6363 x6364 x6365 x6366) (fun (t : Bool × Nat × Nat × Int × (List Int)) => (Exit.ret, (⟨mkE 25 0 [(2, .dat .bool t.1)], [some (.box [.slc 1, .win 2 t.2.1 t.2.2.1, .dat (.int .i64) x6362, .dat (.int .i64) x6363, .dat (.int .u64) t.2.2.2.1]), some (.seq (.int .i64) t.2.2.2.2), some (.seq (.int .i64) x6366)]⟩ : St))) := by
  refine Link.of fun K h => ?_
  simp only [impl_eagerMachine_takeUnderNext_n1, wpO_bind, wpO_cond, wpO_map, wpO_some] at h
  exact Awp.of (by kernel_rfl) h

theorem impl_eagerMachine_takeUnderNext_e (x6360 : Nat) (x6361 : Nat) (x6362 : Int) (x6363 : Int) (x6364 : Int) (x6365 : List Int) (x6366 : List Int) {r : AV} {H' : Heap} (h : (Ans.mk _ (impl_eagerMachine_takeUnderNext x6360 x6361 x6362 x6363 x6364 x6365 x6366) (fun (t : Bool × Nat × Nat × Int × (List Int)) => (.dat .bool t.1, [some (.box [.slc 1, .win 2 t.2.1 t.2.2.1, .dat (.int .i64) x6362, .dat (.int .i64) x6363, .dat (.int .u64) t.2.2.2.1]), some (.seq (.int .i64) t.2.2.2.2), some (.seq (.int .i64) x6366)])) [] none).run = some (r, H')) : Awp impl_eagerMachine_takeUnderNext_ctx LL (bodyOf Try.f38) impl_eagerMachine_takeUnderNext_an (⟨mkE 25 0 [(0, .ptr 0 0)], [some (.box [.slc 1, .win 2 x6360 x6361, .dat (.int .i64) x6362, .dat (.int .i64) x6363, .dat (.int .u64) x6364]), some (.seq (.int .i64) x6365), some (.seq (.int .i64) x6366)]⟩ : St) (Ret (tlook tys) Try.f38.results.toList r H') :=
  ret_of' (impl_eagerMachine_takeUnderNext_n1_l x6360 x6361 x6362 x6363 x6364 x6365 x6366) (by unfold impl_eagerMachine_takeUnderNext; kernel_rfl) (by
  intro t
  exact ret_mk [.dat .bool t.1] (by kernel_rfl) (by kernel_rfl) (by kernel_rfl) (by kernel_rfl)) h

def F_impl_eagerMachine_takeUnderNext : Fun := fun avs H =>
  match avs, H with
  | [.ptr 0 0], [some (.box [.slc 1, .win 2 x6360 x6361, .dat (.int .i64) x6362, .dat (.int .i64) x6363, .dat (.int .u64) x6364]), some (.seq (.int .i64) x6365), some (.seq (.int .i64) x6366)] => ⟨_, impl_eagerMachine_takeUnderNext x6360 x6361 x6362 x6363 x6364 x6365 x6366, fun (t : Bool × Nat × Nat × Int × (List Int)) => (.dat .bool t.1, [some (.box [.slc 1, .win 2 t.2.1 t.2.2.1, .dat (.int .i64) x6362, .dat (.int .i64) x6363, .dat (.int .u64) t.2.2.2.1]), some (.seq (.int .i64) t.2.2.2.2), some (.seq (.int .i64) x6366)]), [], none⟩
  | _, _ => Ans.no

theorem impl_eagerMachine_takeUnderNext_sound : Sound Try.prog 38 F_impl_eagerMachine_takeUnderNext := by
  refine fn_sound' (C := impl_eagerMachine_takeUnderNext_ctx) (c := bodyOf Try.f38) (cok_of tys_ok (List.forall_mem_cons.2 ⟨impl_eagerMachine_upperAndNext_sound, List.forall_mem_cons.2 ⟨impl_eagerMachine_hasHead_sound, List.forall_mem_cons.2 ⟨impl_eagerMachine_giveHead_sound, List.forall_mem_cons.2 ⟨impl_eagerMachine_takeAway_sound, by simp⟩⟩⟩⟩) (List.forall_mem_cons.2 ⟨Try.call46, List.forall_mem_cons.2 ⟨Try.call47, List.forall_mem_cons.2 ⟨Try.call48, List.forall_mem_cons.2 ⟨Try.call49, by simp⟩⟩⟩⟩) (by kernel_rfl)) Try.func38 (by kernel_rfl) LL impl_eagerMachine_takeUnderNext_an ?_
  intro avs H r H' h
  unfold F_impl_eagerMachine_takeUnderNext at h
  split at h
  · refine Awp.cast ?_ ?_ ?_ (impl_eagerMachine_takeUnderNext_e _ _ _ _ _ _ _ h) <;> kernel_rfl
  · simp [Ans.no, Ans.run] at h


/-! (*loop.example/headtrees/impl.eagerMachine).putUnderUpper -/

def impl_eagerMachine_putUnderUpper_an : Ann := (.seq (.leaf [0]) (.seq (.leaf [0, 3, 4, 5]) (.seq (.seq (.leaf [0, 3, 4, 13]) (.cond (.seq (.leaf [2]) (.leaf [2])) (.leaf [0, 3, 4]))) (.seq (.leaf [0]) (.seq (.leaf [2]) (.leaf [2]))))))

noncomputable def impl_eagerMachine_putUnderUpper_ctx : Ctx := ⟨tlook tys, olook [(46, F_impl_eagerMachine_upperAndNext), (48, F_impl_eagerMachine_giveHead), (37, F_impl_stackMachine_putNext_v2)], ioF, 3, false, [2]⟩

theorem impl_eagerMachine_putUnderUpper_n1_l (x6509 : Nat) (x6510 : Nat) (x6511 : Int) (x6512 : Int) (x6513 : Int) (x6514 : List Int) (x6515 : List Int) : Link impl_eagerMachine_putUnderUpper_ctx LL (bodyOf Try.f39) impl_eagerMachine_putUnderUpper_an (⟨mkE 22 0 [(0, .ptr 0 0)], [some (.box [.slc 1, .win 2 x6509 x6510, .dat (.int .i64) x6511, .dat (.int .i64) x6512, .dat (.int .u64) x6513]), some (.seq (.int .i64) x6514), some (.seq (.int .i64) x6515)]⟩ : St) (impl_eagerMachine_putUnderUpper_n1 x6509 x6510 x6511 x6512 x6513 x6514 x6515) (fun (t : Bool × Nat × Nat × Int × Int × Int × (List Int) × (List Int)) => (Exit.ret, (⟨mkE 22 0 [(2, .dat .bool t.1)], [some (.box [.slc 1, .win 2 t.2.1 t.2.2.1, .dat (.int .i64) t.2.2.2.1, .dat (.int .i64) t.2.2.2.2.1, .dat (.int .u64) t.2.2.2.2.2.1]), some (.seq (.int .i64) t.2.2.2.2.2.2.1), some (.seq (.int .i64) t.2.2.2.2.2.2.2)]⟩ : St))) := by
  refine Link.of fun K h => ?_
  simp only [impl_eagerMachine_putUnderUpper_n1, wpO_bind, wpO_cond, wpO_map, wpO_some] at h
  exact Awp.of (by kernel_rfl) h

theorem impl_eagerMachine_putUnderUpper_e (x6509 : Nat) (x6510 : Nat) (x6511 : Int) (x6512 : Int) (x6513 : Int) (x6514 : List Int) (x6515 : List Int) {r : AV} {H' : Heap} (h : (Ans.mk _ (impl_eagerMachine_putUnderUpper x6509 x6510 x6511 x6512 x6513 x6514 x6515) (fun (t : Bool × Nat × Nat × Int × Int × Int × (List Int) × (List Int)) => (.dat .bool t.1, [some (.box [.slc 1, .win 2 t.2.1 t.2.2.1, .dat (.int .i64) t.2.2.2.1, .dat (.int .i64) t.2.2.2.2.1, .dat (.int .u64) t.2.2.2.2.2.1]), some (.seq (.int .i64) t.2.2.2.2.2.2.1), some (.seq (.int .i64) t.2.2.2.2.2.2.2)])) [2] none).run = some (r, H')) : Awp impl_eagerMachine_putUnderUpper_ctx LL (bodyOf Try.f39) impl_eagerMachine_putUnderUpper_an (⟨mkE 22 0 [(0, .ptr 0 0)], [some (.box [.slc 1, .win 2 x6509 x6510, .dat (.int .i64) x6511, .dat (.int .i64) x6512, .dat (.int .u64) x6513]), some (.seq (.int .i64) x6514), some (.seq (.int .i64) x6515)]⟩ : St) (Ret (tlook tys) Try.f39.results.toList r H') :=
  ret_of' (impl_eagerMachine_putUnderUpper_n1_l x6509 x6510 x6511 x6512 x6513 x6514 x6515) (by unfold impl_eagerMachine_putUnderUpper; kernel_rfl) (by
  intro t
  exact ret_mk [.dat .bool t.1] (by kernel_rfl) (by kernel_rfl) (by kernel_rfl) (by kernel_rfl)) h

def F_impl_eagerMachine_putUnderUpper : Fun := fun avs H =>
  match avs, H with
  | [.ptr 0 0], [some (.box [.slc 1, .win 2 x6509 x6510, .dat (.int .i64) x6511, .dat (.int .i64) x6512, .dat (.int .u64) x6513]), some (.seq (.int .i64) x6514), some (.seq (.int .i64) x6515)] => ⟨_, impl_eagerMachine_putUnderUpper x6509 x6510 x6511 x6512 x6513 x6514 x6515, fun (t : Bool × Nat × Nat × Int × Int × Int × (List Int) × (List Int)) => (.dat .bool t.1, [some (.box [.slc 1, .win 2 t.2.1 t.2.2.1, .dat (.int .i64) t.2.2.2.1, .dat (.int .i64) t.2.2.2.2.1, .dat (.int .u64) t.2.2.2.2.2.1]), some (.seq (.int .i64) t.2.2.2.2.2.2.1), some (.seq (.int .i64) t.2.2.2.2.2.2.2)]), [2], none⟩
  | _, _ => Ans.no

theorem impl_eagerMachine_putUnderUpper_sound : Sound Try.prog 39 F_impl_eagerMachine_putUnderUpper := by
  refine fn_sound' (C := impl_eagerMachine_putUnderUpper_ctx) (c := bodyOf Try.f39) (cok_of tys_ok (List.forall_mem_cons.2 ⟨impl_eagerMachine_upperAndNext_sound, List.forall_mem_cons.2 ⟨impl_eagerMachine_giveHead_sound, List.forall_mem_cons.2 ⟨impl_stackMachine_putNext_v2_sound, by simp⟩⟩⟩) (List.forall_mem_cons.2 ⟨Try.call46, List.forall_mem_cons.2 ⟨Try.call48, List.forall_mem_cons.2 ⟨Try.call37, by simp⟩⟩⟩) (by kernel_rfl)) Try.func39 (by kernel_rfl) LL impl_eagerMachine_putUnderUpper_an ?_
  intro avs H r H' h
  unfold F_impl_eagerMachine_putUnderUpper at h
  split at h
  · refine Awp.cast ?_ ?_ ?_ (impl_eagerMachine_putUnderUpper_e _ _ _ _ _ _ _ h) <;> kernel_rfl
  · simp [Ans.no, Ans.run] at h


/-! (*loop.example/headtrees/impl.eagerMachine).takeHeaded -/

def impl_eagerMachine_takeHeaded_an : Ann := (.seq (.leaf [0]) (.seq (.leaf [0, 3]) (.seq (.seq (.leaf [0, 25]) (.cond (.seq (.leaf [2]) (.leaf [2])) (.leaf [0]))) (.seq (.leaf []) (.seq (.leaf [2]) (.leaf [2]))))))

noncomputable def impl_eagerMachine_takeHeaded_ctx : Ctx := ⟨tlook tys, olook [(47, F_impl_eagerMachine_hasHead), (49, F_impl_eagerMachine_takeAway)], ioF, 3, false, []⟩

theorem impl_eagerMachine_takeHeaded_n1_l (x6582 : Nat) (x6583 : Nat) (x6584 : Int) (x6585 : Int) (x6586 : Int) (x6587 : List Int) (x6588 : List Int) : Link impl_eagerMachine_takeHeaded_ctx LL (bodyOf Try.f40) impl_eagerMachine_takeHeaded_an (⟨mkE 28 0 [(0, .ptr 0 0)], [some (.box [.slc 1, .win 2 x6582 x6583, .dat (.int .i64) x6584, .dat (.int .i64) x6585, .dat (.int .u64) x6586]), some (.seq (.int .i64) x6587), some (.seq (.int .i64) x6588)]⟩ : St) (impl_eagerMachine_takeHeaded_n1 x6582 x6583 x6584 x6585 x6586 x6587 x6588) (fun (t : Bool × Nat × Nat) => (Exit.ret, (⟨mkE 28 0 [(2, .dat .bool t.1)], [some (.box [.slc 1, .win 2 t.2.1 t.2.2, .dat (.int .i64) x6584, .dat (.int .i64) x6585, .dat (.int .u64) x6586]), some (.seq (.int .i64) x6587), some (.seq (.int .i64) x6588)]⟩ : St))) := by
  refine Link.of fun K h => ?_
  simp only [impl_eagerMachine_takeHeaded_n1, wpO_bind, wpO_cond, wpO_map, wpO_some] at h
  exact Awp.of (by kernel_rfl) h

theorem impl_eagerMachine_takeHeaded_e (x6582 : Nat) (x6583 : Nat) (x6584 : Int) (x6585 : Int) (x6586 : Int) (x6587 : List Int) (x6588 : List Int) {r : AV} {H' : Heap} (h : (Ans.mk _ (impl_eagerMachine_takeHeaded x6582 x6583 x6584 x6585 x6586 x6587 x6588) (fun (t : Bool × Nat × Nat) => (.dat .bool t.1, [some (.box [.slc 1, .win 2 t.2.1 t.2.2, .dat (.int .i64) x6584, .dat (.int .i64) x6585, .dat (.int .u64) x6586]), some (.seq (.int .i64) x6587), some (.seq (.int .i64) x6588)])) [] none).run = some (r, H')) : Awp impl_eagerMachine_takeHeaded_ctx LL (bodyOf Try.f40) impl_eagerMachine_takeHeaded_an (⟨mkE 28 0 [(0, .ptr 0 0)], [some (.box [.slc 1, .win 2 x6582 x6583, .dat (.int .i64) x6584, .dat (.int .i64) x6585, .dat (.int .u64) x6586]), some (.seq (.int .i64) x6587), some (.seq (.int .i64) x6588)]⟩ : St) (Ret (tlook tys) Try.f40.results.toList r H') :=
  ret_of' (impl_eagerMachine_takeHeaded_n1_l x6582 x6583 x6584 x6585 x6586 x6587 x6588) (by unfold impl_eagerMachine_takeHeaded; kernel_rfl) (by
  intro t
  exact ret_mk [.dat .bool t.1] (by kernel_rfl) (by kernel_rfl) (by kernel_rfl) (by kernel_rfl)) h

def F_impl_eagerMachine_takeHeaded : Fun := fun avs H =>
  match avs, H with
  | [.ptr 0 0], [some (.box [.slc 1, .win 2 x6582 x6583, .dat (.int .i64) x6584, .dat (.int .i64) x6585, .dat (.int .u64) x6586]), some (.seq (.int .i64) x6587), some (.seq (.int .i64) x6588)] => ⟨_, impl_eagerMachine_takeHeaded x6582 x6583 x6584 x6585 x6586 x6587 x6588, fun (t : Bool × Nat × Nat) => (.dat .bool t.1, [some (.box [.slc 1, .win 2 t.2.1 t.2.2, .dat (.int .i64) x6584, .dat (.int .i64) x6585, .dat (.int .u64) x6586]), some (.seq (.int .i64) x6587), some (.seq (.int .i64) x6588)]), [], none⟩
  | _, _ => Ans.no

theorem impl_eagerMachine_takeHeaded_sound : Sound Try.prog 40 F_impl_eagerMachine_takeHeaded := by
  refine fn_sound' (C := impl_eagerMachine_takeHeaded_ctx) (c := bodyOf Try.f40) (cok_of tys_ok (List.forall_mem_cons.2 ⟨impl_eagerMachine_hasHead_sound, List.forall_mem_cons.2 ⟨impl_eagerMachine_takeAway_sound, by simp⟩⟩) (List.forall_mem_cons.2 ⟨Try.call47, List.forall_mem_cons.2 ⟨Try.call49, by simp⟩⟩) (by kernel_rfl)) Try.func40 (by kernel_rfl) LL impl_eagerMachine_takeHeaded_an ?_
  intro avs H r H' h
  unfold F_impl_eagerMachine_takeHeaded at h
  split at h
  · refine Awp.cast ?_ ?_ ?_ (impl_eagerMachine_takeHeaded_e _ _ _ _ _ _ _ h) <;> kernel_rfl
  · simp [Ans.no, Ans.run] at h


/-! loop.example/headtrees/impl.allDone[*loop.example/headtrees/impl.eagerMachine] -/

def impl_allDone_impl_eagerMachine_an : Ann := (.seq (.leaf [0, 1, 2]) (.seq (.seq (.leafF [⟨3, 0, false, some 1, some (.int .i64)⟩, ⟨3, 0, true, some 1, none⟩] [0, 1, 2, 11, 12]) (.block (.loop (.seq (.leaf [0, 1, 2, 11, 12, 13]) (.seq (.cond (.leaf [0, 1, 2, 11, 12]) (.leaf [])) (.seq (.block (.seq (.leaf [0, 1, 2, 7, 11, 12]) (.seq (.leaf [0, 1, 2, 8, 9, 11, 12]) (.seq (.leafF [⟨5, 0, false, some 1, some (.int .i64)⟩] [0, 1, 2, 11, 12, 30]) (.cond (.seq (.leaf [6]) (.leaf [6])) (.leaf [0, 1, 2, 11, 12])))))) (.leafF [⟨2, 0, true, some 1, none⟩] [0, 1, 2, 11, 12]))))))) (.seq (.leaf [6]) (.leaf [6]))))

noncomputable def impl_allDone_impl_eagerMachine_ctx : Ctx := ⟨tlook tys, olook [(37, F_impl_stackMachine_putNext_v2), (38, F_impl_eagerMachine_takeUnderNext), (39, F_impl_eagerMachine_putUnderUpper), (40, F_impl_eagerMachine_takeHeaded)], ioF, 2, false, []⟩

theorem impl_allDone_impl_eagerMachine_n1_l (x5159 : ByteArray) (x5160 : Int) (x5161 : Int) (x5162 : Int) (x5163 : List Int) : Link impl_allDone_impl_eagerMachine_ctx LL (Code.fst (bodyOf Try.f25)) (Ann.fst impl_allDone_impl_eagerMachine_an) (⟨mkE 32 0 [(0, .ptr 0 0), (1, .fmap [(.int .u8 83, .methodOf 43 "loop.example/headtrees/impl.putNext"), (.int .u8 76, .func 38), (.int .u8 82, .func 39), (.int .u8 68, .func 40)]), (2, .dat .str x5159)], [some (.box [.slc 1, .nils, .dat (.int .i64) x5160, .dat (.int .i64) x5161, .dat (.int .u64) x5162]), some (.seq (.int .i64) x5163)]⟩ : St) (impl_allDone_impl_eagerMachine_n1) (fun (t : Unit) => (Exit.normal, (⟨mkE 32 0 [(0, .ptr 0 0), (1, .fmap [(.int .u8 83, .methodOf 43 "loop.example/headtrees/impl.putNext"), (.int .u8 76, .func 38), (.int .u8 82, .func 39), (.int .u8 68, .func 40)]), (2, .dat .str x5159)], [some (.box [.slc 1, .nils, .dat (.int .i64) x5160, .dat (.int .i64) x5161, .dat (.int .u64) x5162]), some (.seq (.int .i64) x5163)]⟩ : St))) := by
  refine Link.of fun K h => ?_
  simp only [impl_allDone_impl_eagerMachine_n1, wpO_bind, wpO_cond, wpO_map, wpO_some] at h
  exact Awp.of (by kernel_rfl) h

theorem impl_allDone_impl_eagerMachine_n2_l (x5159 : ByteArray) (x5160 : Int) (x5161 : Int) (x5162 : Int) (x5163 : List Int) : Link impl_allDone_impl_eagerMachine_ctx LL (Code.fst (Code.fst (Code.snd (bodyOf Try.f25)))) (Ann.fst (Ann.fst (Ann.snd impl_allDone_impl_eagerMachine_an))) (⟨mkE 32 0 [(0, .ptr 0 0), (1, .fmap [(.int .u8 83, .methodOf 43 "loop.example/headtrees/impl.putNext"), (.int .u8 76, .func 38), (.int .u8 82, .func 39), (.int .u8 68, .func 40)]), (2, .dat .str x5159)], [some (.box [.slc 1, .nils, .dat (.int .i64) x5160, .dat (.int .i64) x5161, .dat (.int .u64) x5162]), some (.seq (.int .i64) x5163)]⟩ : St) (impl_allDone_impl_eagerMachine_n2 x5159) (fun (t : Int × Nat) => (Exit.normal, (⟨mkE 32 0 [(0, .ptr 0 0), (1, .fmap [(.int .u8 83, .methodOf 43 "loop.example/headtrees/impl.putNext"), (.int .u8 76, .func 38), (.int .u8 82, .func 39), (.int .u8 68, .func 40)]), (2, .dat .str x5159), (11, .dat (.int .i64) t.1), (12, .dat (.int .i64) 0)], [some (.box [.slc 1, .win 2 0 t.2, .dat (.int .i64) x5160, .dat (.int .i64) x5161, .dat (.int .u64) x5162]), some (.seq (.int .i64) x5163), some (.seq (.int .i64) ([] : List Int))]⟩ : St))) := by
  refine Link.of fun K h => ?_
  simp only [impl_allDone_impl_eagerMachine_n2, wpO_bind, wpO_cond, wpO_map, wpO_some] at h
  exact Awp.of (by kernel_rfl) h

theorem impl_allDone_impl_eagerMachine_n3_l (x5159 : ByteArray) (x6213 : Int) (x6687 : Int) (x6688 : Nat) (x6689 : Nat) (x6690 : Int) (x6691 : Int) (x6692 : Int) (x6693 : List Int) (x6694 : List Int) : Link impl_allDone_impl_eagerMachine_ctx LL (Code.fst (Code.fst (Code.snd (Code.fst (Code.snd (bodyOf Try.f25)))))) (Ann.fst (Ann.fst (Ann.snd (Ann.fst (Ann.snd impl_allDone_impl_eagerMachine_an))))) (⟨mkE 32 0 [(0, .ptr 0 0), (1, .fmap [(.int .u8 83, .methodOf 43 "loop.example/headtrees/impl.putNext"), (.int .u8 76, .func 38), (.int .u8 82, .func 39), (.int .u8 68, .func 40)]), (2, .dat .str x5159), (11, .dat (.int .i64) x6213), (12, .dat (.int .i64) x6687)], [some (.box [.slc 1, .win 2 x6688 x6689, .dat (.int .i64) x6690, .dat (.int .i64) x6691, .dat (.int .u64) x6692]), some (.seq (.int .i64) x6693), some (.seq (.int .i64) x6694)]⟩ : St) (impl_allDone_impl_eagerMachine_n3 x5159 x6213 x6687 x6688 x6689 x6690 x6691 x6692 x6693 x6694) (Sum.elim (fun (t : Int × Nat × Nat × Int × Int × Int × (List Int) × (List Int)) => (Exit.normal, (⟨mkE 32 0 [(0, .ptr 0 0), (1, .fmap [(.int .u8 83, .methodOf 43 "loop.example/headtrees/impl.putNext"), (.int .u8 76, .func 38), (.int .u8 82, .func 39), (.int .u8 68, .func 40)]), (2, .dat .str x5159), (11, .dat (.int .i64) x6213), (12, .dat (.int .i64) t.1)], [some (.box [.slc 1, .win 2 t.2.1 t.2.2.1, .dat (.int .i64) t.2.2.2.1, .dat (.int .i64) t.2.2.2.2.1, .dat (.int .u64) t.2.2.2.2.2.1]), some (.seq (.int .i64) t.2.2.2.2.2.2.1), some (.seq (.int .i64) t.2.2.2.2.2.2.2)]⟩ : St))) (Sum.elim (fun (t : Bool × Nat × Nat × Int × Int × Int × (List Int) × (List Int)) => (Exit.ret, (⟨mkE 32 0 [(6, .dat .bool t.1)], [some (.box [.slc 1, .win 2 t.2.1 t.2.2.1, .dat (.int .i64) t.2.2.2.1, .dat (.int .i64) t.2.2.2.2.1, .dat (.int .u64) t.2.2.2.2.2.1]), some (.seq (.int .i64) t.2.2.2.2.2.2.1), some (.seq (.int .i64) t.2.2.2.2.2.2.2)]⟩ : St))) (fun (t : Nat × Nat × Int × Int × Int × (List Int) × (List Int)) => ((Exit.exit 0), (⟨mkE 32 0 [], [some (.box [.slc 1, .win 2 t.1 t.2.1, .dat (.int .i64) t.2.2.1, .dat (.int .i64) t.2.2.2.1, .dat (.int .u64) t.2.2.2.2.1]), some (.seq (.int .i64) t.2.2.2.2.2.1), some (.seq (.int .i64) t.2.2.2.2.2.2)]⟩ : St))))) := by
  refine Link.of fun K h => ?_
  simp only [impl_allDone_impl_eagerMachine_n3, wpO_bind, wpO_cond, wpO_map, wpO_some] at h
  exact Awp.of (by kernel_rfl) h

theorem impl_allDone_impl_eagerMachine_n4_l (x5159 : ByteArray) (x6213 : Int) (x6214 : Nat) (x5160 : Int) (x5161 : Int) (x5162 : Int) (x5163 : List Int) : Link impl_allDone_impl_eagerMachine_ctx LL (Code.fst (Code.snd (Code.fst (Code.snd (bodyOf Try.f25))))) (Ann.fst (Ann.snd (Ann.fst (Ann.snd impl_allDone_impl_eagerMachine_an)))) (⟨mkE 32 0 [(0, .ptr 0 0), (1, .fmap [(.int .u8 83, .methodOf 43 "loop.example/headtrees/impl.putNext"), (.int .u8 76, .func 38), (.int .u8 82, .func 39), (.int .u8 68, .func 40)]), (2, .dat .str x5159), (11, .dat (.int .i64) x6213), (12, .dat (.int .i64) 0)], [some (.box [.slc 1, .win 2 0 x6214, .dat (.int .i64) x5160, .dat (.int .i64) x5161, .dat (.int .u64) x5162]), some (.seq (.int .i64) x5163), some (.seq (.int .i64) ([] : List Int))]⟩ : St) (impl_allDone_impl_eagerMachine_n4 x5159 x6213 x6214 x5160 x5161 x5162 x5163) (Sum.elim (fun (t : Bool × Nat × Nat × Int × Int × Int × (List Int) × (List Int)) => (Exit.ret, (⟨mkE 32 0 [(6, .dat .bool t.1)], [some (.box [.slc 1, .win 2 t.2.1 t.2.2.1, .dat (.int .i64) t.2.2.2.1, .dat (.int .i64) t.2.2.2.2.1, .dat (.int .u64) t.2.2.2.2.2.1]), some (.seq (.int .i64) t.2.2.2.2.2.2.1), some (.seq (.int .i64) t.2.2.2.2.2.2.2)]⟩ : St))) (fun (t : Nat × Nat × Int × Int × Int × (List Int) × (List Int)) => ((Exit.exit 0), (⟨mkE 32 0 [], [some (.box [.slc 1, .win 2 t.1 t.2.1, .dat (.int .i64) t.2.2.1, .dat (.int .i64) t.2.2.2.1, .dat (.int .u64) t.2.2.2.2.1]), some (.seq (.int .i64) t.2.2.2.2.2.1), some (.seq (.int .i64) t.2.2.2.2.2.2)]⟩ : St)))) := by
  unfold impl_allDone_impl_eagerMachine_n4
  exact Link.cast (by kernel_rfl) (by kernel_rfl) (link_loop (mk := fun (s : Int × Nat × Nat × Int × Int × Int × (List Int) × (List Int)) => (⟨mkE 32 0 [(0, .ptr 0 0), (1, .fmap [(.int .u8 83, .methodOf 43 "loop.example/headtrees/impl.putNext"), (.int .u8 76, .func 38), (.int .u8 82, .func 39), (.int .u8 68, .func 40)]), (2, .dat .str x5159), (11, .dat (.int .i64) x6213), (12, .dat (.int .i64) s.1)], [some (.box [.slc 1, .win 2 s.2.1 s.2.2.1, .dat (.int .i64) s.2.2.2.1, .dat (.int .i64) s.2.2.2.2.1, .dat (.int .u64) s.2.2.2.2.2.1]), some (.seq (.int .i64) s.2.2.2.2.2.2.1), some (.seq (.int .i64) s.2.2.2.2.2.2.2)]⟩ : St)) (fin := (Sum.elim (fun (t : Bool × Nat × Nat × Int × Int × Int × (List Int) × (List Int)) => (Exit.ret, (⟨mkE 32 0 [(6, .dat .bool t.1)], [some (.box [.slc 1, .win 2 t.2.1 t.2.2.1, .dat (.int .i64) t.2.2.2.1, .dat (.int .i64) t.2.2.2.2.1, .dat (.int .u64) t.2.2.2.2.2.1]), some (.seq (.int .i64) t.2.2.2.2.2.2.1), some (.seq (.int .i64) t.2.2.2.2.2.2.2)]⟩ : St))) (fun (t : Nat × Nat × Int × Int × Int × (List Int) × (List Int)) => ((Exit.exit 0), (⟨mkE 32 0 [], [some (.box [.slc 1, .win 2 t.1 t.2.1, .dat (.int .i64) t.2.2.1, .dat (.int .i64) t.2.2.2.1, .dat (.int .u64) t.2.2.2.2.1]), some (.seq (.int .i64) t.2.2.2.2.2.1), some (.seq (.int .i64) t.2.2.2.2.2.2)]⟩ : St))))) (by
  rintro (t | t) f K h
  · exact h
  · exact h) (fun s => link_map (impl_allDone_impl_eagerMachine_n3_l x5159 x6213 s.1 s.2.1 s.2.2.1 s.2.2.2.1 s.2.2.2.2.1 s.2.2.2.2.2.1 s.2.2.2.2.2.2.1 s.2.2.2.2.2.2.2) (Sum.elim (fun (t : Int × Nat × Nat × Int × Int × Int × (List Int) × (List Int)) => Sum.inl (t.1, t.2.1, t.2.2.1, t.2.2.2.1, t.2.2.2.2.1, t.2.2.2.2.2.1, t.2.2.2.2.2.2.1, t.2.2.2.2.2.2.2)) (Sum.elim (fun (t : Bool × Nat × Nat × Int × Int × Int × (List Int) × (List Int)) => Sum.inr (Sum.inl t)) (fun (t : Nat × Nat × Int × Int × Int × (List Int) × (List Int)) => Sum.inr (Sum.inr t)))) (by
  rintro (t | t | t)
  · kernel_rfl
  · kernel_rfl
  · kernel_rfl)) (0, 0, x6214, x5160, x5161, x5162, x5163, ([] : List Int)))

theorem impl_allDone_impl_eagerMachine_n5_l (x5159 : ByteArray) (x6213 : Int) (x6214 : Nat) (x5160 : Int) (x5161 : Int) (x5162 : Int) (x5163 : List Int) : Link impl_allDone_impl_eagerMachine_ctx LL (Code.snd (Code.fst (Code.snd (bodyOf Try.f25)))) (Ann.snd (Ann.fst (Ann.snd impl_allDone_impl_eagerMachine_an))) (⟨mkE 32 0 [(0, .ptr 0 0), (1, .fmap [(.int .u8 83, .methodOf 43 "loop.example/headtrees/impl.putNext"), (.int .u8 76, .func 38), (.int .u8 82, .func 39), (.int .u8 68, .func 40)]), (2, .dat .str x5159), (11, .dat (.int .i64) x6213), (12, .dat (.int .i64) 0)], [some (.box [.slc 1, .win 2 0 x6214, .dat (.int .i64) x5160, .dat (.int .i64) x5161, .dat (.int .u64) x5162]), some (.seq (.int .i64) x5163), some (.seq (.int .i64) ([] : List Int))]⟩ : St) (impl_allDone_impl_eagerMachine_n5 x5159 x6213 x6214 x5160 x5161 x5162 x5163) (Sum.elim (fun (t : Nat × Nat × Int × Int × Int × (List Int) × (List Int)) => (Exit.normal, (⟨mkE 32 0 [], [some (.box [.slc 1, .win 2 t.1 t.2.1, .dat (.int .i64) t.2.2.1, .dat (.int .i64) t.2.2.2.1, .dat (.int .u64) t.2.2.2.2.1]), some (.seq (.int .i64) t.2.2.2.2.2.1), some (.seq (.int .i64) t.2.2.2.2.2.2)]⟩ : St))) (fun (t : Bool × Nat × Nat × Int × Int × Int × (List Int) × (List Int)) => (Exit.ret, (⟨mkE 32 0 [(6, .dat .bool t.1)], [some (.box [.slc 1, .win 2 t.2.1 t.2.2.1, .dat (.int .i64) t.2.2.2.1, .dat (.int .i64) t.2.2.2.2.1, .dat (.int .u64) t.2.2.2.2.2.1]), some (.seq (.int .i64) t.2.2.2.2.2.2.1), some (.seq (.int .i64) t.2.2.2.2.2.2.2)]⟩ : St)))) := by
  unfold impl_allDone_impl_eagerMachine_n5
  exact Link.cast (by kernel_rfl) (by kernel_rfl) (link_block (id := 0) (impl_allDone_impl_eagerMachine_n4_l x5159 x6213 x6214 x5160 x5161 x5162 x5163) (Sum.elim (fun (t : Bool × Nat × Nat × Int × Int × Int × (List Int) × (List Int)) => (Sum.inr t)) (fun (t : Nat × Nat × Int × Int × Int × (List Int) × (List Int)) => (Sum.inl (t.1, t.2.1, t.2.2.1, t.2.2.2.1, t.2.2.2.2.1, t.2.2.2.2.2.1, t.2.2.2.2.2.2)))) (by
  rintro (t | t) K h
  · exact Eq.mp (by kernel_rfl) h
  · exact Eq.mp (by kernel_rfl) h))

theorem impl_allDone_impl_eagerMachine_n6_l (x5159 : ByteArray) (x5160 : Int) (x5161 : Int) (x5162 : Int) (x5163 : List Int) : Link impl_allDone_impl_eagerMachine_ctx LL (Code.fst (Code.snd (bodyOf Try.f25))) (Ann.fst (Ann.snd impl_allDone_impl_eagerMachine_an)) (⟨mkE 32 0 [(0, .ptr 0 0), (1, .fmap [(.int .u8 83, .methodOf 43 "loop.example/headtrees/impl.putNext"), (.int .u8 76, .func 38), (.int .u8 82, .func 39), (.int .u8 68, .func 40)]), (2, .dat .str x5159)], [some (.box [.slc 1, .nils, .dat (.int .i64) x5160, .dat (.int .i64) x5161, .dat (.int .u64) x5162]), some (.seq (.int .i64) x5163)]⟩ : St) (impl_allDone_impl_eagerMachine_n6 x5159 x5160 x5161 x5162 x5163) (Sum.elim (fun (t : Nat × Nat × Int × Int × Int × (List Int) × (List Int)) => (Exit.normal, (⟨mkE 32 0 [], [some (.box [.slc 1, .win 2 t.1 t.2.1, .dat (.int .i64) t.2.2.1, .dat (.int .i64) t.2.2.2.1, .dat (.int .u64) t.2.2.2.2.1]), some (.seq (.int .i64) t.2.2.2.2.2.1), some (.seq (.int .i64) t.2.2.2.2.2.2)]⟩ : St))) (fun (t : Bool × Nat × Nat × Int × Int × Int × (List Int) × (List Int)) => (Exit.ret, (⟨mkE 32 0 [(6, .dat .bool t.1)], [some (.box [.slc 1, .win 2 t.2.1 t.2.2.1, .dat (.int .i64) t.2.2.2.1, .dat (.int .i64) t.2.2.2.2.1, .dat (.int .u64) t.2.2.2.2.2.1]), some (.seq (.int .i64) t.2.2.2.2.2.2.1), some (.seq (.int .i64) t.2.2.2.2.2.2.2)]⟩ : St)))) := by
  unfold impl_allDone_impl_eagerMachine_n6
  exact Link.cast (by kernel_rfl) (by kernel_rfl) (link_seq (b := (Code.snd (Code.fst (Code.snd (bodyOf Try.f25))))) (y := (Ann.snd (Ann.fst (Ann.snd impl_allDone_impl_eagerMachine_an)))) (impl_allDone_impl_eagerMachine_n2_l x5159 x5160 x5161 x5162 x5163) (fun (t : Int × Nat) => (impl_allDone_impl_eagerMachine_n5_l x5159 t.1 t.2 x5160 x5161 x5162 x5163)))

theorem impl_allDone_impl_eagerMachine_n7_l (x6688 : Nat) (x6689 : Nat) (x6690 : Int) (x6691 : Int) (x6692 : Int) (x6693 : List Int) (x6694 : List Int) : Link impl_allDone_impl_eagerMachine_ctx LL (Code.snd (Code.snd (bodyOf Try.f25))) (Ann.snd (Ann.snd impl_allDone_impl_eagerMachine_an)) (⟨mkE 32 0 [], [some (.box [.slc 1, .win 2 x6688 x6689, .dat (.int .i64) x6690, .dat (.int .i64) x6691, .dat (.int .u64) x6692]), some (.seq (.int .i64) x6693), some (.seq (.int .i64) x6694)]⟩ : St) (impl_allDone_impl_eagerMachine_n7 x6688 x6689 x6690 x6691 x6692 x6693 x6694) (fun (t : Bool × Nat × Nat × Int × Int × Int × (List Int) × (List Int)) => (Exit.ret, (⟨mkE 32 0 [(6, .dat .bool t.1)], [some (.box [.slc 1, .win 2 t.2.1 t.2.2.1, .dat (.int .i64) t.2.2.2.1, .dat (.int .i64) t.2.2.2.2.1, .dat (.int .u64) t.2.2.2.2.2.1]), some (.seq (.int .i64) t.2.2.2.2.2.2.1), some (.seq (.int .i64) t.2.2.2.2.2.2.2)]⟩ : St))) := by
  refine Link.of fun K h => ?_
  simp only [impl_allDone_impl_eagerMachine_n7, wpO_bind, wpO_cond, wpO_map, wpO_some] at h
  exact Awp.of (by kernel_rfl) h

theorem impl_allDone_impl_eagerMachine_n8_l (x5159 : ByteArray) (x5160 : Int) (x5161 : Int) (x5162 : Int) (x5163 : List Int) : Link impl_allDone_impl_eagerMachine_ctx LL (Code.snd (bodyOf Try.f25)) (Ann.snd impl_allDone_impl_eagerMachine_an) (⟨mkE 32 0 [(0, .ptr 0 0), (1, .fmap [(.int .u8 83, .methodOf 43 "loop.example/headtrees/impl.putNext"), (.int .u8 76, .func 38), (.int .u8 82, .func 39), (.int .u8 68, .func 40)]), (2, .dat .str x5159)], [some (.box [.slc 1, .nils, .dat (.int .i64) x5160, .dat (.int .i64) x5161, .dat (.int .u64) x5162]), some (.seq (.int .i64) x5163)]⟩ : St) (impl_allDone_impl_eagerMachine_n8 x5159 x5160 x5161 x5162 x5163) (fun (t : Bool × Nat × Nat × Int × Int × Int × (List Int) × (List Int)) => (Exit.ret, (⟨mkE 32 0 [(6, .dat .bool t.1)], [some (.box [.slc 1, .win 2 t.2.1 t.2.2.1, .dat (.int .i64) t.2.2.2.1, .dat (.int .i64) t.2.2.2.2.1, .dat (.int .u64) t.2.2.2.2.2.1]), some (.seq (.int .i64) t.2.2.2.2.2.2.1), some (.seq (.int .i64) t.2.2.2.2.2.2.2)]⟩ : St))) := by
  unfold impl_allDone_impl_eagerMachine_n8
  exact Link.cast (by kernel_rfl) (by kernel_rfl) (link_seq2 (b := (Code.snd (Code.snd (bodyOf Try.f25)))) (y := (Ann.snd (Ann.snd impl_allDone_impl_eagerMachine_an))) (impl_allDone_impl_eagerMachine_n6_l x5159 x5160 x5161 x5162 x5163) (fun (t : Nat × Nat × Int × Int × Int × (List Int) × (List Int)) => (impl_allDone_impl_eagerMachine_n7_l t.1 t.2.1 t.2.2.1 t.2.2.2.1 t.2.2.2.2.1 t.2.2.2.2.2.1 t.2.2.2.2.2.2)) (fun (t : Bool × Nat × Nat × Int × Int × Int × (List Int) × (List Int)) => t) (by
  rintro t
  · kernel_rfl) (by
  rintro t f K h
  · exact h))

theorem impl_allDone_impl_eagerMachine_n9_l (x5159 : ByteArray) (x5160 : Int) (x5161 : Int) (x5162 : Int) (x5163 : List Int) : Link impl_allDone_impl_eagerMachine_ctx LL (bodyOf Try.f25) impl_allDone_impl_eagerMachine_an (⟨mkE 32 0 [(0, .ptr 0 0), (1, .fmap [(.int .u8 83, .methodOf 43 "loop.example/headtrees/impl.putNext"), (.int .u8 76, .func 38), (.int .u8 82, .func 39), (.int .u8 68, .func 40)]), (2, .dat .str x5159)], [some (.box [.slc 1, .nils, .dat (.int .i64) x5160, .dat (.int .i64) x5161, .dat (.int .u64) x5162]), some (.seq (.int .i64) x5163)]⟩ : St) (impl_allDone_impl_eagerMachine_n9 x5159 x5160 x5161 x5162 x5163) (fun (t : Bool × Nat × Nat × Int × Int × Int × (List Int) × (List Int)) => (Exit.ret, (⟨mkE 32 0 [(6, .dat .bool t.1)], [some (.box [.slc 1, .win 2 t.2.1 t.2.2.1, .dat (.int .i64) t.2.2.2.1, .dat (.int .i64) t.2.2.2.2.1, .dat (.int .u64) t.2.2.2.2.2.1]), some (.seq (.int .i64) t.2.2.2.2.2.2.1), some (.seq (.int .i64) t.2.2.2.2.2.2.2)]⟩ : St))) := by
  unfold impl_allDone_impl_eagerMachine_n9
  exact Link.cast (by kernel_rfl) (by kernel_rfl) (link_seq (b := (Code.snd (bodyOf Try.f25))) (y := (Ann.snd impl_allDone_impl_eagerMachine_an)) (impl_allDone_impl_eagerMachine_n1_l x5159 x5160 x5161 x5162 x5163) (fun (t : Unit) => (impl_allDone_impl_eagerMachine_n8_l x5159 x5160 x5161 x5162 x5163)))

theorem impl_allDone_impl_eagerMachine_e (x5159 : ByteArray) (x5160 : Int) (x5161 : Int) (x5162 : Int) (x5163 : List Int) {r : AV} {H' : Heap} (h : (Ans.mk _ (impl_allDone_impl_eagerMachine x5159 x5160 x5161 x5162 x5163) (fun (t : Bool × Nat × Nat × Int × Int × Int × (List Int) × (List Int)) => (.dat .bool t.1, [some (.box [.slc 1, .win 2 t.2.1 t.2.2.1, .dat (.int .i64) t.2.2.2.1, .dat (.int .i64) t.2.2.2.2.1, .dat (.int .u64) t.2.2.2.2.2.1]), some (.seq (.int .i64) t.2.2.2.2.2.2.1), some (.seq (.int .i64) t.2.2.2.2.2.2.2)])) [] none).run = some (r, H')) : Awp impl_allDone_impl_eagerMachine_ctx LL (bodyOf Try.f25) impl_allDone_impl_eagerMachine_an (⟨mkE 32 0 [(0, .ptr 0 0), (1, .fmap [(.int .u8 83, .methodOf 43 "loop.example/headtrees/impl.putNext"), (.int .u8 76, .func 38), (.int .u8 82, .func 39), (.int .u8 68, .func 40)]), (2, .dat .str x5159)], [some (.box [.slc 1, .nils, .dat (.int .i64) x5160, .dat (.int .i64) x5161, .dat (.int .u64) x5162]), some (.seq (.int .i64) x5163)]⟩ : St) (Ret (tlook tys) Try.f25.results.toList r H') :=
  ret_of' (impl_allDone_impl_eagerMachine_n9_l x5159 x5160 x5161 x5162 x5163) (by unfold impl_allDone_impl_eagerMachine; kernel_rfl) (by
  intro t
  exact ret_mk [.dat .bool t.1] (by kernel_rfl) (by kernel_rfl) (by kernel_rfl) (by kernel_rfl)) h

def F_impl_allDone_impl_eagerMachine : Fun := fun avs H =>
  match avs, H with
  | [.ptr 0 0, .fmap [(.int .u8 83, .methodOf 43 "loop.example/headtrees/impl.putNext"), (.int .u8 76, .func 38), (.int .u8 82, .func 39), (.int .u8 68, .func 40)], .dat .str x5159], [some (.box [.slc 1, .nils, .dat (.int .i64) x5160, .dat (.int .i64) x5161, .dat (.int .u64) x5162]), some (.seq (.int .i64) x5163)] => ⟨_, impl_allDone_impl_eagerMachine x5159 x5160 x5161 x5162 x5163, fun (t : Bool × Nat × Nat × Int × Int × Int × (List Int) × (List Int)) => (.dat .bool t.1, [some (.box [.slc 1, .win 2 t.2.1 t.2.2.1, .dat (.int .i64) t.2.2.2.1, .dat (.int .i64) t.2.2.2.2.1, .dat (.int .u64) t.2.2.2.2.2.1]), some (.seq (.int .i64) t.2.2.2.2.2.2.1), some (.seq (.int .i64) t.2.2.2.2.2.2.2)]), [], none⟩
  | _, _ => Ans.no

theorem impl_allDone_impl_eagerMachine_sound : Sound Try.prog 25 F_impl_allDone_impl_eagerMachine := by
  refine fn_sound' (C := impl_allDone_impl_eagerMachine_ctx) (c := bodyOf Try.f25) (cok_of tys_ok (List.forall_mem_cons.2 ⟨impl_stackMachine_putNext_v2_sound, List.forall_mem_cons.2 ⟨impl_eagerMachine_takeUnderNext_sound, List.forall_mem_cons.2 ⟨impl_eagerMachine_putUnderUpper_sound, List.forall_mem_cons.2 ⟨impl_eagerMachine_takeHeaded_sound, by simp⟩⟩⟩⟩) (List.forall_mem_cons.2 ⟨Try.call37, List.forall_mem_cons.2 ⟨Try.call38, List.forall_mem_cons.2 ⟨Try.call39, List.forall_mem_cons.2 ⟨Try.call40, by simp⟩⟩⟩⟩) (by kernel_rfl)) Try.func25 (by kernel_rfl) LL impl_allDone_impl_eagerMachine_an ?_
  intro avs H r H' h
  unfold F_impl_allDone_impl_eagerMachine at h
  split at h
  · refine Awp.cast ?_ ?_ ?_ (impl_allDone_impl_eagerMachine_e _ _ _ _ _ h) <;> kernel_rfl
  · simp [Ans.no, Ans.run] at h


/-! math/bits.OnesCount64 -/

def math_bits_OnesCount64_an : Ann := (.seq (.leaf [0]) (.seq (.leaf [0]) (.seq (.leaf [0]) (.seq (.leaf [0]) (.seq (.leaf [0]) (.seq (.leaf [0]) (.seq (.leaf [0]) (.seq (.leaf [2]) (.leaf [2])))))))))

noncomputable def math_bits_OnesCount64_ctx : Ctx := ⟨tlook tys, olook [], ioF, 0, false, []⟩

theorem math_bits_OnesCount64_n1_l (x6812 : Int) : Link math_bits_OnesCount64_ctx LL (Code.seq (Code.fst (bodyOf Try.f56)) (Code.fst (Code.snd (bodyOf Try.f56)))) (Ann.seq (Ann.fst math_bits_OnesCount64_an) (Ann.fst (Ann.snd math_bits_OnesCount64_an))) (⟨mkE 35 0 [(0, .dat (.int .u64) x6812)], []⟩ : St) (math_bits_OnesCount64_n1 x6812) (fun (t : Int) => (Exit.normal, (⟨mkE 35 0 [(0, .dat (.int .u64) t)], []⟩ : St))) := by
  refine Link.of fun K h => ?_
  simp only [math_bits_OnesCount64_n1, wpO_bind, wpO_cond, wpO_map, wpO_some] at h
  exact Awp.of (by kernel_rfl) h

theorem math_bits_OnesCount64_n2_l (x6817 : Int) : Link math_bits_OnesCount64_ctx LL (Code.fst (Code.snd (Code.snd (bodyOf Try.f56)))) (Ann.fst (Ann.snd (Ann.snd math_bits_OnesCount64_an))) (⟨mkE 35 0 [(0, .dat (.int .u64) x6817)], []⟩ : St) (math_bits_OnesCount64_n2 x6817) (fun (t : Int) => (Exit.normal, (⟨mkE 35 0 [(0, .dat (.int .u64) t)], []⟩ : St))) := by
  refine Link.of fun K h => ?_
  simp only [math_bits_OnesCount64_n2, wpO_bind, wpO_cond, wpO_map, wpO_some] at h
  exact Awp.of (by kernel_rfl) h

theorem math_bits_OnesCount64_n3_l (x6834 : Int) : Link math_bits_OnesCount64_ctx LL (Code.fst (Code.snd (Code.snd (Code.snd (bodyOf Try.f56))))) (Ann.fst (Ann.snd (Ann.snd (Ann.snd math_bits_OnesCount64_an)))) (⟨mkE 35 0 [(0, .dat (.int .u64) x6834)], []⟩ : St) (math_bits_OnesCount64_n3 x6834) (fun (t : Int) => (Exit.normal, (⟨mkE 35 0 [(0, .dat (.int .u64) t)], []⟩ : St))) := by
  refine Link.of fun K h => ?_
  simp only [math_bits_OnesCount64_n3, wpO_bind, wpO_cond, wpO_map, wpO_some] at h
  exact Awp.of (by kernel_rfl) h

theorem math_bits_OnesCount64_n4_l (x6841 : Int) : Link math_bits_OnesCount64_ctx LL (Code.fst (Code.snd (Code.snd (Code.snd (Code.snd (bodyOf Try.f56)))))) (Ann.fst (Ann.snd (Ann.snd (Ann.snd (Ann.snd math_bits_OnesCount64_an))))) (⟨mkE 35 0 [(0, .dat (.int .u64) x6841)], []⟩ : St) (math_bits_OnesCount64_n4 x6841) (fun (t : Int) => (Exit.normal, (⟨mkE 35 0 [(0, .dat (.int .u64) t)], []⟩ : St))) := by
  refine Link.of fun K h => ?_
  simp only [math_bits_OnesCount64_n4, wpO_bind, wpO_cond, wpO_map, wpO_some] at h
  exact Awp.of (by kernel_rfl) h

theorem math_bits_OnesCount64_n5_l (x6845 : Int) : Link math_bits_OnesCount64_ctx LL (Code.fst (Code.snd (Code.snd (Code.snd (Code.snd (Code.snd (bodyOf Try.f56))))))) (Ann.fst (Ann.snd (Ann.snd (Ann.snd (Ann.snd (Ann.snd math_bits_OnesCount64_an)))))) (⟨mkE 35 0 [(0, .dat (.int .u64) x6845)], []⟩ : St) (math_bits_OnesCount64_n5 x6845) (fun (t : Int) => (Exit.normal, (⟨mkE 35 0 [(0, .dat (.int .u64) t)], []⟩ : St))) := by
  refine Link.of fun K h => ?_
  simp only [math_bits_OnesCount64_n5, wpO_bind, wpO_cond, wpO_map, wpO_some] at h
  exact Awp.of (by kernel_rfl) h

theorem math_bits_OnesCount64_n6_l (x6850 : Int) : Link math_bits_OnesCount64_ctx LL (Code.fst (Code.snd (Code.snd (Code.snd (Code.snd (Code.snd (Code.snd (bodyOf Try.f56)))))))) (Ann.fst (Ann.snd (Ann.snd (Ann.snd (Ann.snd (Ann.snd (Ann.snd math_bits_OnesCount64_an))))))) (⟨mkE 35 0 [(0, .dat (.int .u64) x6850)], []⟩ : St) (math_bits_OnesCount64_n6 x6850) (fun (t : Int) => (Exit.normal, (⟨mkE 35 0 [(0, .dat (.int .u64) t)], []⟩ : St))) := by
  refine Link.of fun K h => ?_
  simp only [math_bits_OnesCount64_n6, wpO_bind, wpO_cond, wpO_map, wpO_some] at h
  exact Awp.of (by kernel_rfl) h

theorem math_bits_OnesCount64_n7_l (x6855 : Int) : Link math_bits_OnesCount64_ctx LL (Code.fst (Code.snd (Code.snd (Code.snd (Code.snd (Code.snd (Code.snd (Code.snd (bodyOf Try.f56))))))))) (Ann.fst (Ann.snd (Ann.snd (Ann.snd (Ann.snd (Ann.snd (Ann.snd (Ann.snd math_bits_OnesCount64_an)))))))) (⟨mkE 35 0 [(0, .dat (.int .u64) x6855)], []⟩ : St) (math_bits_OnesCount64_n7 x6855) (fun (t : Int) => (Exit.normal, (⟨mkE 35 0 [(2, .dat (.int .i64) t)], []⟩ : St))) := by
  refine Link.of fun K h => ?_
  simp only [math_bits_OnesCount64_n7, wpO_bind, wpO_cond, wpO_map, wpO_some] at h
  exact Awp.of (by kernel_rfl) h

theorem math_bits_OnesCount64_n8_l (x6860 : Int) : Link math_bits_OnesCount64_ctx LL (Code.snd (Code.snd (Code.snd (Code.snd (Code.snd (Code.snd (Code.snd (Code.snd (bodyOf Try.f56))))))))) (Ann.snd (Ann.snd (Ann.snd (Ann.snd (Ann.snd (Ann.snd (Ann.snd (Ann.snd math_bits_OnesCount64_an)))))))) (⟨mkE 35 0 [(2, .dat (.int .i64) x6860)], []⟩ : St) (math_bits_OnesCount64_n8 x6860) (fun (t : Int) => (Exit.ret, (⟨mkE 35 0 [(2, .dat (.int .i64) t)], []⟩ : St))) := by
  refine Link.of fun K h => ?_
  simp only [math_bits_OnesCount64_n8, wpO_bind, wpO_cond, wpO_map, wpO_some] at h
  exact Awp.of (by kernel_rfl) h

theorem math_bits_OnesCount64_n9_l (x6855 : Int) : Link math_bits_OnesCount64_ctx LL (Code.snd (Code.snd (Code.snd (Code.snd (Code.snd (Code.snd (Code.snd (bodyOf Try.f56)))))))) (Ann.snd (Ann.snd (Ann.snd (Ann.snd (Ann.snd (Ann.snd (Ann.snd math_bits_OnesCount64_an))))))) (⟨mkE 35 0 [(0, .dat (.int .u64) x6855)], []⟩ : St) (math_bits_OnesCount64_n9 x6855) (fun (t : Int) => (Exit.ret, (⟨mkE 35 0 [(2, .dat (.int .i64) t)], []⟩ : St))) := by
  unfold math_bits_OnesCount64_n9
  exact Link.cast (by kernel_rfl) (by kernel_rfl) (link_seq (b := (Code.snd (Code.snd (Code.snd (Code.snd (Code.snd (Code.snd (Code.snd (Code.snd (bodyOf Try.f56)))))))))) (y := (Ann.snd (Ann.snd (Ann.snd (Ann.snd (Ann.snd (Ann.snd (Ann.snd (Ann.snd math_bits_OnesCount64_an))))))))) (math_bits_OnesCount64_n7_l x6855) (fun (t : Int) => (math_bits_OnesCount64_n8_l t)))

theorem math_bits_OnesCount64_n10_l (x6850 : Int) : Link math_bits_OnesCount64_ctx LL (Code.snd (Code.snd (Code.snd (Code.snd (Code.snd (Code.snd (bodyOf Try.f56))))))) (Ann.snd (Ann.snd (Ann.snd (Ann.snd (Ann.snd (Ann.snd math_bits_OnesCount64_an)))))) (⟨mkE 35 0 [(0, .dat (.int .u64) x6850)], []⟩ : St) (math_bits_OnesCount64_n10 x6850) (fun (t : Int) => (Exit.ret, (⟨mkE 35 0 [(2, .dat (.int .i64) t)], []⟩ : St))) := by
  unfold math_bits_OnesCount64_n10
  exact Link.cast (by kernel_rfl) (by kernel_rfl) (link_seq (b := (Code.snd (Code.snd (Code.snd (Code.snd (Code.snd (Code.snd (Code.snd (bodyOf Try.f56))))))))) (y := (Ann.snd (Ann.snd (Ann.snd (Ann.snd (Ann.snd (Ann.snd (Ann.snd math_bits_OnesCount64_an)))))))) (math_bits_OnesCount64_n6_l x6850) (fun (t : Int) => (math_bits_OnesCount64_n9_l t)))

theorem math_bits_OnesCount64_n11_l (x6845 : Int) : Link math_bits_OnesCount64_ctx LL (Code.snd (Code.snd (Code.snd (Code.snd (Code.snd (bodyOf Try.f56)))))) (Ann.snd (Ann.snd (Ann.snd (Ann.snd (Ann.snd math_bits_OnesCount64_an))))) (⟨mkE 35 0 [(0, .dat (.int .u64) x6845)], []⟩ : St) (math_bits_OnesCount64_n11 x6845) (fun (t : Int) => (Exit.ret, (⟨mkE 35 0 [(2, .dat (.int .i64) t)], []⟩ : St))) := by
  unfold math_bits_OnesCount64_n11
  exact Link.cast (by kernel_rfl) (by kernel_rfl) (link_seq (b := (Code.snd (Code.snd (Code.snd (Code.snd (Code.snd (Code.snd (bodyOf Try.f56)))))))) (y := (Ann.snd (Ann.snd (Ann.snd (Ann.snd (Ann.snd (Ann.snd math_bits_OnesCount64_an))))))) (math_bits_OnesCount64_n5_l x6845) (fun (t : Int) => (math_bits_OnesCount64_n10_l t)))

theorem math_bits_OnesCount64_n12_l (x6841 : Int) : Link math_bits_OnesCount64_ctx LL (Code.snd (Code.snd (Code.snd (Code.snd (bodyOf Try.f56))))) (Ann.snd (Ann.snd (Ann.snd (Ann.snd math_bits_OnesCount64_an)))) (⟨mkE 35 0 [(0, .dat (.int .u64) x6841)], []⟩ : St) (math_bits_OnesCount64_n12 x6841) (fun (t : Int) => (Exit.ret, (⟨mkE 35 0 [(2, .dat (.int .i64) t)], []⟩ : St))) := by
  unfold math_bits_OnesCount64_n12
  exact Link.cast (by kernel_rfl) (by kernel_rfl) (link_seq (b := (Code.snd (Code.snd (Code.snd (Code.snd (Code.snd (bodyOf Try.f56))))))) (y := (Ann.snd (Ann.snd (Ann.snd (Ann.snd (Ann.snd math_bits_OnesCount64_an)))))) (math_bits_OnesCount64_n4_l x6841) (fun (t : Int) => (math_bits_OnesCount64_n11_l t)))

theorem math_bits_OnesCount64_n13_l (x6834 : Int) : Link math_bits_OnesCount64_ctx LL (Code.snd (Code.snd (Code.snd (bodyOf Try.f56)))) (Ann.snd (Ann.snd (Ann.snd math_bits_OnesCount64_an))) (⟨mkE 35 0 [(0, .dat (.int .u64) x6834)], []⟩ : St) (math_bits_OnesCount64_n13 x6834) (fun (t : Int) => (Exit.ret, (⟨mkE 35 0 [(2, .dat (.int .i64) t)], []⟩ : St))) := by
  unfold math_bits_OnesCount64_n13
  exact Link.cast (by kernel_rfl) (by kernel_rfl) (link_seq (b := (Code.snd (Code.snd (Code.snd (Code.snd (bodyOf Try.f56)))))) (y := (Ann.snd (Ann.snd (Ann.snd (Ann.snd math_bits_OnesCount64_an))))) (math_bits_OnesCount64_n3_l x6834) (fun (t : Int) => (math_bits_OnesCount64_n12_l t)))

theorem math_bits_OnesCount64_n14_l (x6817 : Int) : Link math_bits_OnesCount64_ctx LL (Code.snd (Code.snd (bodyOf Try.f56))) (Ann.snd (Ann.snd math_bits_OnesCount64_an)) (⟨mkE 35 0 [(0, .dat (.int .u64) x6817)], []⟩ : St) (math_bits_OnesCount64_n14 x6817) (fun (t : Int) => (Exit.ret, (⟨mkE 35 0 [(2, .dat (.int .i64) t)], []⟩ : St))) := by
  unfold math_bits_OnesCount64_n14
  exact Link.cast (by kernel_rfl) (by kernel_rfl) (link_seq (b := (Code.snd (Code.snd (Code.snd (bodyOf Try.f56))))) (y := (Ann.snd (Ann.snd (Ann.snd math_bits_OnesCount64_an)))) (math_bits_OnesCount64_n2_l x6817) (fun (t : Int) => (math_bits_OnesCount64_n13_l t)))

theorem math_bits_OnesCount64_n15_l (x6812 : Int) : Link math_bits_OnesCount64_ctx LL (bodyOf Try.f56) math_bits_OnesCount64_an (⟨mkE 35 0 [(0, .dat (.int .u64) x6812)], []⟩ : St) (math_bits_OnesCount64_n15 x6812) (fun (t : Int) => (Exit.ret, (⟨mkE 35 0 [(2, .dat (.int .i64) t)], []⟩ : St))) := by
  unfold math_bits_OnesCount64_n15
  exact Link.cast (by kernel_rfl) (by kernel_rfl) (link_group (c := (Code.fst (Code.snd (bodyOf Try.f56)))) (a := (Ann.fst (Ann.snd math_bits_OnesCount64_an))) [(Code.fst (bodyOf Try.f56))] [(Ann.fst math_bits_OnesCount64_an)] rfl (link_seq (b := (Code.snd (Code.snd (bodyOf Try.f56)))) (y := (Ann.snd (Ann.snd math_bits_OnesCount64_an))) (math_bits_OnesCount64_n1_l x6812) (fun (t : Int) => (math_bits_OnesCount64_n14_l t))))

theorem math_bits_OnesCount64_e (x6812 : Int) {r : AV} {H' : Heap} (h : (Ans.mk _ (math_bits_OnesCount64 x6812) (fun (t : Int) => (.dat (.int .i64) t, [])) [] none).run = some (r, H')) : Awp math_bits_OnesCount64_ctx LL (bodyOf Try.f56) math_bits_OnesCount64_an (⟨mkE 35 0 [(0, .dat (.int .u64) x6812)], []⟩ : St) (Ret (tlook tys) Try.f56.results.toList r H') :=
  ret_of' (math_bits_OnesCount64_n15_l x6812) (by unfold math_bits_OnesCount64; kernel_rfl) (by
  intro t
  exact ret_mk [.dat (.int .i64) t] (by kernel_rfl) (by kernel_rfl) (by kernel_rfl) (by kernel_rfl)) h

def F_math_bits_OnesCount64 : Fun := fun avs H =>
  match avs, H with
  | [.dat (.int .u64) x6812], [] => ⟨_, math_bits_OnesCount64 x6812, fun (t : Int) => (.dat (.int .i64) t, []), [], none⟩
  | _, _ => Ans.no

theorem math_bits_OnesCount64_sound : Sound Try.prog 56 F_math_bits_OnesCount64 := by
  refine fn_sound' (C := math_bits_OnesCount64_ctx) (c := bodyOf Try.f56) (cok_of tys_ok (by simp) (by simp) (by kernel_rfl)) Try.func56 (by kernel_rfl) LL math_bits_OnesCount64_an ?_
  intro avs H r H' h
  unfold F_math_bits_OnesCount64 at h
  split at h
  · refine Awp.cast ?_ ?_ ?_ (math_bits_OnesCount64_e _ h) <;> kernel_rfl
  · simp [Ans.no, Ans.run] at h


/-! math/bits.OnesCount -/

def math_bits_OnesCount_an : Ann := (.seq (.leaf [0]) (.seq (.cond (.seq (.leaf [2]) (.leaf [2])) (.leaf [0])) (.seq (.leaf [2]) (.leaf [2]))))

noncomputable def math_bits_OnesCount_ctx : Ctx := ⟨tlook tys, olook [(56, F_math_bits_OnesCount64)], ioF, 0, false, []⟩

theorem math_bits_OnesCount_n1_l (x6811 : Int) : Link math_bits_OnesCount_ctx LL (bodyOf Try.f50) math_bits_OnesCount_an (⟨mkE 8 0 [(0, .dat (.int .u64) x6811)], []⟩ : St) (math_bits_OnesCount_n1 x6811) (fun (t : Int) => (Exit.ret, (⟨mkE 8 0 [(2, .dat (.int .i64) t)], []⟩ : St))) := by
  refine Link.of fun K h => ?_
  simp only [math_bits_OnesCount_n1, wpO_bind, wpO_cond, wpO_map, wpO_some] at h
  exact Awp.of (by kernel_rfl) h

theorem math_bits_OnesCount_e (x6811 : Int) {r : AV} {H' : Heap} (h : (Ans.mk _ (math_bits_OnesCount x6811) (fun (t : Int) => (.dat (.int .i64) t, [])) [] none).run = some (r, H')) : Awp math_bits_OnesCount_ctx LL (bodyOf Try.f50) math_bits_OnesCount_an (⟨mkE 8 0 [(0, .dat (.int .u64) x6811)], []⟩ : St) (Ret (tlook tys) Try.f50.results.toList r H') :=
  ret_of' (math_bits_OnesCount_n1_l x6811) (by unfold math_bits_OnesCount; kernel_rfl) (by
  intro t
  exact ret_mk [.dat (.int .i64) t] (by kernel_rfl) (by kernel_rfl) (by kernel_rfl) (by kernel_rfl)) h

def F_math_bits_OnesCount : Fun := fun avs H =>
  match avs, H with
  | [.dat (.int .u64) x6811], [] => ⟨_, math_bits_OnesCount x6811, fun (t : Int) => (.dat (.int .i64) t, []), [], none⟩
  | _, _ => Ans.no

theorem math_bits_OnesCount_sound : Sound Try.prog 50 F_math_bits_OnesCount := by
  refine fn_sound' (C := math_bits_OnesCount_ctx) (c := bodyOf Try.f50) (cok_of tys_ok (List.forall_mem_cons.2 ⟨math_bits_OnesCount64_sound, by simp⟩) (List.forall_mem_cons.2 ⟨Try.call56, by simp⟩) (by kernel_rfl)) Try.func50 (by kernel_rfl) LL math_bits_OnesCount_an ?_
  intro avs H r H' h
  unfold F_math_bits_OnesCount at h
  split at h
  · refine Awp.cast ?_ ?_ ?_ (math_bits_OnesCount_e _ h) <;> kernel_rfl
  · simp [Ans.no, Ans.run] at h


/-! (loop.example/headtrees/impl.wordSet).count -/

def impl_wordSet_count_an : Ann := (.seq (.leaf [0]) (.seq (.leaf [2]) (.leaf [2])))

noncomputable def impl_wordSet_count_ctx : Ctx := ⟨tlook tys, olook [(50, F_math_bits_OnesCount)], ioF, 0, false, []⟩

theorem impl_wordSet_count_n1_l (x6810 : Int) : Link impl_wordSet_count_ctx LL (bodyOf Try.f41) impl_wordSet_count_an (⟨mkE 5 0 [(0, .dat (.int .u64) x6810)], []⟩ : St) (impl_wordSet_count_n1 x6810) (fun (t : Int) => (Exit.ret, (⟨mkE 5 0 [(2, .dat (.int .i64) t)], []⟩ : St))) := by
  refine Link.of fun K h => ?_
  simp only [impl_wordSet_count_n1, wpO_bind, wpO_cond, wpO_map, wpO_some] at h
  exact Awp.of (by kernel_rfl) h

theorem impl_wordSet_count_e (x6810 : Int) {r : AV} {H' : Heap} (h : (Ans.mk _ (impl_wordSet_count x6810) (fun (t : Int) => (.dat (.int .i64) t, [])) [] none).run = some (r, H')) : Awp impl_wordSet_count_ctx LL (bodyOf Try.f41) impl_wordSet_count_an (⟨mkE 5 0 [(0, .dat (.int .u64) x6810)], []⟩ : St) (Ret (tlook tys) Try.f41.results.toList r H') :=
  ret_of' (impl_wordSet_count_n1_l x6810) (by unfold impl_wordSet_count; kernel_rfl) (by
  intro t
  exact ret_mk [.dat (.int .i64) t] (by kernel_rfl) (by kernel_rfl) (by kernel_rfl) (by kernel_rfl)) h

def F_impl_wordSet_count : Fun := fun avs H =>
  match avs, H with
  | [.dat (.int .u64) x6810], [] => ⟨_, impl_wordSet_count x6810, fun (t : Int) => (.dat (.int .i64) t, []), [], none⟩
  | _, _ => Ans.no

theorem impl_wordSet_count_sound : Sound Try.prog 41 F_impl_wordSet_count := by
  refine fn_sound' (C := impl_wordSet_count_ctx) (c := bodyOf Try.f41) (cok_of tys_ok (List.forall_mem_cons.2 ⟨math_bits_OnesCount_sound, by simp⟩) (List.forall_mem_cons.2 ⟨Try.call50, by simp⟩) (by kernel_rfl)) Try.func41 (by kernel_rfl) LL impl_wordSet_count_an ?_
  intro avs H r H' h
  unfold F_impl_wordSet_count at h
  split at h
  · refine Awp.cast ?_ ?_ ?_ (impl_wordSet_count_e _ h) <;> kernel_rfl
  · simp [Ans.no, Ans.run] at h


/-! (*loop.example/headtrees/impl.eagerMachine).ended -/

def impl_eagerMachine_ended_an : Ann := (.seq (.leaf [0]) (.seq (.draw [17] [0, 1, 2, 3, 4, 5, 6, 7, 8, 9, 10, 11, 12, 13, 14, 15, 16, 18, 19, 20, 21, 22, 23, 24, 17, 25, 26, 27] [] [2]) (.leaf [2])))

noncomputable def impl_eagerMachine_ended_ctx : Ctx := ⟨tlook tys, olook [(41, F_impl_wordSet_count)], ioF, 3, false, []⟩

theorem impl_eagerMachine_ended_n1_l (x6799 : Nat) (x6800 : Nat) (x6801 : Int) (x6802 : Int) (x6803 : Int) (x6804 : List Int) (x6805 : List Int) : Link impl_eagerMachine_ended_ctx LL (bodyOf Try.f27) impl_eagerMachine_ended_an (⟨mkE 30 0 [(0, .ptr 0 0)], [some (.box [.slc 1, .win 2 x6799 x6800, .dat (.int .i64) x6801, .dat (.int .i64) x6802, .dat (.int .u64) x6803]), some (.seq (.int .i64) x6804), some (.seq (.int .i64) x6805)]⟩ : St) (impl_eagerMachine_ended_n1 x6801 x6803 x6804) (fun (t : Bool) => (Exit.ret, (⟨mkE 30 0 [(2, .dat .bool t)], [some (.box [.slc 1, .win 2 x6799 x6800, .dat (.int .i64) x6801, .dat (.int .i64) x6802, .dat (.int .u64) x6803]), some (.seq (.int .i64) x6804), some (.seq (.int .i64) x6805)]⟩ : St))) := by
  refine Link.of fun K h => ?_
  simp only [impl_eagerMachine_ended_n1, wpO_bind, wpO_cond, wpO_map, wpO_some] at h
  exact Awp.of (by kernel_rfl) h

theorem impl_eagerMachine_ended_e (x6799 : Nat) (x6800 : Nat) (x6801 : Int) (x6802 : Int) (x6803 : Int) (x6804 : List Int) (x6805 : List Int) {r : AV} {H' : Heap} (h : (Ans.mk _ (impl_eagerMachine_ended x6799 x6800 x6801 x6802 x6803 x6804 x6805) (fun (t : Bool) => (.dat .bool t, [some (.box [.slc 1, .win 2 x6799 x6800, .dat (.int .i64) x6801, .dat (.int .i64) x6802, .dat (.int .u64) x6803]), some (.seq (.int .i64) x6804), some (.seq (.int .i64) x6805)])) [] none).run = some (r, H')) : Awp impl_eagerMachine_ended_ctx LL (bodyOf Try.f27) impl_eagerMachine_ended_an (⟨mkE 30 0 [(0, .ptr 0 0)], [some (.box [.slc 1, .win 2 x6799 x6800, .dat (.int .i64) x6801, .dat (.int .i64) x6802, .dat (.int .u64) x6803]), some (.seq (.int .i64) x6804), some (.seq (.int .i64) x6805)]⟩ : St) (Ret (tlook tys) Try.f27.results.toList r H') :=
  ret_of' (impl_eagerMachine_ended_n1_l x6799 x6800 x6801 x6802 x6803 x6804 x6805) (by unfold impl_eagerMachine_ended; kernel_rfl) (by
  intro t
  exact ret_mk [.dat .bool t] (by kernel_rfl) (by kernel_rfl) (by kernel_rfl) (by kernel_rfl)) h

def F_impl_eagerMachine_ended : Fun := fun avs H =>
  match avs, H with
  | [.ptr 0 0], [some (.box [.slc 1, .win 2 x6799 x6800, .dat (.int .i64) x6801, .dat (.int .i64) x6802, .dat (.int .u64) x6803]), some (.seq (.int .i64) x6804), some (.seq (.int .i64) x6805)] => ⟨_, impl_eagerMachine_ended x6799 x6800 x6801 x6802 x6803 x6804 x6805, fun (t : Bool) => (.dat .bool t, [some (.box [.slc 1, .win 2 x6799 x6800, .dat (.int .i64) x6801, .dat (.int .i64) x6802, .dat (.int .u64) x6803]), some (.seq (.int .i64) x6804), some (.seq (.int .i64) x6805)]), [], none⟩
  | _, _ => Ans.no

theorem impl_eagerMachine_ended_sound : Sound Try.prog 27 F_impl_eagerMachine_ended := by
  refine fn_sound' (C := impl_eagerMachine_ended_ctx) (c := bodyOf Try.f27) (cok_of tys_ok (List.forall_mem_cons.2 ⟨impl_wordSet_count_sound, by simp⟩) (List.forall_mem_cons.2 ⟨Try.call41, by simp⟩) (by kernel_rfl)) Try.func27 (by kernel_rfl) LL impl_eagerMachine_ended_an ?_
  intro avs H r H' h
  unfold F_impl_eagerMachine_ended at h
  split at h
  · refine Awp.cast ?_ ?_ ?_ (impl_eagerMachine_ended_e _ _ _ _ _ _ _ h) <;> kernel_rfl
  · simp [Ans.no, Ans.run] at h


/-! loop.example/headtrees/impl.RunEager -/

def impl_RunEager_an : Ann := (.seq (.leaf [0, 1]) (.seq (.seq (.leaf [0, 1, 12]) (.cond (.seq (.leaf [4, 5]) (.leaf [4, 5])) (.leaf [0, 1]))) (.seq (.leaf [1, 6]) (.seq (.seq (.leaf [6, 24]) (.cond (.seq (.leaf [4, 5]) (.leaf [4, 5])) (.leaf [6]))) (.seq (.leaf [4, 5]) (.leaf [4, 5]))))))

noncomputable def impl_RunEager_ctx : Ctx := ⟨tlook tys, olook [(24, F_impl_newEagerMachine), (26, F_impl_eagerMoves), (25, F_impl_allDone_impl_eagerMachine), (27, F_impl_eagerMachine_ended)], ioF, 0, false, []⟩

theorem impl_RunEager_n1_l (x5145 : Int) (x5146 : ByteArray) : Link impl_RunEager_ctx LL (bodyOf Try.f17) impl_RunEager_an (⟨mkE 30 0 [(0, .dat (.int .i64) x5145), (1, .dat .str x5146)], []⟩ : St) (impl_RunEager_n1 x5145 x5146) (fun (t : Bool × (List Int)) => (Exit.ret, (⟨mkE 30 0 [(4, .slc 0), (5, .dat .bool t.1)], [some (.seq (.int .i64) t.2)]⟩ : St))) := by
  refine Link.of fun K h => ?_
  simp only [impl_RunEager_n1, wpO_bind, wpO_cond, wpO_map, wpO_some] at h
  exact Awp.of (by kernel_rfl) h

theorem impl_RunEager_e (x5145 : Int) (x5146 : ByteArray) {r : AV} {H' : Heap} (h : (Ans.mk _ (impl_RunEager x5145 x5146) (fun (t : Bool × (List Int)) => (.tup [.slc 0, .dat .bool t.1], [some (.seq (.int .i64) t.2)])) [] none).run = some (r, H')) : Awp impl_RunEager_ctx LL (bodyOf Try.f17) impl_RunEager_an (⟨mkE 30 0 [(0, .dat (.int .i64) x5145), (1, .dat .str x5146)], []⟩ : St) (Ret (tlook tys) Try.f17.results.toList r H') :=
  ret_of' (impl_RunEager_n1_l x5145 x5146) (by unfold impl_RunEager; kernel_rfl) (by
  intro t
  exact ret_mk [.slc 0, .dat .bool t.1] (by kernel_rfl) (by kernel_rfl) (by kernel_rfl) (by kernel_rfl)) h

def F_impl_RunEager : Fun := fun avs H =>
  match avs, H with
  | [.dat (.int .i64) x5145, .dat .str x5146], [] => ⟨_, impl_RunEager x5145 x5146, fun (t : Bool × (List Int)) => (.tup [.slc 0, .dat .bool t.1], [some (.seq (.int .i64) t.2)]), [], none⟩
  | _, _ => Ans.no

theorem impl_RunEager_sound : Sound Try.prog 17 F_impl_RunEager := by
  refine fn_sound' (C := impl_RunEager_ctx) (c := bodyOf Try.f17) (cok_of tys_ok (List.forall_mem_cons.2 ⟨impl_newEagerMachine_sound, List.forall_mem_cons.2 ⟨impl_eagerMoves_sound, List.forall_mem_cons.2 ⟨impl_allDone_impl_eagerMachine_sound, List.forall_mem_cons.2 ⟨impl_eagerMachine_ended_sound, by simp⟩⟩⟩⟩) (List.forall_mem_cons.2 ⟨Try.call24, List.forall_mem_cons.2 ⟨Try.call26, List.forall_mem_cons.2 ⟨Try.call25, List.forall_mem_cons.2 ⟨Try.call27, by simp⟩⟩⟩⟩) (by kernel_rfl)) Try.func17 (by kernel_rfl) LL impl_RunEager_an ?_
  intro avs H r H' h
  unfold F_impl_RunEager at h
  split at h
  · refine Awp.cast ?_ ?_ ?_ (impl_RunEager_e _ _ h) <;> kernel_rfl
  · simp [Ans.no, Ans.run] at h


/-! loop.example/headtrees/laws.FnExactRunEager -/

def laws_FnExactRunEager_an : Ann := (.seq (.leaf [0, 1]) (.seq (.seq (.leaf [0, 1, 15]) (.cond (.seq (.leaf [4]) (.leaf [4])) (.leaf [0, 1]))) (.seq (.leaf [0, 1, 5, 6]) (.seq (.leaf [0, 1, 5, 6, 7, 8]) (.seq (.seq (.leaf [0, 1, 5, 6, 7, 36]) (.cond (.seq (.leaf [4]) (.leaf [4])) (.leaf [0, 1, 5, 6, 7]))) (.seq (.leaf [0, 1, 5, 6, 7, 9]) (.seq (.leaf [0, 1, 5, 6, 7, 9]) (.seq (.leaf [0, 1, 5, 6, 7, 9, 10]) (.seq (.leaf [0, 1, 5, 6, 7, 9, 10]) (.seq (.seq (.leaf [0, 1, 5, 6, 7, 9, 10, 44]) (.cond (.seq (.leaf [4]) (.leaf [4])) (.leaf [0, 1, 5, 6, 7, 9, 10]))) (.seq (.seq (.leaf [0, 1, 5, 6, 7, 9, 47]) (.cond (.seq (.leaf [4]) (.leaf [4])) (.leaf [0, 1, 5, 6, 7, 9]))) (.seq (.leaf [5, 6, 7, 9, 11, 12]) (.seq (.seq (.leaf [7, 9, 62]) (.cond (.seq (.leaf [4]) (.leaf [4])) (.leaf [7, 9]))) (.seq (.leaf [7, 9, 10]) (.seq (.leaf [9, 10]) (.seq (.seq (.leaf [9, 10, 67]) (.cond (.seq (.leaf [4]) (.leaf [4])) (.leaf [9, 10]))) (.seq (.seq (.leaf [70]) (.cond (.seq (.leaf [4]) (.leaf [4])) (.leaf []))) (.seq (.leaf [4]) (.leaf [4])))))))))))))))))))

noncomputable def laws_FnExactRunEager_ctx : Ctx := ⟨tlook tys, olook [(16, F_spec_RunEager), (17, F_impl_RunEager), (13, F_laws_eqIntS), (14, F_laws_markIntS), (15, F_laws_heldIntS)], ioF, 0, false, []⟩

theorem laws_FnExactRunEager_n1_l (x3855 : Int) (x3856 : ByteArray) : Link laws_FnExactRunEager_ctx LL (bodyOf Try.f6) laws_FnExactRunEager_an (⟨mkE 71 0 [(0, .dat (.int .i64) x3855), (1, .dat .str x3856)], []⟩ : St) (laws_FnExactRunEager_n1 x3855 x3856) (fun (t : Bool) => (Exit.ret, (⟨mkE 71 0 [(4, .dat .bool t)], []⟩ : St))) := by
  refine Link.of fun K h => ?_
  simp only [laws_FnExactRunEager_n1, wpO_bind, wpO_cond, wpO_map, wpO_some] at h
  exact Awp.of (by kernel_rfl) h

theorem laws_FnExactRunEager_e (x3855 : Int) (x3856 : ByteArray) {r : AV} {H' : Heap} (h : (Ans.mk _ (laws_FnExactRunEager x3855 x3856) (fun (t : Bool) => (.dat .bool t, [])) [] none).run = some (r, H')) : Awp laws_FnExactRunEager_ctx LL (bodyOf Try.f6) laws_FnExactRunEager_an (⟨mkE 71 0 [(0, .dat (.int .i64) x3855), (1, .dat .str x3856)], []⟩ : St) (Ret (tlook tys) Try.f6.results.toList r H') :=
  ret_of' (laws_FnExactRunEager_n1_l x3855 x3856) (by unfold laws_FnExactRunEager; kernel_rfl) (by
  intro t
  exact ret_mk [.dat .bool t] (by kernel_rfl) (by kernel_rfl) (by kernel_rfl) (by kernel_rfl)) h

def F_laws_FnExactRunEager : Fun := fun avs H =>
  match avs, H with
  | [.dat (.int .i64) x3855, .dat .str x3856], [] => ⟨_, laws_FnExactRunEager x3855 x3856, fun (t : Bool) => (.dat .bool t, []), [], none⟩
  | _, _ => Ans.no

theorem laws_FnExactRunEager_sound : Sound Try.prog 6 F_laws_FnExactRunEager := by
  refine fn_sound' (C := laws_FnExactRunEager_ctx) (c := bodyOf Try.f6) (cok_of tys_ok (List.forall_mem_cons.2 ⟨spec_RunEager_sound, List.forall_mem_cons.2 ⟨impl_RunEager_sound, List.forall_mem_cons.2 ⟨laws_eqIntS_sound, List.forall_mem_cons.2 ⟨laws_markIntS_sound, List.forall_mem_cons.2 ⟨laws_heldIntS_sound, by simp⟩⟩⟩⟩⟩) (List.forall_mem_cons.2 ⟨Try.call16, List.forall_mem_cons.2 ⟨Try.call17, List.forall_mem_cons.2 ⟨Try.call13, List.forall_mem_cons.2 ⟨Try.call14, List.forall_mem_cons.2 ⟨Try.call15, by simp⟩⟩⟩⟩⟩) (by kernel_rfl)) Try.func6 (by kernel_rfl) LL laws_FnExactRunEager_an ?_
  intro avs H r H' h
  unfold F_laws_FnExactRunEager at h
  split at h
  · refine Awp.cast ?_ ?_ ?_ (laws_FnExactRunEager_e _ _ h) <;> kernel_rfl
  · simp [Ans.no, Ans.run] at h

end Go.Rv
