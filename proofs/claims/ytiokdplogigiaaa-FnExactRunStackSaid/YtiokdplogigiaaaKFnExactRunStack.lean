/-
  The checked code answers as the plain functions do; written by program. Conditions: none.
-/
import Derived.Test.YtiokdplogigiaaaGN
import Derived.Test.YtiokdplogigiaaaProg
set_option linter.unusedVariables false
set_option linter.unusedSimpArgs false
set_option maxRecDepth 100000
namespace Go.Rv
open Go.Proofs
theorem ty3 : TIOk Try.prog 3 ⟨.int .i64, 1, 8, some (.int .i64), [.int .i64 0]⟩ := ⟨⟨infoOf (Try.prog.info? 3), by kernel_rfl, by kernel_rfl, by kernel_rfl, .int .i64 0, by kernel_rfl, by kernel_rfl⟩, (by kernel_rfl : Try.prog.underlying 3 = some (.int .i64))⟩
theorem ty4 : TIOk Try.prog 4 ⟨.bool, 1, 1, some .bool, [.bool false]⟩ := ⟨⟨infoOf (Try.prog.info? 4), by kernel_rfl, by kernel_rfl, by kernel_rfl, .bool false, by kernel_rfl, by kernel_rfl⟩, (by kernel_rfl : Try.prog.underlying 4 = some .bool)⟩
theorem ty5 : TIOk Try.prog 5 ⟨.int .u8, 1, 1, some (.int .u8), [.int .u8 0]⟩ := ⟨⟨infoOf (Try.prog.info? 5), by kernel_rfl, by kernel_rfl, by kernel_rfl, .int .u8 0, by kernel_rfl, by kernel_rfl⟩, (by kernel_rfl : Try.prog.underlying 5 = some (.int .u8))⟩
theorem ty9 : TIOk Try.prog 9 ⟨.str, 1, 16, some .str, [.string ByteArray.empty]⟩ := ⟨⟨infoOf (Try.prog.info? 9), by kernel_rfl, by kernel_rfl, by kernel_rfl, .string ByteArray.empty, by kernel_rfl, by kernel_rfl⟩, (by kernel_rfl : Try.prog.underlying 9 = some .string)⟩
theorem ty22 : TIOk Try.prog 22 ⟨.slice 5, 1, 24, some (.list (.int .u8)), [.slice none 0 0]⟩ := ⟨⟨infoOf (Try.prog.info? 22), by kernel_rfl, by kernel_rfl, by kernel_rfl, .slice none 0 0, by kernel_rfl, by kernel_rfl⟩, (by kernel_rfl : Try.prog.underlying 22 = some (.slice 5))⟩
theorem ty28 : TIOk Try.prog 28 ⟨.slice 3, 1, 24, some (.list (.int .i64)), [.slice none 0 0]⟩ := ⟨⟨infoOf (Try.prog.info? 28), by kernel_rfl, by kernel_rfl, by kernel_rfl, .slice none 0 0, by kernel_rfl, by kernel_rfl⟩, (by kernel_rfl : Try.prog.underlying 28 = some (.slice 3))⟩
theorem ty38 : TIOk Try.prog 38 ⟨.strct [(0, 28), (1, 28), (2, 3), (3, 3)], 4, 64, some (.pair (.list (.int .i64)) (.pair (.list (.int .i64)) (.pair (.int .i64) (.pair (.int .i64) .unit)))), [.slice none 0 0, .slice none 0 0, .int .i64 0, .int .i64 0]⟩ := ⟨⟨infoOf (Try.prog.info? 38), by kernel_rfl, by kernel_rfl, by kernel_rfl, .agg #[.slice none 0 0, .slice none 0 0, .int .i64 0, .int .i64 0], by kernel_rfl, by kernel_rfl⟩, ⟨fieldsOf (Try.prog.underlying 38), by kernel_rfl, by kernel_rfl⟩⟩
theorem ty43 : TIOk Try.prog 43 ⟨.meths [("loop.example/headtrees/impl.putNext", 37)], 1, 8, none, [.pointer none]⟩ := ⟨⟨infoOf (Try.prog.info? 43), by kernel_rfl, by kernel_rfl, by kernel_rfl, .pointer none, by kernel_rfl, by kernel_rfl⟩, ⟨⟨51, by kernel_rfl⟩, by kernel_rfl⟩⟩
theorem ty46 : TIOk Try.prog 46 ⟨.map 5 62, 1, 8, none, [.map none]⟩ := ⟨⟨infoOf (Try.prog.info? 46), by kernel_rfl, by kernel_rfl, by kernel_rfl, .map none, by kernel_rfl, by kernel_rfl⟩, (by kernel_rfl : Try.prog.underlying 46 = some (.map 5 62))⟩
theorem ty49 : TIOk Try.prog 49 ⟨.int .u64, 1, 8, some (.int .u64), [.int .u64 0]⟩ := ⟨⟨infoOf (Try.prog.info? 49), by kernel_rfl, by kernel_rfl, by kernel_rfl, .int .u64 0, by kernel_rfl, by kernel_rfl⟩, (by kernel_rfl : Try.prog.underlying 49 = some (.int .u64))⟩
theorem ty51 : TIOk Try.prog 51 ⟨.strct [(0, 38), (4, 49)], 5, 72, some (.pair (.pair (.list (.int .i64)) (.pair (.list (.int .i64)) (.pair (.int .i64) (.pair (.int .i64) .unit)))) (.pair (.int .u64) .unit)), [.slice none 0 0, .slice none 0 0, .int .i64 0, .int .i64 0, .int .u64 0]⟩ := ⟨⟨infoOf (Try.prog.info? 51), by kernel_rfl, by kernel_rfl, by kernel_rfl, .agg #[.slice none 0 0, .slice none 0 0, .int .i64 0, .int .i64 0, .int .u64 0], by kernel_rfl, by kernel_rfl⟩, ⟨fieldsOf (Try.prog.underlying 51), by kernel_rfl, by kernel_rfl⟩⟩
theorem ty58 : TIOk Try.prog 58 ⟨.map 5 69, 1, 8, none, [.map none]⟩ := ⟨⟨infoOf (Try.prog.info? 58), by kernel_rfl, by kernel_rfl, by kernel_rfl, .map none, by kernel_rfl, by kernel_rfl⟩, (by kernel_rfl : Try.prog.underlying 58 = some (.map 5 69))⟩
theorem ty62 : TIOk Try.prog 62 ⟨.scalar, 1, 8, none, [.nilFunc]⟩ := ⟨⟨infoOf (Try.prog.info? 62), by kernel_rfl, by kernel_rfl, by kernel_rfl, .nilFunc, by kernel_rfl, by kernel_rfl⟩, ⟨descOf (Try.prog.underlying 62), by kernel_rfl, by kernel_rfl⟩⟩
theorem ty66 : TIOk Try.prog 66 ⟨.strct [(0, 22), (1, 3)], 2, 32, some (.pair (.list (.int .u8)) (.pair (.int .i64) .unit)), [.slice none 0 0, .int .i64 0]⟩ := ⟨⟨infoOf (Try.prog.info? 66), by kernel_rfl, by kernel_rfl, by kernel_rfl, .agg #[.slice none 0 0, .int .i64 0], by kernel_rfl, by kernel_rfl⟩, ⟨fieldsOf (Try.prog.underlying 66), by kernel_rfl, by kernel_rfl⟩⟩
theorem ty67 : TIOk Try.prog 67 ⟨.slice 9, 1, 24, some (.list .str), [.slice none 0 0]⟩ := ⟨⟨infoOf (Try.prog.info? 67), by kernel_rfl, by kernel_rfl, by kernel_rfl, .slice none 0 0, by kernel_rfl, by kernel_rfl⟩, (by kernel_rfl : Try.prog.underlying 67 = some (.slice 9))⟩
theorem ty69 : TIOk Try.prog 69 ⟨.scalar, 1, 8, none, [.nilFunc]⟩ := ⟨⟨infoOf (Try.prog.info? 69), by kernel_rfl, by kernel_rfl, by kernel_rfl, .nilFunc, by kernel_rfl, by kernel_rfl⟩, ⟨descOf (Try.prog.underlying 69), by kernel_rfl, by kernel_rfl⟩⟩
theorem ty72 : TIOk Try.prog 72 ⟨.strct [(0, 28), (1, 3), (2, 3)], 3, 40, some (.pair (.list (.int .i64)) (.pair (.int .i64) (.pair (.int .i64) .unit))), [.slice none 0 0, .int .i64 0, .int .i64 0]⟩ := ⟨⟨infoOf (Try.prog.info? 72), by kernel_rfl, by kernel_rfl, by kernel_rfl, .agg #[.slice none 0 0, .int .i64 0, .int .i64 0], by kernel_rfl, by kernel_rfl⟩, ⟨fieldsOf (Try.prog.underlying 72), by kernel_rfl, by kernel_rfl⟩⟩
theorem ty83 : TIOk Try.prog 83 ⟨.int .u64, 1, 8, some (.int .u64), [.int .u64 0]⟩ := ⟨⟨infoOf (Try.prog.info? 83), by kernel_rfl, by kernel_rfl, by kernel_rfl, .int .u64 0, by kernel_rfl, by kernel_rfl⟩, (by kernel_rfl : Try.prog.underlying 83 = some (.int .u64))⟩
def tys : List (TypeId × TI) := [(3, ⟨.int .i64, 1, 8, some (.int .i64), [.int .i64 0]⟩), (4, ⟨.bool, 1, 1, some .bool, [.bool false]⟩), (5, ⟨.int .u8, 1, 1, some (.int .u8), [.int .u8 0]⟩), (9, ⟨.str, 1, 16, some .str, [.string ByteArray.empty]⟩), (22, ⟨.slice 5, 1, 24, some (.list (.int .u8)), [.slice none 0 0]⟩), (28, ⟨.slice 3, 1, 24, some (.list (.int .i64)), [.slice none 0 0]⟩), (38, ⟨.strct [(0, 28), (1, 28), (2, 3), (3, 3)], 4, 64, some (.pair (.list (.int .i64)) (.pair (.list (.int .i64)) (.pair (.int .i64) (.pair (.int .i64) .unit)))), [.slice none 0 0, .slice none 0 0, .int .i64 0, .int .i64 0]⟩), (43, ⟨.meths [("loop.example/headtrees/impl.putNext", 37)], 1, 8, none, [.pointer none]⟩), (46, ⟨.map 5 62, 1, 8, none, [.map none]⟩), (49, ⟨.int .u64, 1, 8, some (.int .u64), [.int .u64 0]⟩), (51, ⟨.strct [(0, 38), (4, 49)], 5, 72, some (.pair (.pair (.list (.int .i64)) (.pair (.list (.int .i64)) (.pair (.int .i64) (.pair (.int .i64) .unit)))) (.pair (.int .u64) .unit)), [.slice none 0 0, .slice none 0 0, .int .i64 0, .int .i64 0, .int .u64 0]⟩), (58, ⟨.map 5 69, 1, 8, none, [.map none]⟩), (62, ⟨.scalar, 1, 8, none, [.nilFunc]⟩), (66, ⟨.strct [(0, 22), (1, 3)], 2, 32, some (.pair (.list (.int .u8)) (.pair (.int .i64) .unit)), [.slice none 0 0, .int .i64 0]⟩), (67, ⟨.slice 9, 1, 24, some (.list .str), [.slice none 0 0]⟩), (69, ⟨.scalar, 1, 8, none, [.nilFunc]⟩), (72, ⟨.strct [(0, 28), (1, 3), (2, 3)], 3, 40, some (.pair (.list (.int .i64)) (.pair (.int .i64) (.pair (.int .i64) .unit))), [.slice none 0 0, .int .i64 0, .int .i64 0]⟩), (83, ⟨.int .u64, 1, 8, some (.int .u64), [.int .u64 0]⟩)]
theorem tys_ok : TOk Try.prog (tlook tys) := tok_of (List.forall_mem_cons.2 ⟨ty3, List.forall_mem_cons.2 ⟨ty4, List.forall_mem_cons.2 ⟨ty5, List.forall_mem_cons.2 ⟨ty9, List.forall_mem_cons.2 ⟨ty22, List.forall_mem_cons.2 ⟨ty28, List.forall_mem_cons.2 ⟨ty38, List.forall_mem_cons.2 ⟨ty43, List.forall_mem_cons.2 ⟨ty46, List.forall_mem_cons.2 ⟨ty49, List.forall_mem_cons.2 ⟨ty51, List.forall_mem_cons.2 ⟨ty58, List.forall_mem_cons.2 ⟨ty62, List.forall_mem_cons.2 ⟨ty66, List.forall_mem_cons.2 ⟨ty67, List.forall_mem_cons.2 ⟨ty69, List.forall_mem_cons.2 ⟨ty72, List.forall_mem_cons.2 ⟨ty83, by simp⟩⟩⟩⟩⟩⟩⟩⟩⟩⟩⟩⟩⟩⟩⟩⟩⟩⟩)
def ioF (f : FuncId) (i : Nat) : Bool := [(14, 0), (23, 0)].any fun (p : Nat × Nat) => Nat.beq p.1 f && Nat.beq p.2 i


/-! loop.example/headtrees/impl.newStackMachine -/

def impl_newStackMachine_an : Ann := (.seq (.leaf [0]) (.seq (.leaf [2]) (.leaf [2])))

noncomputable def impl_newStackMachine_ctx : Ctx := ⟨tlook tys, olook [], ioF, 0, false, []⟩

theorem impl_newStackMachine_n1_l (x917 : Int) : Link impl_newStackMachine_ctx LL (bodyOf Try.f31) impl_newStackMachine_an (⟨mkE 7 0 [(0, .dat (.int .i64) x917)], []⟩ : St) (impl_newStackMachine_n1 x917) (fun (t : (List Int)) => (Exit.ret, (⟨mkE 7 0 [(2, .ptr 0 0)], [some (.box [.slc 1, .nils, .dat (.int .i64) 0, .dat (.int .i64) 0]), some (.seq (.int .i64) t)]⟩ : St))) := by
  refine Link.of fun K h => ?_
  simp only [impl_newStackMachine_n1, wpO_bind, wpO_cond, wpO_map, wpO_some] at h
  exact Awp.of (by kernel_rfl) h

theorem impl_newStackMachine_e (x917 : Int) {r : AV} {H' : Heap} (h : (Ans.mk _ (impl_newStackMachine x917) (fun (t : (List Int)) => (.ptr 0 0, [some (.box [.slc 1, .nils, .dat (.int .i64) 0, .dat (.int .i64) 0]), some (.seq (.int .i64) t)])) [] none).run = some (r, H')) : Awp impl_newStackMachine_ctx LL (bodyOf Try.f31) impl_newStackMachine_an (⟨mkE 7 0 [(0, .dat (.int .i64) x917)], []⟩ : St) (Ret (tlook tys) Try.f31.results.toList r H') :=
  ret_of' (impl_newStackMachine_n1_l x917) (by unfold impl_newStackMachine; kernel_rfl) (by
  intro t
  exact ret_mk [.ptr 0 0] (by kernel_rfl) (by kernel_rfl) (by kernel_rfl) (by kernel_rfl)) h

def F_impl_newStackMachine : Fun := fun avs H =>
  match avs, H with
  | [.dat (.int .i64) x917], [] => ⟨_, impl_newStackMachine x917, fun (t : (List Int)) => (.ptr 0 0, [some (.box [.slc 1, .nils, .dat (.int .i64) 0, .dat (.int .i64) 0]), some (.seq (.int .i64) t)]), [], none⟩
  | _, _ => Ans.no

theorem impl_newStackMachine_sound : Sound Try.prog 31 F_impl_newStackMachine := by
  refine fn_sound' (C := impl_newStackMachine_ctx) (c := bodyOf Try.f31) (cok_of tys_ok (by simp) (by simp) (by kernel_rfl)) Try.func31 (by kernel_rfl) LL impl_newStackMachine_an ?_
  intro avs H r H' h
  unfold F_impl_newStackMachine at h
  split at h
  · refine Awp.cast ?_ ?_ ?_ (impl_newStackMachine_e _ h) <;> kernel_rfl
  · simp [Ans.no, Ans.run] at h


/-! loop.example/headtrees/impl.stackMoves -/

def F_impl_stackMoves : Fun := F_map [(.int .u8 83, .func 37), (.int .u8 76, .func 43), (.int .u8 82, .func 44)]

theorem impl_stackMoves_sound : Sound Try.prog 33 F_impl_stackMoves :=
  mapfn_sound (mt := 58) (kt := 5) (et := 69) (d := .int .u8) Try.func33 (by kernel_rfl) (by kernel_rfl) (by kernel_rfl) (by kernel_rfl) (by kernel_rfl)


/-! (*loop.example/headtrees/impl.stackMachine).putNext -/

def impl_stackMachine_putNext_an : Ann := (.seq (.leaf [0]) (.seq (.seq (.draw [] [0, 1, 2, 3, 4, 5, 6, 7, 8, 9] [] [0, 12]) (.cond (.seq (.leaf [2]) (.leaf [2])) (.leaf [0]))) (.seq (.leaf [0]) (.seq (.draw [] [0, 1, 2, 3, 4, 5, 6, 7, 8, 9, 10, 11, 12, 13] [] [0]) (.seq (.draw [] [0, 1, 2, 3, 4, 5, 6, 7, 8, 9, 10, 11, 12, 13] [] []) (.seq (.leaf [2]) (.leaf [2])))))))

noncomputable def impl_stackMachine_putNext_ctx : Ctx := ⟨tlook tys, olook [], ioF, 3, false, [2]⟩

theorem impl_stackMachine_putNext_n1_l (x1211 : Int) (x1212 : Int) (x1213 : List Int) (x1214 : List Int) : Link impl_stackMachine_putNext_ctx LL (bodyOf Try.f37) impl_stackMachine_putNext_an (⟨mkE 46 0 [(0, .ptr 0 0)], [some (.box [.slc 1, .slc 2, .dat (.int .i64) x1211, .dat (.int .i64) x1212]), some (.seq (.int .i64) x1213), some (.seq (.int .i64) x1214)]⟩ : St) (impl_stackMachine_putNext_n1 x1211 x1212 x1213 x1214) (fun (t : Bool × Int × Int × (List Int)) => (Exit.ret, (⟨mkE 46 0 [(2, .dat .bool t.1)], [some (.box [.slc 1, .slc 2, .dat (.int .i64) t.2.1, .dat (.int .i64) t.2.2.1]), some (.seq (.int .i64) x1213), some (.seq (.int .i64) t.2.2.2)]⟩ : St))) := by
  refine Link.of fun K h => ?_
  simp only [impl_stackMachine_putNext_n1, wpO_bind, wpO_cond, wpO_map, wpO_some] at h
  exact Awp.of (by kernel_rfl) h

theorem impl_stackMachine_putNext_e (x1211 : Int) (x1212 : Int) (x1213 : List Int) (x1214 : List Int) {r : AV} {H' : Heap} (h : (Ans.mk _ (impl_stackMachine_putNext x1211 x1212 x1213 x1214) (fun (t : Bool × Int × Int × (List Int)) => (.dat .bool t.1, [some (.box [.slc 1, .slc 2, .dat (.int .i64) t.2.1, .dat (.int .i64) t.2.2.1]), some (.seq (.int .i64) x1213), some (.seq (.int .i64) t.2.2.2)])) [2] none).run = some (r, H')) : Awp impl_stackMachine_putNext_ctx LL (bodyOf Try.f37) impl_stackMachine_putNext_an (⟨mkE 46 0 [(0, .ptr 0 0)], [some (.box [.slc 1, .slc 2, .dat (.int .i64) x1211, .dat (.int .i64) x1212]), some (.seq (.int .i64) x1213), some (.seq (.int .i64) x1214)]⟩ : St) (Ret (tlook tys) Try.f37.results.toList r H') :=
  ret_of' (impl_stackMachine_putNext_n1_l x1211 x1212 x1213 x1214) (by unfold impl_stackMachine_putNext; kernel_rfl) (by
  intro t
  exact ret_mk [.dat .bool t.1] (by kernel_rfl) (by kernel_rfl) (by kernel_rfl) (by kernel_rfl)) h

def F_impl_stackMachine_putNext : Fun := fun avs H =>
  match avs, H with
  | [.ptr 0 0], [some (.box [.slc 1, .slc 2, .dat (.int .i64) x1211, .dat (.int .i64) x1212]), some (.seq (.int .i64) x1213), some (.seq (.int .i64) x1214)] => ⟨_, impl_stackMachine_putNext x1211 x1212 x1213 x1214, fun (t : Bool × Int × Int × (List Int)) => (.dat .bool t.1, [some (.box [.slc 1, .slc 2, .dat (.int .i64) t.2.1, .dat (.int .i64) t.2.2.1]), some (.seq (.int .i64) x1213), some (.seq (.int .i64) t.2.2.2)]), [2], none⟩
  | _, _ => Ans.no

theorem impl_stackMachine_putNext_sound : Sound Try.prog 37 F_impl_stackMachine_putNext := by
  refine fn_sound' (C := impl_stackMachine_putNext_ctx) (c := bodyOf Try.f37) (cok_of tys_ok (by simp) (by simp) (by kernel_rfl)) Try.func37 (by kernel_rfl) LL impl_stackMachine_putNext_an ?_
  intro avs H r H' h
  unfold F_impl_stackMachine_putNext at h
  split at h
  · refine Awp.cast ?_ ?_ ?_ (impl_stackMachine_putNext_e _ _ _ _ h) <;> kernel_rfl
  · simp [Ans.no, Ans.run] at h


/-! (*loop.example/headtrees/impl.stackMachine).upperTwo -/

def impl_stackMachine_upperTwo_an : Ann := (.seq (.leaf [0]) (.seq (.leaf [0, 5]) (.seq (.seq (.leaf [0, 5, 12]) (.cond (.seq (.leaf [2, 3, 4]) (.leaf [2, 3, 4])) (.leaf [0, 5]))) (.seq (.draw [] [0, 1, 2, 3, 4, 5, 6, 7, 8, 9, 10, 11, 12, 13, 14, 15, 16, 17, 18] [] [2, 3, 4]) (.leaf [2, 3, 4])))))

noncomputable def impl_stackMachine_upperTwo_ctx : Ctx := ⟨tlook tys, olook [], ioF, 3, false, []⟩

theorem impl_stackMachine_upperTwo_n1_l (x1055 : Int) (x1056 : Int) (x1057 : List Int) (x1058 : List Int) : Link impl_stackMachine_upperTwo_ctx LL (bodyOf Try.f51) impl_stackMachine_upperTwo_an (⟨mkE 29 0 [(0, .ptr 0 0)], [some (.box [.slc 1, .slc 2, .dat (.int .i64) x1055, .dat (.int .i64) x1056]), some (.seq (.int .i64) x1057), some (.seq (.int .i64) x1058)]⟩ : St) (impl_stackMachine_upperTwo_n1 x1058) (fun (t : Int × Int × Bool) => (Exit.ret, (⟨mkE 29 0 [(2, .dat (.int .i64) t.1), (3, .dat (.int .i64) t.2.1), (4, .dat .bool t.2.2)], [some (.box [.slc 1, .slc 2, .dat (.int .i64) x1055, .dat (.int .i64) x1056]), some (.seq (.int .i64) x1057), some (.seq (.int .i64) x1058)]⟩ : St))) := by
  refine Link.of fun K h => ?_
  simp only [impl_stackMachine_upperTwo_n1, wpO_bind, wpO_cond, wpO_map, wpO_some] at h
  exact Awp.of (by kernel_rfl) h

theorem impl_stackMachine_upperTwo_e (x1055 : Int) (x1056 : Int) (x1057 : List Int) (x1058 : List Int) {r : AV} {H' : Heap} (h : (Ans.mk _ (impl_stackMachine_upperTwo x1055 x1056 x1057 x1058) (fun (t : Int × Int × Bool) => (.tup [.dat (.int .i64) t.1, .dat (.int .i64) t.2.1, .dat .bool t.2.2], [some (.box [.slc 1, .slc 2, .dat (.int .i64) x1055, .dat (.int .i64) x1056]), some (.seq (.int .i64) x1057), some (.seq (.int .i64) x1058)])) [] none).run = some (r, H')) : Awp impl_stackMachine_upperTwo_ctx LL (bodyOf Try.f51) impl_stackMachine_upperTwo_an (⟨mkE 29 0 [(0, .ptr 0 0)], [some (.box [.slc 1, .slc 2, .dat (.int .i64) x1055, .dat (.int .i64) x1056]), some (.seq (.int .i64) x1057), some (.seq (.int .i64) x1058)]⟩ : St) (Ret (tlook tys) Try.f51.results.toList r H') :=
  ret_of' (impl_stackMachine_upperTwo_n1_l x1055 x1056 x1057 x1058) (by unfold impl_stackMachine_upperTwo; kernel_rfl) (by
  intro t
  exact ret_mk [.dat (.int .i64) t.1, .dat (.int .i64) t.2.1, .dat .bool t.2.2] (by kernel_rfl) (by kernel_rfl) (by kernel_rfl) (by kernel_rfl)) h

def F_impl_stackMachine_upperTwo : Fun := fun avs H =>
  match avs, H with
  | [.ptr 0 0], [some (.box [.slc 1, .slc 2, .dat (.int .i64) x1055, .dat (.int .i64) x1056]), some (.seq (.int .i64) x1057), some (.seq (.int .i64) x1058)] => ⟨_, impl_stackMachine_upperTwo x1055 x1056 x1057 x1058, fun (t : Int × Int × Bool) => (.tup [.dat (.int .i64) t.1, .dat (.int .i64) t.2.1, .dat .bool t.2.2], [some (.box [.slc 1, .slc 2, .dat (.int .i64) x1055, .dat (.int .i64) x1056]), some (.seq (.int .i64) x1057), some (.seq (.int .i64) x1058)]), [], none⟩
  | _, _ => Ans.no

theorem impl_stackMachine_upperTwo_sound : Sound Try.prog 51 F_impl_stackMachine_upperTwo := by
  refine fn_sound' (C := impl_stackMachine_upperTwo_ctx) (c := bodyOf Try.f51) (cok_of tys_ok (by simp) (by simp) (by kernel_rfl)) Try.func51 (by kernel_rfl) LL impl_stackMachine_upperTwo_an ?_
  intro avs H r H' h
  unfold F_impl_stackMachine_upperTwo at h
  split at h
  · refine Awp.cast ?_ ?_ ?_ (impl_stackMachine_upperTwo_e _ _ _ _ h) <;> kernel_rfl
  · simp [Ans.no, Ans.run] at h


/-! (*loop.example/headtrees/impl.stackMachine).join -/

def impl_stackMachine_join_an : Ann := (.seq (.leaf [0, 2]) (.draw [] [0, 1, 2, 3, 4, 5, 6, 7, 8, 9, 10, 11, 12, 13, 14, 15, 16, 17] [] []))

noncomputable def impl_stackMachine_join_ctx : Ctx := ⟨tlook tys, olook [], ioF, 3, false, [2]⟩

theorem impl_stackMachine_join_n1_l (x1089 : Int) (x1090 : Int) (x1091 : Int) (x1092 : Int) (x1093 : List Int) (x1094 : List Int) : Link impl_stackMachine_join_ctx LL (bodyOf Try.f52) impl_stackMachine_join_an (⟨mkE 31 0 [(0, .ptr 0 0), (1, .dat (.int .i64) x1089), (2, .dat (.int .i64) x1090)], [some (.box [.slc 1, .slc 2, .dat (.int .i64) x1091, .dat (.int .i64) x1092]), some (.seq (.int .i64) x1093), some (.seq (.int .i64) x1094)]⟩ : St) (impl_stackMachine_join_n1 x1089 x1090 x1093 x1094) (fun (t : (List Int) × (List Int)) => (Exit.normal, (⟨mkE 31 0 [], [some (.box [.slc 1, .slc 2, .dat (.int .i64) x1091, .dat (.int .i64) x1092]), some (.seq (.int .i64) t.1), some (.seq (.int .i64) t.2)]⟩ : St))) := by
  refine Link.of fun K h => ?_
  simp only [impl_stackMachine_join_n1, wpO_bind, wpO_cond, wpO_map, wpO_some] at h
  exact Awp.of (by kernel_rfl) h

theorem impl_stackMachine_join_e (x1089 : Int) (x1090 : Int) (x1091 : Int) (x1092 : Int) (x1093 : List Int) (x1094 : List Int) {r : AV} {H' : Heap} (h : (Ans.mk _ (impl_stackMachine_join x1089 x1090 x1091 x1092 x1093 x1094) (fun (t : (List Int) × (List Int)) => (.tup [], [some (.box [.slc 1, .slc 2, .dat (.int .i64) x1091, .dat (.int .i64) x1092]), some (.seq (.int .i64) t.1), some (.seq (.int .i64) t.2)])) [2] none).run = some (r, H')) : Awp impl_stackMachine_join_ctx LL (bodyOf Try.f52) impl_stackMachine_join_an (⟨mkE 31 0 [(0, .ptr 0 0), (1, .dat (.int .i64) x1089), (2, .dat (.int .i64) x1090)], [some (.box [.slc 1, .slc 2, .dat (.int .i64) x1091, .dat (.int .i64) x1092]), some (.seq (.int .i64) x1093), some (.seq (.int .i64) x1094)]⟩ : St) (Ret (tlook tys) Try.f52.results.toList r H') :=
  ret_of (impl_stackMachine_join_n1_l x1089 x1090 x1091 x1092 x1093 x1094) (fun (t : (List Int) × (List Int)) => (t.1, t.2)) (by unfold impl_stackMachine_join; kernel_rfl) (by
  rintro t
  · exact ret_mk [] (by kernel_rfl) (by kernel_rfl) (by kernel_rfl) (by kernel_rfl)) h

def F_impl_stackMachine_join : Fun := fun avs H =>
  match avs, H with
  | [.ptr 0 0, .dat (.int .i64) x1089, .dat (.int .i64) x1090], [some (.box [.slc 1, .slc 2, .dat (.int .i64) x1091, .dat (.int .i64) x1092]), some (.seq (.int .i64) x1093), some (.seq (.int .i64) x1094)] => ⟨_, impl_stackMachine_join x1089 x1090 x1091 x1092 x1093 x1094, fun (t : (List Int) × (List Int)) => (.tup [], [some (.box [.slc 1, .slc 2, .dat (.int .i64) x1091, .dat (.int .i64) x1092]), some (.seq (.int .i64) t.1), some (.seq (.int .i64) t.2)]), [2], none⟩
  | _, _ => Ans.no

theorem impl_stackMachine_join_sound : Sound Try.prog 52 F_impl_stackMachine_join := by
  refine fn_sound' (C := impl_stackMachine_join_ctx) (c := bodyOf Try.f52) (cok_of tys_ok (by simp) (by simp) (by kernel_rfl)) Try.func52 (by kernel_rfl) LL impl_stackMachine_join_an ?_
  intro avs H r H' h
  unfold F_impl_stackMachine_join at h
  split at h
  · refine Awp.cast ?_ ?_ ?_ (impl_stackMachine_join_e _ _ _ _ _ _ h) <;> kernel_rfl
  · simp [Ans.no, Ans.run] at h


/-! (*loop.example/headtrees/impl.stackMachine).takeBelow -/

def impl_stackMachine_takeBelow_an : Ann := (.seq (.leaf [0]) (.seq (.leaf [0, 3, 4, 5]) (.seq (.seq (.leaf [0, 3, 4, 5, 12]) (.cond (.leaf [5]) (.leaf [5]))) (.seq (.leaf [2]) (.leaf [2])))))

noncomputable def impl_stackMachine_takeBelow_ctx : Ctx := ⟨tlook tys, olook [(51, F_impl_stackMachine_upperTwo), (52, F_impl_stackMachine_join)], ioF, 3, false, [2]⟩

theorem impl_stackMachine_takeBelow_n1_l (x1265 : Int) (x1266 : Int) (x1267 : List Int) (x1268 : List Int) : Link impl_stackMachine_takeBelow_ctx LL (bodyOf Try.f43) impl_stackMachine_takeBelow_an (⟨mkE 18 0 [(0, .ptr 0 0)], [some (.box [.slc 1, .slc 2, .dat (.int .i64) x1265, .dat (.int .i64) x1266]), some (.seq (.int .i64) x1267), some (.seq (.int .i64) x1268)]⟩ : St) (impl_stackMachine_takeBelow_n1 x1265 x1266 x1267 x1268) (fun (t : Bool × (List Int) × (List Int)) => (Exit.ret, (⟨mkE 18 0 [(2, .dat .bool t.1)], [some (.box [.slc 1, .slc 2, .dat (.int .i64) x1265, .dat (.int .i64) x1266]), some (.seq (.int .i64) t.2.1), some (.seq (.int .i64) t.2.2)]⟩ : St))) := by
  refine Link.of fun K h => ?_
  simp only [impl_stackMachine_takeBelow_n1, wpO_bind, wpO_cond, wpO_map, wpO_some] at h
  exact Awp.of (by kernel_rfl) h

theorem impl_stackMachine_takeBelow_e (x1265 : Int) (x1266 : Int) (x1267 : List Int) (x1268 : List Int) {r : AV} {H' : Heap} (h : (Ans.mk _ (impl_stackMachine_takeBelow x1265 x1266 x1267 x1268) (fun (t : Bool × (List Int) × (List Int)) => (.dat .bool t.1, [some (.box [.slc 1, .slc 2, .dat (.int .i64) x1265, .dat (.int .i64) x1266]), some (.seq (.int .i64) t.2.1), some (.seq (.int .i64) t.2.2)])) [2] none).run = some (r, H')) : Awp impl_stackMachine_takeBelow_ctx LL (bodyOf Try.f43) impl_stackMachine_takeBelow_an (⟨mkE 18 0 [(0, .ptr 0 0)], [some (.box [.slc 1, .slc 2, .dat (.int .i64) x1265, .dat (.int .i64) x1266]), some (.seq (.int .i64) x1267), some (.seq (.int .i64) x1268)]⟩ : St) (Ret (tlook tys) Try.f43.results.toList r H') :=
  ret_of' (impl_stackMachine_takeBelow_n1_l x1265 x1266 x1267 x1268) (by unfold impl_stackMachine_takeBelow; kernel_rfl) (by
  intro t
  exact ret_mk [.dat .bool t.1] (by kernel_rfl) (by kernel_rfl) (by kernel_rfl) (by kernel_rfl)) h

def F_impl_stackMachine_takeBelow : Fun := fun avs H =>
  match avs, H with
  | [.ptr 0 0], [some (.box [.slc 1, .slc 2, .dat (.int .i64) x1265, .dat (.int .i64) x1266]), some (.seq (.int .i64) x1267), some (.seq (.int .i64) x1268)] => ⟨_, impl_stackMachine_takeBelow x1265 x1266 x1267 x1268, fun (t : Bool × (List Int) × (List Int)) => (.dat .bool t.1, [some (.box [.slc 1, .slc 2, .dat (.int .i64) x1265, .dat (.int .i64) x1266]), some (.seq (.int .i64) t.2.1), some (.seq (.int .i64) t.2.2)]), [2], none⟩
  | _, _ => Ans.no

theorem impl_stackMachine_takeBelow_sound : Sound Try.prog 43 F_impl_stackMachine_takeBelow := by
  refine fn_sound' (C := impl_stackMachine_takeBelow_ctx) (c := bodyOf Try.f43) (cok_of tys_ok (List.forall_mem_cons.2 ⟨impl_stackMachine_upperTwo_sound, List.forall_mem_cons.2 ⟨impl_stackMachine_join_sound, by simp⟩⟩) (List.forall_mem_cons.2 ⟨Try.call51, List.forall_mem_cons.2 ⟨Try.call52, by simp⟩⟩) (by kernel_rfl)) Try.func43 (by kernel_rfl) LL impl_stackMachine_takeBelow_an ?_
  intro avs H r H' h
  unfold F_impl_stackMachine_takeBelow at h
  split at h
  · refine Awp.cast ?_ ?_ ?_ (impl_stackMachine_takeBelow_e _ _ _ _ h) <;> kernel_rfl
  · simp [Ans.no, Ans.run] at h


/-! (*loop.example/headtrees/impl.stackMachine).takeUpper -/

def impl_stackMachine_takeUpper_an : Ann := (.seq (.leaf [0]) (.seq (.leaf [0, 3, 4, 5]) (.seq (.seq (.leaf [0, 3, 4, 5, 12]) (.cond (.leaf [5]) (.leaf [5]))) (.seq (.leaf [2]) (.leaf [2])))))

noncomputable def impl_stackMachine_takeUpper_ctx : Ctx := ⟨tlook tys, olook [(51, F_impl_stackMachine_upperTwo), (52, F_impl_stackMachine_join)], ioF, 3, false, [2]⟩

theorem impl_stackMachine_takeUpper_n1_l (x1302 : Int) (x1303 : Int) (x1304 : List Int) (x1305 : List Int) : Link impl_stackMachine_takeUpper_ctx LL (bodyOf Try.f44) impl_stackMachine_takeUpper_an (⟨mkE 18 0 [(0, .ptr 0 0)], [some (.box [.slc 1, .slc 2, .dat (.int .i64) x1302, .dat (.int .i64) x1303]), some (.seq (.int .i64) x1304), some (.seq (.int .i64) x1305)]⟩ : St) (impl_stackMachine_takeUpper_n1 x1302 x1303 x1304 x1305) (fun (t : Bool × (List Int) × (List Int)) => (Exit.ret, (⟨mkE 18 0 [(2, .dat .bool t.1)], [some (.box [.slc 1, .slc 2, .dat (.int .i64) x1302, .dat (.int .i64) x1303]), some (.seq (.int .i64) t.2.1), some (.seq (.int .i64) t.2.2)]⟩ : St))) := by
  refine Link.of fun K h => ?_
  simp only [impl_stackMachine_takeUpper_n1, wpO_bind, wpO_cond, wpO_map, wpO_some] at h
  exact Awp.of (by kernel_rfl) h

theorem impl_stackMachine_takeUpper_e (x1302 : Int) (x1303 : Int) (x1304 : List Int) (x1305 : List Int) {r : AV} {H' : Heap} (h : (Ans.mk _ (impl_stackMachine_takeUpper x1302 x1303 x1304 x1305) (fun (t : Bool × (List Int) × (List Int)) => (.dat .bool t.1, [some (.box [.slc 1, .slc 2, .dat (.int .i64) x1302, .dat (.int .i64) x1303]), some (.seq (.int .i64) t.2.1), some (.seq (.int .i64) t.2.2)])) [2] none).run = some (r, H')) : Awp impl_stackMachine_takeUpper_ctx LL (bodyOf Try.f44) impl_stackMachine_takeUpper_an (⟨mkE 18 0 [(0, .ptr 0 0)], [some (.box [.slc 1, .slc 2, .dat (.int .i64) x1302, .dat (.int .i64) x1303]), some (.seq (.int .i64) x1304), some (.seq (.int .i64) x1305)]⟩ : St) (Ret (tlook tys) Try.f44.results.toList r H') :=
  ret_of' (impl_stackMachine_takeUpper_n1_l x1302 x1303 x1304 x1305) (by unfold impl_stackMachine_takeUpper; kernel_rfl) (by
  intro t
  exact ret_mk [.dat .bool t.1] (by kernel_rfl) (by kernel_rfl) (by kernel_rfl) (by kernel_rfl)) h

def F_impl_stackMachine_takeUpper : Fun := fun avs H =>
  match avs, H with
  | [.ptr 0 0], [some (.box [.slc 1, .slc 2, .dat (.int .i64) x1302, .dat (.int .i64) x1303]), some (.seq (.int .i64) x1304), some (.seq (.int .i64) x1305)] => ⟨_, impl_stackMachine_takeUpper x1302 x1303 x1304 x1305, fun (t : Bool × (List Int) × (List Int)) => (.dat .bool t.1, [some (.box [.slc 1, .slc 2, .dat (.int .i64) x1302, .dat (.int .i64) x1303]), some (.seq (.int .i64) t.2.1), some (.seq (.int .i64) t.2.2)]), [2], none⟩
  | _, _ => Ans.no

theorem impl_stackMachine_takeUpper_sound : Sound Try.prog 44 F_impl_stackMachine_takeUpper := by
  refine fn_sound' (C := impl_stackMachine_takeUpper_ctx) (c := bodyOf Try.f44) (cok_of tys_ok (List.forall_mem_cons.2 ⟨impl_stackMachine_upperTwo_sound, List.forall_mem_cons.2 ⟨impl_stackMachine_join_sound, by simp⟩⟩) (List.forall_mem_cons.2 ⟨Try.call51, List.forall_mem_cons.2 ⟨Try.call52, by simp⟩⟩) (by kernel_rfl)) Try.func44 (by kernel_rfl) LL impl_stackMachine_takeUpper_an ?_
  intro avs H r H' h
  unfold F_impl_stackMachine_takeUpper at h
  split at h
  · refine Awp.cast ?_ ?_ ?_ (impl_stackMachine_takeUpper_e _ _ _ _ h) <;> kernel_rfl
  · simp [Ans.no, Ans.run] at h


/-! loop.example/headtrees/impl.allDone[*loop.example/headtrees/impl.stackMachine] -/

def impl_allDone_impl_stackMachine_an : Ann := (.seq (.leaf [0, 1, 2]) (.seq (.seq (.leafF [⟨3, 0, false, some 1, some (.int .i64)⟩] [0, 1, 2, 11, 12]) (.block (.loop (.seq (.leaf [0, 1, 2, 11, 12, 13]) (.seq (.cond (.leaf [0, 1, 2, 11, 12]) (.leaf [])) (.seq (.block (.seq (.leaf [0, 1, 2, 7, 11, 12]) (.seq (.leaf [0, 1, 2, 8, 9, 11, 12]) (.seq (.leaf [0, 1, 2, 11, 12, 30]) (.cond (.seq (.leaf [6]) (.leaf [6])) (.leaf [0, 1, 2, 11, 12])))))) (.leaf [0, 1, 2, 11, 12]))))))) (.seq (.leaf [6]) (.leaf [6]))))

noncomputable def impl_allDone_impl_stackMachine_ctx : Ctx := ⟨tlook tys, olook [(37, F_impl_stackMachine_putNext), (43, F_impl_stackMachine_takeBelow), (44, F_impl_stackMachine_takeUpper)], ioF, 2, false, []⟩

theorem impl_allDone_impl_stackMachine_n1_l (x927 : ByteArray) (x928 : Int) (x929 : Int) (x930 : List Int) : Link impl_allDone_impl_stackMachine_ctx LL (Code.fst (bodyOf Try.f32)) (Ann.fst impl_allDone_impl_stackMachine_an) (⟨mkE 32 0 [(0, .ptr 0 0), (1, .fmap [(.int .u8 83, .func 37), (.int .u8 76, .func 43), (.int .u8 82, .func 44)]), (2, .dat .str x927)], [some (.box [.slc 1, .nils, .dat (.int .i64) x928, .dat (.int .i64) x929]), some (.seq (.int .i64) x930)]⟩ : St) (impl_allDone_impl_stackMachine_n1) (fun (t : Unit) => (Exit.normal, (⟨mkE 32 0 [(0, .ptr 0 0), (1, .fmap [(.int .u8 83, .func 37), (.int .u8 76, .func 43), (.int .u8 82, .func 44)]), (2, .dat .str x927)], [some (.box [.slc 1, .nils, .dat (.int .i64) x928, .dat (.int .i64) x929]), some (.seq (.int .i64) x930)]⟩ : St))) := by
  refine Link.of fun K h => ?_
  simp only [impl_allDone_impl_stackMachine_n1, wpO_bind, wpO_cond, wpO_map, wpO_some] at h
  exact Awp.of (by kernel_rfl) h

theorem impl_allDone_impl_stackMachine_n2_l (x927 : ByteArray) (x928 : Int) (x929 : Int) (x930 : List Int) : Link impl_allDone_impl_stackMachine_ctx LL (Code.fst (Code.fst (Code.snd (bodyOf Try.f32)))) (Ann.fst (Ann.fst (Ann.snd impl_allDone_impl_stackMachine_an))) (⟨mkE 32 0 [(0, .ptr 0 0), (1, .fmap [(.int .u8 83, .func 37), (.int .u8 76, .func 43), (.int .u8 82, .func 44)]), (2, .dat .str x927)], [some (.box [.slc 1, .nils, .dat (.int .i64) x928, .dat (.int .i64) x929]), some (.seq (.int .i64) x930)]⟩ : St) (impl_allDone_impl_stackMachine_n2 x927) (fun (t : Int) => (Exit.normal, (⟨mkE 32 0 [(0, .ptr 0 0), (1, .fmap [(.int .u8 83, .func 37), (.int .u8 76, .func 43), (.int .u8 82, .func 44)]), (2, .dat .str x927), (11, .dat (.int .i64) t), (12, .dat (.int .i64) 0)], [some (.box [.slc 1, .slc 2, .dat (.int .i64) x928, .dat (.int .i64) x929]), some (.seq (.int .i64) x930), some (.seq (.int .i64) ([] : List Int))]⟩ : St))) := by
  refine Link.of fun K h => ?_
  simp only [impl_allDone_impl_stackMachine_n2, wpO_bind, wpO_cond, wpO_map, wpO_some] at h
  exact Awp.of (by kernel_rfl) h

theorem impl_allDone_impl_stackMachine_n3_l (x927 : ByteArray) (x1205 : Int) (x1367 : Int) (x1368 : Int) (x1369 : Int) (x1370 : List Int) (x1371 : List Int) : Link impl_allDone_impl_stackMachine_ctx LL (Code.fst (Code.fst (Code.snd (Code.fst (Code.snd (bodyOf Try.f32)))))) (Ann.fst (Ann.fst (Ann.snd (Ann.fst (Ann.snd impl_allDone_impl_stackMachine_an))))) (⟨mkE 32 0 [(0, .ptr 0 0), (1, .fmap [(.int .u8 83, .func 37), (.int .u8 76, .func 43), (.int .u8 82, .func 44)]), (2, .dat .str x927), (11, .dat (.int .i64) x1205), (12, .dat (.int .i64) x1367)], [some (.box [.slc 1, .slc 2, .dat (.int .i64) x1368, .dat (.int .i64) x1369]), some (.seq (.int .i64) x1370), some (.seq (.int .i64) x1371)]⟩ : St) (impl_allDone_impl_stackMachine_n3 x927 x1205 x1367 x1368 x1369 x1370 x1371) (Sum.elim (fun (t : Int × Int × Int × (List Int) × (List Int)) => (Exit.normal, (⟨mkE 32 0 [(0, .ptr 0 0), (1, .fmap [(.int .u8 83, .func 37), (.int .u8 76, .func 43), (.int .u8 82, .func 44)]), (2, .dat .str x927), (11, .dat (.int .i64) x1205), (12, .dat (.int .i64) t.1)], [some (.box [.slc 1, .slc 2, .dat (.int .i64) t.2.1, .dat (.int .i64) t.2.2.1]), some (.seq (.int .i64) t.2.2.2.1), some (.seq (.int .i64) t.2.2.2.2)]⟩ : St))) (Sum.elim (fun (t : Bool × Int × Int × (List Int) × (List Int)) => (Exit.ret, (⟨mkE 32 0 [(6, .dat .bool t.1)], [some (.box [.slc 1, .slc 2, .dat (.int .i64) t.2.1, .dat (.int .i64) t.2.2.1]), some (.seq (.int .i64) t.2.2.2.1), some (.seq (.int .i64) t.2.2.2.2)]⟩ : St))) (fun (t : Int × Int × (List Int) × (List Int)) => ((Exit.exit 0), (⟨mkE 32 0 [], [some (.box [.slc 1, .slc 2, .dat (.int .i64) t.1, .dat (.int .i64) t.2.1]), some (.seq (.int .i64) t.2.2.1), some (.seq (.int .i64) t.2.2.2)]⟩ : St))))) := by
  refine Link.of fun K h => ?_
  simp only [impl_allDone_impl_stackMachine_n3, wpO_bind, wpO_cond, wpO_map, wpO_some] at h
  exact Awp.of (by kernel_rfl) h

theorem impl_allDone_impl_stackMachine_n4_l (x927 : ByteArray) (x1205 : Int) (x928 : Int) (x929 : Int) (x930 : List Int) : Link impl_allDone_impl_stackMachine_ctx LL (Code.fst (Code.snd (Code.fst (Code.snd (bodyOf Try.f32))))) (Ann.fst (Ann.snd (Ann.fst (Ann.snd impl_allDone_impl_stackMachine_an)))) (⟨mkE 32 0 [(0, .ptr 0 0), (1, .fmap [(.int .u8 83, .func 37), (.int .u8 76, .func 43), (.int .u8 82, .func 44)]), (2, .dat .str x927), (11, .dat (.int .i64) x1205), (12, .dat (.int .i64) 0)], [some (.box [.slc 1, .slc 2, .dat (.int .i64) x928, .dat (.int .i64) x929]), some (.seq (.int .i64) x930), some (.seq (.int .i64) ([] : List Int))]⟩ : St) (impl_allDone_impl_stackMachine_n4 x927 x1205 x928 x929 x930) (Sum.elim (fun (t : Bool × Int × Int × (List Int) × (List Int)) => (Exit.ret, (⟨mkE 32 0 [(6, .dat .bool t.1)], [some (.box [.slc 1, .slc 2, .dat (.int .i64) t.2.1, .dat (.int .i64) t.2.2.1]), some (.seq (.int .i64) t.2.2.2.1), some (.seq (.int .i64) t.2.2.2.2)]⟩ : St))) (fun (t : Int × Int × (List Int) × (List Int)) => ((Exit.exit 0), (⟨mkE 32 0 [], [some (.box [.slc 1, .slc 2, .dat (.int .i64) t.1, .dat (.int .i64) t.2.1]), some (.seq (.int .i64) t.2.2.1), some (.seq (.int .i64) t.2.2.2)]⟩ : St)))) := by
  unfold impl_allDone_impl_stackMachine_n4
  exact Link.cast (by kernel_rfl) (by kernel_rfl) (link_loop (mk := fun (s : Int × Int × Int × (List Int) × (List Int)) => (⟨mkE 32 0 [(0, .ptr 0 0), (1, .fmap [(.int .u8 83, .func 37), (.int .u8 76, .func 43), (.int .u8 82, .func 44)]), (2, .dat .str x927), (11, .dat (.int .i64) x1205), (12, .dat (.int .i64) s.1)], [some (.box [.slc 1, .slc 2, .dat (.int .i64) s.2.1, .dat (.int .i64) s.2.2.1]), some (.seq (.int .i64) s.2.2.2.1), some (.seq (.int .i64) s.2.2.2.2)]⟩ : St)) (fin := (Sum.elim (fun (t : Bool × Int × Int × (List Int) × (List Int)) => (Exit.ret, (⟨mkE 32 0 [(6, .dat .bool t.1)], [some (.box [.slc 1, .slc 2, .dat (.int .i64) t.2.1, .dat (.int .i64) t.2.2.1]), some (.seq (.int .i64) t.2.2.2.1), some (.seq (.int .i64) t.2.2.2.2)]⟩ : St))) (fun (t : Int × Int × (List Int) × (List Int)) => ((Exit.exit 0), (⟨mkE 32 0 [], [some (.box [.slc 1, .slc 2, .dat (.int .i64) t.1, .dat (.int .i64) t.2.1]), some (.seq (.int .i64) t.2.2.1), some (.seq (.int .i64) t.2.2.2)]⟩ : St))))) (by
  rintro (t | t) f K h
  · exact h
  · exact h) (fun s => link_map (impl_allDone_impl_stackMachine_n3_l x927 x1205 s.1 s.2.1 s.2.2.1 s.2.2.2.1 s.2.2.2.2) (Sum.elim (fun (t : Int × Int × Int × (List Int) × (List Int)) => Sum.inl (t.1, t.2.1, t.2.2.1, t.2.2.2.1, t.2.2.2.2)) (Sum.elim (fun (t : Bool × Int × Int × (List Int) × (List Int)) => Sum.inr (Sum.inl t)) (fun (t : Int × Int × (List Int) × (List Int)) => Sum.inr (Sum.inr t)))) (by
  rintro (t | t | t)
  · kernel_rfl
  · kernel_rfl
  · kernel_rfl)) (0, x928, x929, x930, ([] : List Int)))

theorem impl_allDone_impl_stackMachine_n5_l (x927 : ByteArray) (x1205 : Int) (x928 : Int) (x929 : Int) (x930 : List Int) : Link impl_allDone_impl_stackMachine_ctx LL (Code.snd (Code.fst (Code.snd (bodyOf Try.f32)))) (Ann.snd (Ann.fst (Ann.snd impl_allDone_impl_stackMachine_an))) (⟨mkE 32 0 [(0, .ptr 0 0), (1, .fmap [(.int .u8 83, .func 37), (.int .u8 76, .func 43), (.int .u8 82, .func 44)]), (2, .dat .str x927), (11, .dat (.int .i64) x1205), (12, .dat (.int .i64) 0)], [some (.box [.slc 1, .slc 2, .dat (.int .i64) x928, .dat (.int .i64) x929]), some (.seq (.int .i64) x930), some (.seq (.int .i64) ([] : List Int))]⟩ : St) (impl_allDone_impl_stackMachine_n5 x927 x1205 x928 x929 x930) (Sum.elim (fun (t : Int × Int × (List Int) × (List Int)) => (Exit.normal, (⟨mkE 32 0 [], [some (.box [.slc 1, .slc 2, .dat (.int .i64) t.1, .dat (.int .i64) t.2.1]), some (.seq (.int .i64) t.2.2.1), some (.seq (.int .i64) t.2.2.2)]⟩ : St))) (fun (t : Bool × Int × Int × (List Int) × (List Int)) => (Exit.ret, (⟨mkE 32 0 [(6, .dat .bool t.1)], [some (.box [.slc 1, .slc 2, .dat (.int .i64) t.2.1, .dat (.int .i64) t.2.2.1]), some (.seq (.int .i64) t.2.2.2.1), some (.seq (.int .i64) t.2.2.2.2)]⟩ : St)))) := by
  unfold impl_allDone_impl_stackMachine_n5
  exact Link.cast (by kernel_rfl) (by kernel_rfl) (link_block (id := 0) (impl_allDone_impl_stackMachine_n4_l x927 x1205 x928 x929 x930) (Sum.elim (fun (t : Bool × Int × Int × (List Int) × (List Int)) => (Sum.inr t)) (fun (t : Int × Int × (List Int) × (List Int)) => (Sum.inl (t.1, t.2.1, t.2.2.1, t.2.2.2)))) (by
  rintro (t | t) K h
  · exact Eq.mp (by kernel_rfl) h
  · exact Eq.mp (by kernel_rfl) h))

theorem impl_allDone_impl_stackMachine_n6_l (x927 : ByteArray) (x928 : Int) (x929 : Int) (x930 : List Int) : Link impl_allDone_impl_stackMachine_ctx LL (Code.fst (Code.snd (bodyOf Try.f32))) (Ann.fst (Ann.snd impl_allDone_impl_stackMachine_an)) (⟨mkE 32 0 [(0, .ptr 0 0), (1, .fmap [(.int .u8 83, .func 37), (.int .u8 76, .func 43), (.int .u8 82, .func 44)]), (2, .dat .str x927)], [some (.box [.slc 1, .nils, .dat (.int .i64) x928, .dat (.int .i64) x929]), some (.seq (.int .i64) x930)]⟩ : St) (impl_allDone_impl_stackMachine_n6 x927 x928 x929 x930) (Sum.elim (fun (t : Int × Int × (List Int) × (List Int)) => (Exit.normal, (⟨mkE 32 0 [], [some (.box [.slc 1, .slc 2, .dat (.int .i64) t.1, .dat (.int .i64) t.2.1]), some (.seq (.int .i64) t.2.2.1), some (.seq (.int .i64) t.2.2.2)]⟩ : St))) (fun (t : Bool × Int × Int × (List Int) × (List Int)) => (Exit.ret, (⟨mkE 32 0 [(6, .dat .bool t.1)], [some (.box [.slc 1, .slc 2, .dat (.int .i64) t.2.1, .dat (.int .i64) t.2.2.1]), some (.seq (.int .i64) t.2.2.2.1), some (.seq (.int .i64) t.2.2.2.2)]⟩ : St)))) := by
  unfold impl_allDone_impl_stackMachine_n6
  exact Link.cast (by kernel_rfl) (by kernel_rfl) (link_seq (b := (Code.snd (Code.fst (Code.snd (bodyOf Try.f32))))) (y := (Ann.snd (Ann.fst (Ann.snd impl_allDone_impl_stackMachine_an)))) (impl_allDone_impl_stackMachine_n2_l x927 x928 x929 x930) (fun (t : Int) => (impl_allDone_impl_stackMachine_n5_l x927 t x928 x929 x930)))

theorem impl_allDone_impl_stackMachine_n7_l (x1368 : Int) (x1369 : Int) (x1370 : List Int) (x1371 : List Int) : Link impl_allDone_impl_stackMachine_ctx LL (Code.snd (Code.snd (bodyOf Try.f32))) (Ann.snd (Ann.snd impl_allDone_impl_stackMachine_an)) (⟨mkE 32 0 [], [some (.box [.slc 1, .slc 2, .dat (.int .i64) x1368, .dat (.int .i64) x1369]), some (.seq (.int .i64) x1370), some (.seq (.int .i64) x1371)]⟩ : St) (impl_allDone_impl_stackMachine_n7 x1368 x1369 x1370 x1371) (fun (t : Bool × Int × Int × (List Int) × (List Int)) => (Exit.ret, (⟨mkE 32 0 [(6, .dat .bool t.1)], [some (.box [.slc 1, .slc 2, .dat (.int .i64) t.2.1, .dat (.int .i64) t.2.2.1]), some (.seq (.int .i64) t.2.2.2.1), some (.seq (.int .i64) t.2.2.2.2)]⟩ : St))) := by
  refine Link.of fun K h => ?_
  simp only [impl_allDone_impl_stackMachine_n7, wpO_bind, wpO_cond, wpO_map, wpO_some] at h
  exact Awp.of (by kernel_rfl) h

theorem impl_allDone_impl_stackMachine_n8_l (x927 : ByteArray) (x928 : Int) (x929 : Int) (x930 : List Int) : Link impl_allDone_impl_stackMachine_ctx LL (Code.snd (bodyOf Try.f32)) (Ann.snd impl_allDone_impl_stackMachine_an) (⟨mkE 32 0 [(0, .ptr 0 0), (1, .fmap [(.int .u8 83, .func 37), (.int .u8 76, .func 43), (.int .u8 82, .func 44)]), (2, .dat .str x927)], [some (.box [.slc 1, .nils, .dat (.int .i64) x928, .dat (.int .i64) x929]), some (.seq (.int .i64) x930)]⟩ : St) (impl_allDone_impl_stackMachine_n8 x927 x928 x929 x930) (fun (t : Bool × Int × Int × (List Int) × (List Int)) => (Exit.ret, (⟨mkE 32 0 [(6, .dat .bool t.1)], [some (.box [.slc 1, .slc 2, .dat (.int .i64) t.2.1, .dat (.int .i64) t.2.2.1]), some (.seq (.int .i64) t.2.2.2.1), some (.seq (.int .i64) t.2.2.2.2)]⟩ : St))) := by
  unfold impl_allDone_impl_stackMachine_n8
  exact Link.cast (by kernel_rfl) (by kernel_rfl) (link_seq2 (b := (Code.snd (Code.snd (bodyOf Try.f32)))) (y := (Ann.snd (Ann.snd impl_allDone_impl_stackMachine_an))) (impl_allDone_impl_stackMachine_n6_l x927 x928 x929 x930) (fun (t : Int × Int × (List Int) × (List Int)) => (impl_allDone_impl_stackMachine_n7_l t.1 t.2.1 t.2.2.1 t.2.2.2)) (fun (t : Bool × Int × Int × (List Int) × (List Int)) => t) (by
  rintro t
  · kernel_rfl) (by
  rintro t f K h
  · exact h))

theorem impl_allDone_impl_stackMachine_n9_l (x927 : ByteArray) (x928 : Int) (x929 : Int) (x930 : List Int) : Link impl_allDone_impl_stackMachine_ctx LL (bodyOf Try.f32) impl_allDone_impl_stackMachine_an (⟨mkE 32 0 [(0, .ptr 0 0), (1, .fmap [(.int .u8 83, .func 37), (.int .u8 76, .func 43), (.int .u8 82, .func 44)]), (2, .dat .str x927)], [some (.box [.slc 1, .nils, .dat (.int .i64) x928, .dat (.int .i64) x929]), some (.seq (.int .i64) x930)]⟩ : St) (impl_allDone_impl_stackMachine_n9 x927 x928 x929 x930) (fun (t : Bool × Int × Int × (List Int) × (List Int)) => (Exit.ret, (⟨mkE 32 0 [(6, .dat .bool t.1)], [some (.box [.slc 1, .slc 2, .dat (.int .i64) t.2.1, .dat (.int .i64) t.2.2.1]), some (.seq (.int .i64) t.2.2.2.1), some (.seq (.int .i64) t.2.2.2.2)]⟩ : St))) := by
  unfold impl_allDone_impl_stackMachine_n9
  exact Link.cast (by kernel_rfl) (by kernel_rfl) (link_seq (b := (Code.snd (bodyOf Try.f32))) (y := (Ann.snd impl_allDone_impl_stackMachine_an)) (impl_allDone_impl_stackMachine_n1_l x927 x928 x929 x930) (fun (t : Unit) => (impl_allDone_impl_stackMachine_n8_l x927 x928 x929 x930)))

theorem impl_allDone_impl_stackMachine_e (x927 : ByteArray) (x928 : Int) (x929 : Int) (x930 : List Int) {r : AV} {H' : Heap} (h : (Ans.mk _ (impl_allDone_impl_stackMachine x927 x928 x929 x930) (fun (t : Bool × Int × Int × (List Int) × (List Int)) => (.dat .bool t.1, [some (.box [.slc 1, .slc 2, .dat (.int .i64) t.2.1, .dat (.int .i64) t.2.2.1]), some (.seq (.int .i64) t.2.2.2.1), some (.seq (.int .i64) t.2.2.2.2)])) [] none).run = some (r, H')) : Awp impl_allDone_impl_stackMachine_ctx LL (bodyOf Try.f32) impl_allDone_impl_stackMachine_an (⟨mkE 32 0 [(0, .ptr 0 0), (1, .fmap [(.int .u8 83, .func 37), (.int .u8 76, .func 43), (.int .u8 82, .func 44)]), (2, .dat .str x927)], [some (.box [.slc 1, .nils, .dat (.int .i64) x928, .dat (.int .i64) x929]), some (.seq (.int .i64) x930)]⟩ : St) (Ret (tlook tys) Try.f32.results.toList r H') :=
  ret_of' (impl_allDone_impl_stackMachine_n9_l x927 x928 x929 x930) (by unfold impl_allDone_impl_stackMachine; kernel_rfl) (by
  intro t
  exact ret_mk [.dat .bool t.1] (by kernel_rfl) (by kernel_rfl) (by kernel_rfl) (by kernel_rfl)) h

def F_impl_allDone_impl_stackMachine : Fun := fun avs H =>
  match avs, H with
  | [.ptr 0 0, .fmap [(.int .u8 83, .func 37), (.int .u8 76, .func 43), (.int .u8 82, .func 44)], .dat .str x927], [some (.box [.slc 1, .nils, .dat (.int .i64) x928, .dat (.int .i64) x929]), some (.seq (.int .i64) x930)] => ⟨_, impl_allDone_impl_stackMachine x927 x928 x929 x930, fun (t : Bool × Int × Int × (List Int) × (List Int)) => (.dat .bool t.1, [some (.box [.slc 1, .slc 2, .dat (.int .i64) t.2.1, .dat (.int .i64) t.2.2.1]), some (.seq (.int .i64) t.2.2.2.1), some (.seq (.int .i64) t.2.2.2.2)]), [], none⟩
  | _, _ => Ans.no

theorem impl_allDone_impl_stackMachine_sound : Sound Try.prog 32 F_impl_allDone_impl_stackMachine := by
  refine fn_sound' (C := impl_allDone_impl_stackMachine_ctx) (c := bodyOf Try.f32) (cok_of tys_ok (List.forall_mem_cons.2 ⟨impl_stackMachine_putNext_sound, List.forall_mem_cons.2 ⟨impl_stackMachine_takeBelow_sound, List.forall_mem_cons.2 ⟨impl_stackMachine_takeUpper_sound, by simp⟩⟩⟩) (List.forall_mem_cons.2 ⟨Try.call37, List.forall_mem_cons.2 ⟨Try.call43, List.forall_mem_cons.2 ⟨Try.call44, by simp⟩⟩⟩) (by kernel_rfl)) Try.func32 (by kernel_rfl) LL impl_allDone_impl_stackMachine_an ?_
  intro avs H r H' h
  unfold F_impl_allDone_impl_stackMachine at h
  split at h
  · refine Awp.cast ?_ ?_ ?_ (impl_allDone_impl_stackMachine_e _ _ _ _ h) <;> kernel_rfl
  · simp [Ans.no, Ans.run] at h


/-! (*loop.example/headtrees/impl.stackMachine).ended -/

def impl_stackMachine_ended_an : Ann := (.seq (.leaf [0]) (.seq (.draw [] [0, 1, 2, 3, 4, 5, 6, 7, 8, 9, 10, 11, 12, 13, 14, 15, 16, 17, 18] [] [2]) (.leaf [2])))

noncomputable def impl_stackMachine_ended_ctx : Ctx := ⟨tlook tys, olook [], ioF, 3, false, []⟩

theorem impl_stackMachine_ended_n1_l (x1436 : Int) (x1437 : Int) (x1438 : List Int) (x1439 : List Int) : Link impl_stackMachine_ended_ctx LL (bodyOf Try.f34) impl_stackMachine_ended_an (⟨mkE 21 0 [(0, .ptr 0 0)], [some (.box [.slc 1, .slc 2, .dat (.int .i64) x1436, .dat (.int .i64) x1437]), some (.seq (.int .i64) x1438), some (.seq (.int .i64) x1439)]⟩ : St) (impl_stackMachine_ended_n1 x1436 x1438 x1439) (fun (t : Bool) => (Exit.ret, (⟨mkE 21 0 [(2, .dat .bool t)], [some (.box [.slc 1, .slc 2, .dat (.int .i64) x1436, .dat (.int .i64) x1437]), some (.seq (.int .i64) x1438), some (.seq (.int .i64) x1439)]⟩ : St))) := by
  refine Link.of fun K h => ?_
  simp only [impl_stackMachine_ended_n1, wpO_bind, wpO_cond, wpO_map, wpO_some] at h
  exact Awp.of (by kernel_rfl) h

theorem impl_stackMachine_ended_e (x1436 : Int) (x1437 : Int) (x1438 : List Int) (x1439 : List Int) {r : AV} {H' : Heap} (h : (Ans.mk _ (impl_stackMachine_ended x1436 x1437 x1438 x1439) (fun (t : Bool) => (.dat .bool t, [some (.box [.slc 1, .slc 2, .dat (.int .i64) x1436, .dat (.int .i64) x1437]), some (.seq (.int .i64) x1438), some (.seq (.int .i64) x1439)])) [] none).run = some (r, H')) : Awp impl_stackMachine_ended_ctx LL (bodyOf Try.f34) impl_stackMachine_ended_an (⟨mkE 21 0 [(0, .ptr 0 0)], [some (.box [.slc 1, .slc 2, .dat (.int .i64) x1436, .dat (.int .i64) x1437]), some (.seq (.int .i64) x1438), some (.seq (.int .i64) x1439)]⟩ : St) (Ret (tlook tys) Try.f34.results.toList r H') :=
  ret_of' (impl_stackMachine_ended_n1_l x1436 x1437 x1438 x1439) (by unfold impl_stackMachine_ended; kernel_rfl) (by
  intro t
  exact ret_mk [.dat .bool t] (by kernel_rfl) (by kernel_rfl) (by kernel_rfl) (by kernel_rfl)) h

def F_impl_stackMachine_ended : Fun := fun avs H =>
  match avs, H with
  | [.ptr 0 0], [some (.box [.slc 1, .slc 2, .dat (.int .i64) x1436, .dat (.int .i64) x1437]), some (.seq (.int .i64) x1438), some (.seq (.int .i64) x1439)] => ⟨_, impl_stackMachine_ended x1436 x1437 x1438 x1439, fun (t : Bool) => (.dat .bool t, [some (.box [.slc 1, .slc 2, .dat (.int .i64) x1436, .dat (.int .i64) x1437]), some (.seq (.int .i64) x1438), some (.seq (.int .i64) x1439)]), [], none⟩
  | _, _ => Ans.no

theorem impl_stackMachine_ended_sound : Sound Try.prog 34 F_impl_stackMachine_ended := by
  refine fn_sound' (C := impl_stackMachine_ended_ctx) (c := bodyOf Try.f34) (cok_of tys_ok (by simp) (by simp) (by kernel_rfl)) Try.func34 (by kernel_rfl) LL impl_stackMachine_ended_an ?_
  intro avs H r H' h
  unfold F_impl_stackMachine_ended at h
  split at h
  · refine Awp.cast ?_ ?_ ?_ (impl_stackMachine_ended_e _ _ _ _ h) <;> kernel_rfl
  · simp [Ans.no, Ans.run] at h


/-! loop.example/headtrees/impl.afterMoves -/

def impl_afterMoves_an : Ann := (.seq (.leaf [0, 1]) (.seq (.seq (.leaf [0, 1, 12]) (.cond (.seq (.leaf [4, 5]) (.leaf [4, 5])) (.leaf [0, 1]))) (.seq (.leaf [1, 6]) (.seq (.seq (.leaf [6, 24]) (.cond (.seq (.leaf [4, 5]) (.leaf [4, 5])) (.leaf [6]))) (.seq (.leaf [4, 5]) (.leaf [4, 5]))))))

noncomputable def impl_afterMoves_ctx : Ctx := ⟨tlook tys, olook [(31, F_impl_newStackMachine), (33, F_impl_stackMoves), (32, F_impl_allDone_impl_stackMachine), (34, F_impl_stackMachine_ended)], ioF, 0, false, []⟩

theorem impl_afterMoves_n1_l (x911 : Int) (x912 : ByteArray) : Link impl_afterMoves_ctx LL (bodyOf Try.f19) impl_afterMoves_an (⟨mkE 26 0 [(0, .dat (.int .i64) x911), (1, .dat .str x912)], []⟩ : St) (impl_afterMoves_n1 x911 x912) (Sum.elim (fun (t : Int × Int × (List Int) × (List Int)) => (Exit.ret, (⟨mkE 26 0 [(4, .ptr 0 0), (5, .dat .bool true)], [some (.box [.slc 1, .slc 2, .dat (.int .i64) t.1, .dat (.int .i64) t.2.1]), some (.seq (.int .i64) t.2.2.1), some (.seq (.int .i64) t.2.2.2)]⟩ : St))) (fun (t : Unit) => (Exit.ret, (⟨mkE 26 0 [(4, .raw (.pointer none)), (5, .dat .bool false)], []⟩ : St)))) := by
  refine Link.of fun K h => ?_
  simp only [impl_afterMoves_n1, wpO_bind, wpO_cond, wpO_map, wpO_some] at h
  exact Awp.of (by kernel_rfl) h

theorem impl_afterMoves_e (x911 : Int) (x912 : ByteArray) {r : AV} {H' : Heap} (h : (Ans.mk _ (impl_afterMoves x911 x912) (fun (t : Bool × Int × Int × (List Int) × (List Int)) => (.tup [.ptr 0 0, .dat .bool true], [some (.box [.slc 1, .slc 2, .dat (.int .i64) t.2.1, .dat (.int .i64) t.2.2.1]), some (.seq (.int .i64) t.2.2.2.1), some (.seq (.int .i64) t.2.2.2.2)])) [] (some (fun (t : Bool × Int × Int × (List Int) × (List Int)) => t.1, fun (t : Bool × Int × Int × (List Int) × (List Int)) => (.tup [.raw (.pointer none), .dat .bool false], [])))).run = some (r, H')) : Awp impl_afterMoves_ctx LL (bodyOf Try.f19) impl_afterMoves_an (⟨mkE 26 0 [(0, .dat (.int .i64) x911), (1, .dat .str x912)], []⟩ : St) (Ret (tlook tys) Try.f19.results.toList r H') :=
  ret_of2 (impl_afterMoves_n1_l x911 x912) (Sum.elim (fun (t : Int × Int × (List Int) × (List Int)) => (true, t.1, t.2.1, t.2.2.1, t.2.2.2)) (fun (t : Unit) => (false, 0, 0, [], []))) (by unfold impl_afterMoves; kernel_rfl) (by
  rintro (t | t)
  · exact ret_mk [.ptr 0 0, .dat .bool true] (by kernel_rfl) (by kernel_rfl) (by kernel_rfl) (by kernel_rfl)
  · exact ret_mk [.raw (.pointer none), .dat .bool false] (by kernel_rfl) (by kernel_rfl) (by kernel_rfl) (by kernel_rfl)) h

def F_impl_afterMoves : Fun := fun avs H =>
  match avs, H with
  | [.dat (.int .i64) x911, .dat .str x912], [] => ⟨_, impl_afterMoves x911 x912, fun (t : Bool × Int × Int × (List Int) × (List Int)) => (.tup [.ptr 0 0, .dat .bool true], [some (.box [.slc 1, .slc 2, .dat (.int .i64) t.2.1, .dat (.int .i64) t.2.2.1]), some (.seq (.int .i64) t.2.2.2.1), some (.seq (.int .i64) t.2.2.2.2)]), [], (some (fun (t : Bool × Int × Int × (List Int) × (List Int)) => t.1, fun (t : Bool × Int × Int × (List Int) × (List Int)) => (.tup [.raw (.pointer none), .dat .bool false], [])))⟩
  | _, _ => Ans.no

theorem impl_afterMoves_sound : Sound Try.prog 19 F_impl_afterMoves := by
  refine fn_sound' (C := impl_afterMoves_ctx) (c := bodyOf Try.f19) (cok_of tys_ok (List.forall_mem_cons.2 ⟨impl_newStackMachine_sound, List.forall_mem_cons.2 ⟨impl_stackMoves_sound, List.forall_mem_cons.2 ⟨impl_allDone_impl_stackMachine_sound, List.forall_mem_cons.2 ⟨impl_stackMachine_ended_sound, by simp⟩⟩⟩⟩) (List.forall_mem_cons.2 ⟨Try.call31, List.forall_mem_cons.2 ⟨Try.call33, List.forall_mem_cons.2 ⟨Try.call32, List.forall_mem_cons.2 ⟨Try.call34, by simp⟩⟩⟩⟩) (by kernel_rfl)) Try.func19 (by kernel_rfl) LL impl_afterMoves_an ?_
  intro avs H r H' h
  unfold F_impl_afterMoves at h
  split at h
  · refine Awp.cast ?_ ?_ ?_ (impl_afterMoves_e _ _ h) <;> kernel_rfl
  · simp [Ans.no, Ans.run] at h


/-! loop.example/headtrees/spec.l1In -/

def spec_l1In_an : Ann := (.seq (.leaf [0, 1, 2]) (.seq (.leaf [6]) (.leaf [6])))

noncomputable def spec_l1In_ctx : Ctx := ⟨tlook tys, olook [], ioF, 0, false, []⟩

theorem spec_l1In_n1_l (x1559 : Int) (x1560 : Int) (x1561 : Int) : Link spec_l1In_ctx LL (bodyOf Try.f21) spec_l1In_an (⟨mkE 15 0 [(0, .dat (.int .i64) x1559), (1, .dat (.int .i64) x1560), (2, .dat (.int .i64) x1561)], []⟩ : St) (spec_l1In_n1 x1559 x1560 x1561) (fun (t : Bool) => (Exit.ret, (⟨mkE 15 0 [(6, .dat .bool t)], []⟩ : St))) := by
  refine Link.of fun K h => ?_
  simp only [spec_l1In_n1, wpO_bind, wpO_cond, wpO_map, wpO_some] at h
  exact Awp.of (by kernel_rfl) h

theorem spec_l1In_e (x1559 : Int) (x1560 : Int) (x1561 : Int) {r : AV} {H' : Heap} (h : (Ans.mk _ (spec_l1In x1559 x1560 x1561) (fun (t : Bool) => (.dat .bool t, [])) [] none).run = some (r, H')) : Awp spec_l1In_ctx LL (bodyOf Try.f21) spec_l1In_an (⟨mkE 15 0 [(0, .dat (.int .i64) x1559), (1, .dat (.int .i64) x1560), (2, .dat (.int .i64) x1561)], []⟩ : St) (Ret (tlook tys) Try.f21.results.toList r H') :=
  ret_of' (spec_l1In_n1_l x1559 x1560 x1561) (by unfold spec_l1In; kernel_rfl) (by
  intro t
  exact ret_mk [.dat .bool t] (by kernel_rfl) (by kernel_rfl) (by kernel_rfl) (by kernel_rfl)) h

def F_spec_l1In : Fun := fun avs H =>
  match avs, H with
  | [.dat (.int .i64) x1559, .dat (.int .i64) x1560, .dat (.int .i64) x1561], [] => ⟨_, spec_l1In x1559 x1560 x1561, fun (t : Bool) => (.dat .bool t, []), [], none⟩
  | _, _ => Ans.no

theorem spec_l1In_sound : Sound Try.prog 21 F_spec_l1In := by
  refine fn_sound' (C := spec_l1In_ctx) (c := bodyOf Try.f21) (cok_of tys_ok (by simp) (by simp) (by kernel_rfl)) Try.func21 (by kernel_rfl) LL spec_l1In_an ?_
  intro avs H r H' h
  unfold F_spec_l1In at h
  split at h
  · refine Awp.cast ?_ ?_ ?_ (spec_l1In_e _ _ _ h) <;> kernel_rfl
  · simp [Ans.no, Ans.run] at h


/-! loop.example/headtrees/spec.l6Run -/

def spec_l6Run_an : Ann := (.seq (.leaf [0, 1]) (.seq (.leaf [0, 1, 6]) (.seq (.leaf [0, 1, 6, 7]) (.seq (.leaf [0, 1, 6, 7, 8]) (.seq (.seq (.leaf [0, 1, 6, 7, 8, 9]) (.block (.loop (.seq (.seq (.leaf [0, 1, 6, 7, 8, 9, 17]) (.cond (.leaf [0, 1, 6, 7, 8, 9]) (.leaf [0, 6, 7, 8]))) (.seq (.block (.seq (.leaf [0, 1, 6, 7, 8, 9, 10]) (.block (.seq (.leaf [0, 1, 6, 7, 8, 9, 10, 24]) (.cond (.seq (.leaf [0, 1, 6, 7, 8, 9]) (.leaf [0, 1, 6, 7, 8, 9])) (.seq (.leaf [0, 1, 6, 7, 8, 9, 10, 40]) (.cond (.seq (.draw [] [0, 1, 2, 3, 4, 5, 6, 7, 8, 9, 10, 11, 12] [] [0, 1, 6, 7, 8, 9, 10]) (.draw [5, 0, 10] [0, 1, 2, 3, 4, 6, 7, 8, 9, 10, 5, 11, 12] [] [0, 1, 6, 7, 8, 9])) (.seq (.leaf [0, 1, 6, 7, 8, 9, 10, 73]) (.cond (.seq (.draw [] [0, 1, 2, 3, 4, 5, 6, 7, 8, 9, 10, 11, 12] [] [0, 1, 6, 7, 8, 9, 10]) (.leaf [0, 1, 6, 7, 8, 9])) (.seq (.leaf [4, 5]) (.leaf [4, 5]))))))))))) (.leaf [0, 1, 6, 7, 8, 9])))))) (.seq (.leaf [4, 5]) (.leaf [4, 5])))))))

noncomputable def spec_l6Run_ctx : Ctx := ⟨tlook tys, olook [], ioF, 0, false, []⟩

theorem spec_l6Run_n1_l (x1571 : Int) (x1572 : ByteArray) : Link spec_l6Run_ctx LL (Code.seq (Code.fst (bodyOf Try.f22)) (Code.seq (Code.fst (Code.snd (bodyOf Try.f22))) (Code.seq (Code.fst (Code.snd (Code.snd (bodyOf Try.f22)))) (Code.fst (Code.snd (Code.snd (Code.snd (bodyOf Try.f22)))))))) (Ann.seq (Ann.fst spec_l6Run_an) (Ann.seq (Ann.fst (Ann.snd spec_l6Run_an)) (Ann.seq (Ann.fst (Ann.snd (Ann.snd spec_l6Run_an))) (Ann.fst (Ann.snd (Ann.snd (Ann.snd spec_l6Run_an))))))) (⟨mkE 108 0 [(0, .dat (.int .i64) x1571), (1, .dat .str x1572)], []⟩ : St) (spec_l6Run_n1 x1571) (fun (t : (List Int)) => (Exit.normal, (⟨mkE 108 0 [(0, .dat (.int .i64) x1571), (1, .dat .str x1572), (6, .slc 0), (7, .slc 1), (8, .dat (.int .i64) 1)], [some (.seq (.int .i64) t), some (.seq (.int .i64) ([] : List Int))]⟩ : St))) := by
  refine Link.of fun K h => ?_
  simp only [spec_l6Run_n1, wpO_bind, wpO_cond, wpO_map, wpO_some] at h
  exact Awp.of (by kernel_rfl) h

theorem spec_l6Run_n2_l (x1571 : Int) (x1572 : ByteArray) (x1646 : List Int) : Link spec_l6Run_ctx LL (Code.fst (Code.fst (Code.snd (Code.snd (Code.snd (Code.snd (bodyOf Try.f22))))))) (Ann.fst (Ann.fst (Ann.snd (Ann.snd (Ann.snd (Ann.snd spec_l6Run_an)))))) (⟨mkE 108 0 [(0, .dat (.int .i64) x1571), (1, .dat .str x1572), (6, .slc 0), (7, .slc 1), (8, .dat (.int .i64) 1)], [some (.seq (.int .i64) x1646), some (.seq (.int .i64) ([] : List Int))]⟩ : St) (spec_l6Run_n2) (fun (t : Unit) => (Exit.normal, (⟨mkE 108 0 [(0, .dat (.int .i64) x1571), (1, .dat .str x1572), (6, .slc 0), (7, .slc 1), (8, .dat (.int .i64) 1), (9, .dat (.int .i64) 0)], [some (.seq (.int .i64) x1646), some (.seq (.int .i64) ([] : List Int))]⟩ : St))) := by
  refine Link.of fun K h => ?_
  simp only [spec_l6Run_n2, wpO_bind, wpO_cond, wpO_map, wpO_some] at h
  exact Awp.of (by kernel_rfl) h

theorem spec_l6Run_n3_l (x1571 : Int) (x1572 : ByteArray) (x2362 : Int) (x2363 : Int) (x2364 : List Int) (x2365 : List Int) : Link spec_l6Run_ctx LL (Code.fst (Code.fst (Code.fst (Code.snd (Code.fst (Code.snd (Code.snd (Code.snd (Code.snd (bodyOf Try.f22)))))))))) (Ann.fst (Ann.fst (Ann.fst (Ann.snd (Ann.fst (Ann.snd (Ann.snd (Ann.snd (Ann.snd spec_l6Run_an))))))))) (⟨mkE 108 0 [(0, .dat (.int .i64) x1571), (1, .dat .str x1572), (6, .slc 0), (7, .slc 1), (8, .dat (.int .i64) x2362), (9, .dat (.int .i64) x2363)], [some (.seq (.int .i64) x2364), some (.seq (.int .i64) x2365)]⟩ : St) (spec_l6Run_n3 x1572 x2362 x2363 x2364 x2365) (Sum.elim (fun (t : Unit) => (Exit.normal, (⟨mkE 108 0 [(0, .dat (.int .i64) x1571), (1, .dat .str x1572), (6, .slc 0), (7, .slc 1), (8, .dat (.int .i64) x2362), (9, .dat (.int .i64) x2363)], [some (.seq (.int .i64) x2364), some (.seq (.int .i64) x2365)]⟩ : St))) (fun (t : Int × (List Int) × (List Int)) => ((Exit.exit 0), (⟨mkE 108 0 [(0, .dat (.int .i64) x1571), (6, .slc 0), (7, .slc 1), (8, .dat (.int .i64) t.1)], [some (.seq (.int .i64) t.2.1), some (.seq (.int .i64) t.2.2)]⟩ : St)))) := by
  refine Link.of fun K h => ?_
  simp only [spec_l6Run_n3, wpO_bind, wpO_cond, wpO_map, wpO_some] at h
  exact Awp.of (by kernel_rfl) h

theorem spec_l6Run_n4_l (x1571 : Int) (x1572 : ByteArray) (x2362 : Int) (x2363 : Int) (x2364 : List Int) (x2365 : List Int) : Link spec_l6Run_ctx LL (Code.fst (Code.fst (Code.fst (Code.snd (Code.fst (Code.fst (Code.snd (Code.fst (Code.snd (Code.snd (Code.snd (Code.snd (bodyOf Try.f22))))))))))))) (Ann.fst (Ann.fst (Ann.fst (Ann.snd (Ann.fst (Ann.fst (Ann.snd (Ann.fst (Ann.snd (Ann.snd (Ann.snd (Ann.snd spec_l6Run_an)))))))))))) (⟨mkE 108 0 [(0, .dat (.int .i64) x1571), (1, .dat .str x1572), (6, .slc 0), (7, .slc 1), (8, .dat (.int .i64) x2362), (9, .dat (.int .i64) x2363)], [some (.seq (.int .i64) x2364), some (.seq (.int .i64) x2365)]⟩ : St) (spec_l6Run_n4 x2365) (fun (t : Int) => (Exit.normal, (⟨mkE 108 0 [(0, .dat (.int .i64) x1571), (1, .dat .str x1572), (6, .slc 0), (7, .slc 1), (8, .dat (.int .i64) x2362), (9, .dat (.int .i64) x2363), (10, .dat (.int .i64) t)], [some (.seq (.int .i64) x2364), some (.seq (.int .i64) x2365)]⟩ : St))) := by
  refine Link.of fun K h => ?_
  simp only [spec_l6Run_n4, wpO_bind, wpO_cond, wpO_map, wpO_some] at h
  exact Awp.of (by kernel_rfl) h

theorem spec_l6Run_n5_l (x1571 : Int) (x1572 : ByteArray) (x2362 : Int) (x2363 : Int) (x2627 : Int) (x2364 : List Int) (x2365 : List Int) : Link spec_l6Run_ctx LL (Code.fst (Code.fst (Code.snd (Code.fst (Code.fst (Code.snd (Code.fst (Code.fst (Code.snd (Code.fst (Code.snd (Code.snd (Code.snd (Code.snd (bodyOf Try.f22))))))))))))))) (Ann.fst (Ann.fst (Ann.snd (Ann.fst (Ann.fst (Ann.snd (Ann.fst (Ann.fst (Ann.snd (Ann.fst (Ann.snd (Ann.snd (Ann.snd (Ann.snd spec_l6Run_an)))))))))))))) (⟨mkE 108 0 [(0, .dat (.int .i64) x1571), (1, .dat .str x1572), (6, .slc 0), (7, .slc 1), (8, .dat (.int .i64) x2362), (9, .dat (.int .i64) x2363), (10, .dat (.int .i64) x2627)], [some (.seq (.int .i64) x2364), some (.seq (.int .i64) x2365)]⟩ : St) (spec_l6Run_n5 x1571 x1572 x2362 x2363) (fun (t : Bool) => (Exit.normal, (⟨mkE 108 0 [(0, .dat (.int .i64) x1571), (1, .dat .str x1572), (6, .slc 0), (7, .slc 1), (8, .dat (.int .i64) x2362), (9, .dat (.int .i64) x2363), (10, .dat (.int .i64) x2627), (24, .dat .bool t)], [some (.seq (.int .i64) x2364), some (.seq (.int .i64) x2365)]⟩ : St))) := by
  refine Link.of fun K h => ?_
  simp only [spec_l6Run_n5, wpO_bind, wpO_cond, wpO_map, wpO_some] at h
  exact Awp.of (by kernel_rfl) h

theorem spec_l6Run_n6_l (x1571 : Int) (x1572 : ByteArray) (x2362 : Int) (x2363 : Int) (x2627 : Int) (x3011 : Bool) (x2364 : List Int) (x2365 : List Int) : Link spec_l6Run_ctx LL (Code.snd (Code.fst (Code.snd (Code.fst (Code.fst (Code.snd (Code.fst (Code.fst (Code.snd (Code.fst (Code.snd (Code.snd (Code.snd (Code.snd (bodyOf Try.f22))))))))))))))) (Ann.snd (Ann.fst (Ann.snd (Ann.fst (Ann.fst (Ann.snd (Ann.fst (Ann.fst (Ann.snd (Ann.fst (Ann.snd (Ann.snd (Ann.snd (Ann.snd spec_l6Run_an)))))))))))))) (⟨mkE 108 0 [(0, .dat (.int .i64) x1571), (1, .dat .str x1572), (6, .slc 0), (7, .slc 1), (8, .dat (.int .i64) x2362), (9, .dat (.int .i64) x2363), (10, .dat (.int .i64) x2627), (24, .dat .bool x3011)], [some (.seq (.int .i64) x2364), some (.seq (.int .i64) x2365)]⟩ : St) (spec_l6Run_n6 x1572 x2362 x2363 x2627 x3011 x2364 x2365) (Sum.elim (fun (t : Int × (List Int) × (List Int)) => (Exit.normal, (⟨mkE 108 0 [(0, .dat (.int .i64) x1571), (1, .dat .str x1572), (6, .slc 0), (7, .slc 1), (8, .dat (.int .i64) t.1), (9, .dat (.int .i64) x2363)], [some (.seq (.int .i64) t.2.1), some (.seq (.int .i64) t.2.2)]⟩ : St))) (fun (t : Bool × (List Int)) => (Exit.ret, (⟨mkE 108 0 [(4, .slc 0), (5, .dat .bool t.1)], [some (.seq (.int .i64) t.2)]⟩ : St)))) := by
  refine Link.of fun K h => ?_
  simp only [spec_l6Run_n6, wpO_bind, wpO_cond, wpO_map, wpO_some] at h
  exact Awp.of (by kernel_rfl) h

theorem spec_l6Run_n7_l (x1571 : Int) (x1572 : ByteArray) (x2362 : Int) (x2363 : Int) (x2627 : Int) (x2364 : List Int) (x2365 : List Int) : Link spec_l6Run_ctx LL (Code.fst (Code.snd (Code.fst (Code.fst (Code.snd (Code.fst (Code.fst (Code.snd (Code.fst (Code.snd (Code.snd (Code.snd (Code.snd (bodyOf Try.f22)))))))))))))) (Ann.fst (Ann.snd (Ann.fst (Ann.fst (Ann.snd (Ann.fst (Ann.fst (Ann.snd (Ann.fst (Ann.snd (Ann.snd (Ann.snd (Ann.snd spec_l6Run_an))))))))))))) (⟨mkE 108 0 [(0, .dat (.int .i64) x1571), (1, .dat .str x1572), (6, .slc 0), (7, .slc 1), (8, .dat (.int .i64) x2362), (9, .dat (.int .i64) x2363), (10, .dat (.int .i64) x2627)], [some (.seq (.int .i64) x2364), some (.seq (.int .i64) x2365)]⟩ : St) (spec_l6Run_n7 x1571 x1572 x2362 x2363 x2627 x2364 x2365) (Sum.elim (fun (t : Int × (List Int) × (List Int)) => (Exit.normal, (⟨mkE 108 0 [(0, .dat (.int .i64) x1571), (1, .dat .str x1572), (6, .slc 0), (7, .slc 1), (8, .dat (.int .i64) t.1), (9, .dat (.int .i64) x2363)], [some (.seq (.int .i64) t.2.1), some (.seq (.int .i64) t.2.2)]⟩ : St))) (fun (t : Bool × (List Int)) => (Exit.ret, (⟨mkE 108 0 [(4, .slc 0), (5, .dat .bool t.1)], [some (.seq (.int .i64) t.2)]⟩ : St)))) := by
  unfold spec_l6Run_n7
  exact Link.cast (by kernel_rfl) (by kernel_rfl) (link_seq (b := (Code.snd (Code.fst (Code.snd (Code.fst (Code.fst (Code.snd (Code.fst (Code.fst (Code.snd (Code.fst (Code.snd (Code.snd (Code.snd (Code.snd (bodyOf Try.f22)))))))))))))))) (y := (Ann.snd (Ann.fst (Ann.snd (Ann.fst (Ann.fst (Ann.snd (Ann.fst (Ann.fst (Ann.snd (Ann.fst (Ann.snd (Ann.snd (Ann.snd (Ann.snd spec_l6Run_an))))))))))))))) (spec_l6Run_n5_l x1571 x1572 x2362 x2363 x2627 x2364 x2365) (fun (t : Bool) => (spec_l6Run_n6_l x1571 x1572 x2362 x2363 x2627 t x2364 x2365)))

theorem spec_l6Run_n8_l (x1571 : Int) (x1572 : ByteArray) (x2362 : Int) (x2363 : Int) (x2627 : Int) (x2364 : List Int) (x2365 : List Int) : Link spec_l6Run_ctx LL (Code.snd (Code.fst (Code.fst (Code.snd (Code.fst (Code.fst (Code.snd (Code.fst (Code.snd (Code.snd (Code.snd (Code.snd (bodyOf Try.f22))))))))))))) (Ann.snd (Ann.fst (Ann.fst (Ann.snd (Ann.fst (Ann.fst (Ann.snd (Ann.fst (Ann.snd (Ann.snd (Ann.snd (Ann.snd spec_l6Run_an)))))))))))) (⟨mkE 108 0 [(0, .dat (.int .i64) x1571), (1, .dat .str x1572), (6, .slc 0), (7, .slc 1), (8, .dat (.int .i64) x2362), (9, .dat (.int .i64) x2363), (10, .dat (.int .i64) x2627)], [some (.seq (.int .i64) x2364), some (.seq (.int .i64) x2365)]⟩ : St) (spec_l6Run_n8 x1571 x1572 x2362 x2363 x2627 x2364 x2365) (Sum.elim (fun (t : Int × (List Int) × (List Int)) => (Exit.normal, (⟨mkE 108 0 [(0, .dat (.int .i64) x1571), (1, .dat .str x1572), (6, .slc 0), (7, .slc 1), (8, .dat (.int .i64) t.1), (9, .dat (.int .i64) x2363)], [some (.seq (.int .i64) t.2.1), some (.seq (.int .i64) t.2.2)]⟩ : St))) (fun (t : Bool × (List Int)) => (Exit.ret, (⟨mkE 108 0 [(4, .slc 0), (5, .dat .bool t.1)], [some (.seq (.int .i64) t.2)]⟩ : St)))) := by
  unfold spec_l6Run_n8
  exact Link.cast (by kernel_rfl) (by kernel_rfl) (link_block (id := 2) (spec_l6Run_n7_l x1571 x1572 x2362 x2363 x2627 x2364 x2365) (Sum.elim (fun (t : Int × (List Int) × (List Int)) => (Sum.inl (t.1, t.2.1, t.2.2))) (fun (t : Bool × (List Int)) => (Sum.inr t))) (by
  rintro (t | t) K h
  · exact Eq.mp (by kernel_rfl) h
  · exact Eq.mp (by kernel_rfl) h))

theorem spec_l6Run_n9_l (x1571 : Int) (x1572 : ByteArray) (x2362 : Int) (x2363 : Int) (x2364 : List Int) (x2365 : List Int) : Link spec_l6Run_ctx LL (Code.fst (Code.fst (Code.snd (Code.fst (Code.fst (Code.snd (Code.fst (Code.snd (Code.snd (Code.snd (Code.snd (bodyOf Try.f22)))))))))))) (Ann.fst (Ann.fst (Ann.snd (Ann.fst (Ann.fst (Ann.snd (Ann.fst (Ann.snd (Ann.snd (Ann.snd (Ann.snd spec_l6Run_an))))))))))) (⟨mkE 108 0 [(0, .dat (.int .i64) x1571), (1, .dat .str x1572), (6, .slc 0), (7, .slc 1), (8, .dat (.int .i64) x2362), (9, .dat (.int .i64) x2363)], [some (.seq (.int .i64) x2364), some (.seq (.int .i64) x2365)]⟩ : St) (spec_l6Run_n9 x1571 x1572 x2362 x2363 x2364 x2365) (Sum.elim (fun (t : Int × (List Int) × (List Int)) => (Exit.normal, (⟨mkE 108 0 [(0, .dat (.int .i64) x1571), (1, .dat .str x1572), (6, .slc 0), (7, .slc 1), (8, .dat (.int .i64) t.1), (9, .dat (.int .i64) x2363)], [some (.seq (.int .i64) t.2.1), some (.seq (.int .i64) t.2.2)]⟩ : St))) (fun (t : Bool × (List Int)) => (Exit.ret, (⟨mkE 108 0 [(4, .slc 0), (5, .dat .bool t.1)], [some (.seq (.int .i64) t.2)]⟩ : St)))) := by
  unfold spec_l6Run_n9
  exact Link.cast (by kernel_rfl) (by kernel_rfl) (link_seq (b := (Code.snd (Code.fst (Code.fst (Code.snd (Code.fst (Code.fst (Code.snd (Code.fst (Code.snd (Code.snd (Code.snd (Code.snd (bodyOf Try.f22)))))))))))))) (y := (Ann.snd (Ann.fst (Ann.fst (Ann.snd (Ann.fst (Ann.fst (Ann.snd (Ann.fst (Ann.snd (Ann.snd (Ann.snd (Ann.snd spec_l6Run_an))))))))))))) (spec_l6Run_n4_l x1571 x1572 x2362 x2363 x2364 x2365) (fun (t : Int) => (spec_l6Run_n8_l x1571 x1572 x2362 x2363 t x2364 x2365)))

theorem spec_l6Run_n10_l (x1571 : Int) (x1572 : ByteArray) (x2362 : Int) (x2363 : Int) (x2364 : List Int) (x2365 : List Int) : Link spec_l6Run_ctx LL (Code.fst (Code.snd (Code.fst (Code.fst (Code.snd (Code.fst (Code.snd (Code.snd (Code.snd (Code.snd (bodyOf Try.f22))))))))))) (Ann.fst (Ann.snd (Ann.fst (Ann.fst (Ann.snd (Ann.fst (Ann.snd (Ann.snd (Ann.snd (Ann.snd spec_l6Run_an)))))))))) (⟨mkE 108 0 [(0, .dat (.int .i64) x1571), (1, .dat .str x1572), (6, .slc 0), (7, .slc 1), (8, .dat (.int .i64) x2362), (9, .dat (.int .i64) x2363)], [some (.seq (.int .i64) x2364), some (.seq (.int .i64) x2365)]⟩ : St) (spec_l6Run_n10 x1571 x1572 x2362 x2363 x2364 x2365) (Sum.elim (fun (t : Int × (List Int) × (List Int)) => (Exit.normal, (⟨mkE 108 0 [(0, .dat (.int .i64) x1571), (1, .dat .str x1572), (6, .slc 0), (7, .slc 1), (8, .dat (.int .i64) t.1), (9, .dat (.int .i64) x2363)], [some (.seq (.int .i64) t.2.1), some (.seq (.int .i64) t.2.2)]⟩ : St))) (fun (t : Bool × (List Int)) => (Exit.ret, (⟨mkE 108 0 [(4, .slc 0), (5, .dat .bool t.1)], [some (.seq (.int .i64) t.2)]⟩ : St)))) := by
  unfold spec_l6Run_n10
  exact Link.cast (by kernel_rfl) (by kernel_rfl) (link_block (id := 1) (spec_l6Run_n9_l x1571 x1572 x2362 x2363 x2364 x2365) (Sum.elim (fun (t : Int × (List Int) × (List Int)) => (Sum.inl (t.1, t.2.1, t.2.2))) (fun (t : Bool × (List Int)) => (Sum.inr t))) (by
  rintro (t | t) K h
  · exact Eq.mp (by kernel_rfl) h
  · exact Eq.mp (by kernel_rfl) h))

theorem spec_l6Run_n11_l (x1571 : Int) (x1572 : ByteArray) (x3076 : Int) (x2363 : Int) (x3077 : List Int) (x3078 : List Int) : Link spec_l6Run_ctx LL (Code.snd (Code.snd (Code.fst (Code.fst (Code.snd (Code.fst (Code.snd (Code.snd (Code.snd (Code.snd (bodyOf Try.f22))))))))))) (Ann.snd (Ann.snd (Ann.fst (Ann.fst (Ann.snd (Ann.fst (Ann.snd (Ann.snd (Ann.snd (Ann.snd spec_l6Run_an)))))))))) (⟨mkE 108 0 [(0, .dat (.int .i64) x1571), (1, .dat .str x1572), (6, .slc 0), (7, .slc 1), (8, .dat (.int .i64) x3076), (9, .dat (.int .i64) x2363)], [some (.seq (.int .i64) x3077), some (.seq (.int .i64) x3078)]⟩ : St) (spec_l6Run_n11 x2363) (fun (t : Int) => (Exit.normal, (⟨mkE 108 0 [(0, .dat (.int .i64) x1571), (1, .dat .str x1572), (6, .slc 0), (7, .slc 1), (8, .dat (.int .i64) x3076), (9, .dat (.int .i64) t)], [some (.seq (.int .i64) x3077), some (.seq (.int .i64) x3078)]⟩ : St))) := by
  refine Link.of fun K h => ?_
  simp only [spec_l6Run_n11, wpO_bind, wpO_cond, wpO_map, wpO_some] at h
  exact Awp.of (by kernel_rfl) h

theorem spec_l6Run_n12_l (x1571 : Int) (x1572 : ByteArray) (x2362 : Int) (x2363 : Int) (x2364 : List Int) (x2365 : List Int) : Link spec_l6Run_ctx LL (Code.snd (Code.fst (Code.fst (Code.snd (Code.fst (Code.snd (Code.snd (Code.snd (Code.snd (bodyOf Try.f22)))))))))) (Ann.snd (Ann.fst (Ann.fst (Ann.snd (Ann.fst (Ann.snd (Ann.snd (Ann.snd (Ann.snd spec_l6Run_an))))))))) (⟨mkE 108 0 [(0, .dat (.int .i64) x1571), (1, .dat .str x1572), (6, .slc 0), (7, .slc 1), (8, .dat (.int .i64) x2362), (9, .dat (.int .i64) x2363)], [some (.seq (.int .i64) x2364), some (.seq (.int .i64) x2365)]⟩ : St) (spec_l6Run_n12 x1571 x1572 x2362 x2363 x2364 x2365) (Sum.elim (fun (t : Int × Int × (List Int) × (List Int)) => (Exit.normal, (⟨mkE 108 0 [(0, .dat (.int .i64) x1571), (1, .dat .str x1572), (6, .slc 0), (7, .slc 1), (8, .dat (.int .i64) t.1), (9, .dat (.int .i64) t.2.1)], [some (.seq (.int .i64) t.2.2.1), some (.seq (.int .i64) t.2.2.2)]⟩ : St))) (fun (t : Bool × (List Int)) => (Exit.ret, (⟨mkE 108 0 [(4, .slc 0), (5, .dat .bool t.1)], [some (.seq (.int .i64) t.2)]⟩ : St)))) := by
  unfold spec_l6Run_n12
  exact Link.cast (by kernel_rfl) (by kernel_rfl) (link_seq2 (b := (Code.snd (Code.snd (Code.fst (Code.fst (Code.snd (Code.fst (Code.snd (Code.snd (Code.snd (Code.snd (bodyOf Try.f22)))))))))))) (y := (Ann.snd (Ann.snd (Ann.fst (Ann.fst (Ann.snd (Ann.fst (Ann.snd (Ann.snd (Ann.snd (Ann.snd spec_l6Run_an))))))))))) (spec_l6Run_n10_l x1571 x1572 x2362 x2363 x2364 x2365) (fun (t : Int × (List Int) × (List Int)) => (link_map (spec_l6Run_n11_l x1571 x1572 t.1 x2363 t.2.1 t.2.2) (fun (u : Int) => (Sum.inl (t.1, u, t.2.1, t.2.2))) (by
  rintro t
  · kernel_rfl))) (fun (t : Bool × (List Int)) => (Sum.inr t)) (by
  rintro t
  · kernel_rfl) (by
  rintro t f K h
  · exact h))

theorem spec_l6Run_n13_l (x1571 : Int) (x1572 : ByteArray) (x2362 : Int) (x2363 : Int) (x2364 : List Int) (x2365 : List Int) : Link spec_l6Run_ctx LL (Code.fst (Code.fst (Code.snd (Code.fst (Code.snd (Code.snd (Code.snd (Code.snd (bodyOf Try.f22))))))))) (Ann.fst (Ann.fst (Ann.snd (Ann.fst (Ann.snd (Ann.snd (Ann.snd (Ann.snd spec_l6Run_an)))))))) (⟨mkE 108 0 [(0, .dat (.int .i64) x1571), (1, .dat .str x1572), (6, .slc 0), (7, .slc 1), (8, .dat (.int .i64) x2362), (9, .dat (.int .i64) x2363)], [some (.seq (.int .i64) x2364), some (.seq (.int .i64) x2365)]⟩ : St) (spec_l6Run_n13 x1571 x1572 x2362 x2363 x2364 x2365) (Sum.elim (fun (t : Int × Int × (List Int) × (List Int)) => (Exit.normal, (⟨mkE 108 0 [(0, .dat (.int .i64) x1571), (1, .dat .str x1572), (6, .slc 0), (7, .slc 1), (8, .dat (.int .i64) t.1), (9, .dat (.int .i64) t.2.1)], [some (.seq (.int .i64) t.2.2.1), some (.seq (.int .i64) t.2.2.2)]⟩ : St))) (Sum.elim (fun (t : Bool × (List Int)) => (Exit.ret, (⟨mkE 108 0 [(4, .slc 0), (5, .dat .bool t.1)], [some (.seq (.int .i64) t.2)]⟩ : St))) (fun (t : Int × (List Int) × (List Int)) => ((Exit.exit 0), (⟨mkE 108 0 [(0, .dat (.int .i64) x1571), (6, .slc 0), (7, .slc 1), (8, .dat (.int .i64) t.1)], [some (.seq (.int .i64) t.2.1), some (.seq (.int .i64) t.2.2)]⟩ : St))))) := by
  unfold spec_l6Run_n13
  exact Link.cast (by kernel_rfl) (by kernel_rfl) (link_seq2 (b := (Code.snd (Code.fst (Code.fst (Code.snd (Code.fst (Code.snd (Code.snd (Code.snd (Code.snd (bodyOf Try.f22))))))))))) (y := (Ann.snd (Ann.fst (Ann.fst (Ann.snd (Ann.fst (Ann.snd (Ann.snd (Ann.snd (Ann.snd spec_l6Run_an)))))))))) (spec_l6Run_n3_l x1571 x1572 x2362 x2363 x2364 x2365) (fun (t : Unit) => (link_map (spec_l6Run_n12_l x1571 x1572 x2362 x2363 x2364 x2365) (Sum.elim (fun (t : Int × Int × (List Int) × (List Int)) => (Sum.inl (t.1, t.2.1, t.2.2.1, t.2.2.2))) (fun (t : Bool × (List Int)) => (Sum.inr (Sum.inl t)))) (by
  rintro (t | t)
  · kernel_rfl
  · kernel_rfl))) (fun (t : Int × (List Int) × (List Int)) => (Sum.inr (Sum.inr t))) (by
  rintro t
  · kernel_rfl) (by
  rintro t f K h
  · exact h))

theorem spec_l6Run_n14_l (x1571 : Int) (x1572 : ByteArray) (x1646 : List Int) : Link spec_l6Run_ctx LL (Code.fst (Code.snd (Code.fst (Code.snd (Code.snd (Code.snd (Code.snd (bodyOf Try.f22)))))))) (Ann.fst (Ann.snd (Ann.fst (Ann.snd (Ann.snd (Ann.snd (Ann.snd spec_l6Run_an))))))) (⟨mkE 108 0 [(0, .dat (.int .i64) x1571), (1, .dat .str x1572), (6, .slc 0), (7, .slc 1), (8, .dat (.int .i64) 1), (9, .dat (.int .i64) 0)], [some (.seq (.int .i64) x1646), some (.seq (.int .i64) ([] : List Int))]⟩ : St) (spec_l6Run_n14 x1571 x1572 x1646) (Sum.elim (fun (t : Bool × (List Int)) => (Exit.ret, (⟨mkE 108 0 [(4, .slc 0), (5, .dat .bool t.1)], [some (.seq (.int .i64) t.2)]⟩ : St))) (fun (t : Int × (List Int) × (List Int)) => ((Exit.exit 0), (⟨mkE 108 0 [(0, .dat (.int .i64) x1571), (6, .slc 0), (7, .slc 1), (8, .dat (.int .i64) t.1)], [some (.seq (.int .i64) t.2.1), some (.seq (.int .i64) t.2.2)]⟩ : St)))) := by
  unfold spec_l6Run_n14
  exact Link.cast (by kernel_rfl) (by kernel_rfl) (link_loop (mk := fun (s : Int × Int × (List Int) × (List Int)) => (⟨mkE 108 0 [(0, .dat (.int .i64) x1571), (1, .dat .str x1572), (6, .slc 0), (7, .slc 1), (8, .dat (.int .i64) s.1), (9, .dat (.int .i64) s.2.1)], [some (.seq (.int .i64) s.2.2.1), some (.seq (.int .i64) s.2.2.2)]⟩ : St)) (fin := (Sum.elim (fun (t : Bool × (List Int)) => (Exit.ret, (⟨mkE 108 0 [(4, .slc 0), (5, .dat .bool t.1)], [some (.seq (.int .i64) t.2)]⟩ : St))) (fun (t : Int × (List Int) × (List Int)) => ((Exit.exit 0), (⟨mkE 108 0 [(0, .dat (.int .i64) x1571), (6, .slc 0), (7, .slc 1), (8, .dat (.int .i64) t.1)], [some (.seq (.int .i64) t.2.1), some (.seq (.int .i64) t.2.2)]⟩ : St))))) (by
  rintro (t | t) f K h
  · exact h
  · exact h) (fun s => link_map (spec_l6Run_n13_l x1571 x1572 s.1 s.2.1 s.2.2.1 s.2.2.2) (Sum.elim (fun (t : Int × Int × (List Int) × (List Int)) => Sum.inl (t.1, t.2.1, t.2.2.1, t.2.2.2)) (Sum.elim (fun (t : Bool × (List Int)) => Sum.inr (Sum.inl t)) (fun (t : Int × (List Int) × (List Int)) => Sum.inr (Sum.inr t)))) (by
  rintro (t | t | t)
  · kernel_rfl
  · kernel_rfl
  · kernel_rfl)) (1, 0, x1646, ([] : List Int)))

theorem spec_l6Run_n15_l (x1571 : Int) (x1572 : ByteArray) (x1646 : List Int) : Link spec_l6Run_ctx LL (Code.snd (Code.fst (Code.snd (Code.snd (Code.snd (Code.snd (bodyOf Try.f22))))))) (Ann.snd (Ann.fst (Ann.snd (Ann.snd (Ann.snd (Ann.snd spec_l6Run_an)))))) (⟨mkE 108 0 [(0, .dat (.int .i64) x1571), (1, .dat .str x1572), (6, .slc 0), (7, .slc 1), (8, .dat (.int .i64) 1), (9, .dat (.int .i64) 0)], [some (.seq (.int .i64) x1646), some (.seq (.int .i64) ([] : List Int))]⟩ : St) (spec_l6Run_n15 x1571 x1572 x1646) (Sum.elim (fun (t : Int × (List Int) × (List Int)) => (Exit.normal, (⟨mkE 108 0 [(0, .dat (.int .i64) x1571), (6, .slc 0), (7, .slc 1), (8, .dat (.int .i64) t.1)], [some (.seq (.int .i64) t.2.1), some (.seq (.int .i64) t.2.2)]⟩ : St))) (fun (t : Bool × (List Int)) => (Exit.ret, (⟨mkE 108 0 [(4, .slc 0), (5, .dat .bool t.1)], [some (.seq (.int .i64) t.2)]⟩ : St)))) := by
  unfold spec_l6Run_n15
  exact Link.cast (by kernel_rfl) (by kernel_rfl) (link_block (id := 0) (spec_l6Run_n14_l x1571 x1572 x1646) (Sum.elim (fun (t : Bool × (List Int)) => (Sum.inr t)) (fun (t : Int × (List Int) × (List Int)) => (Sum.inl (t.1, t.2.1, t.2.2)))) (by
  rintro (t | t) K h
  · exact Eq.mp (by kernel_rfl) h
  · exact Eq.mp (by kernel_rfl) h))

theorem spec_l6Run_n16_l (x1571 : Int) (x1572 : ByteArray) (x1646 : List Int) : Link spec_l6Run_ctx LL (Code.fst (Code.snd (Code.snd (Code.snd (Code.snd (bodyOf Try.f22)))))) (Ann.fst (Ann.snd (Ann.snd (Ann.snd (Ann.snd spec_l6Run_an))))) (⟨mkE 108 0 [(0, .dat (.int .i64) x1571), (1, .dat .str x1572), (6, .slc 0), (7, .slc 1), (8, .dat (.int .i64) 1)], [some (.seq (.int .i64) x1646), some (.seq (.int .i64) ([] : List Int))]⟩ : St) (spec_l6Run_n16 x1571 x1572 x1646) (Sum.elim (fun (t : Int × (List Int) × (List Int)) => (Exit.normal, (⟨mkE 108 0 [(0, .dat (.int .i64) x1571), (6, .slc 0), (7, .slc 1), (8, .dat (.int .i64) t.1)], [some (.seq (.int .i64) t.2.1), some (.seq (.int .i64) t.2.2)]⟩ : St))) (fun (t : Bool × (List Int)) => (Exit.ret, (⟨mkE 108 0 [(4, .slc 0), (5, .dat .bool t.1)], [some (.seq (.int .i64) t.2)]⟩ : St)))) := by
  unfold spec_l6Run_n16
  exact Link.cast (by kernel_rfl) (by kernel_rfl) (link_seq (b := (Code.snd (Code.fst (Code.snd (Code.snd (Code.snd (Code.snd (bodyOf Try.f22)))))))) (y := (Ann.snd (Ann.fst (Ann.snd (Ann.snd (Ann.snd (Ann.snd spec_l6Run_an))))))) (spec_l6Run_n2_l x1571 x1572 x1646) (fun (t : Unit) => (spec_l6Run_n15_l x1571 x1572 x1646)))

theorem spec_l6Run_n17_l (x1571 : Int) (x2362 : Int) (x2364 : List Int) (x2365 : List Int) : Link spec_l6Run_ctx LL (Code.snd (Code.snd (Code.snd (Code.snd (Code.snd (bodyOf Try.f22)))))) (Ann.snd (Ann.snd (Ann.snd (Ann.snd (Ann.snd spec_l6Run_an))))) (⟨mkE 108 0 [(0, .dat (.int .i64) x1571), (6, .slc 0), (7, .slc 1), (8, .dat (.int .i64) x2362)], [some (.seq (.int .i64) x2364), some (.seq (.int .i64) x2365)]⟩ : St) (spec_l6Run_n17 x1571 x2362 x2364 x2365) (fun (t : Bool × (List Int)) => (Exit.ret, (⟨mkE 108 0 [(4, .slc 0), (5, .dat .bool t.1)], [some (.seq (.int .i64) t.2)]⟩ : St))) := by
  refine Link.of fun K h => ?_
  simp only [spec_l6Run_n17, wpO_bind, wpO_cond, wpO_map, wpO_some] at h
  exact Awp.of (by kernel_rfl) h

theorem spec_l6Run_n18_l (x1571 : Int) (x1572 : ByteArray) (x1646 : List Int) : Link spec_l6Run_ctx LL (Code.snd (Code.snd (Code.snd (Code.snd (bodyOf Try.f22))))) (Ann.snd (Ann.snd (Ann.snd (Ann.snd spec_l6Run_an)))) (⟨mkE 108 0 [(0, .dat (.int .i64) x1571), (1, .dat .str x1572), (6, .slc 0), (7, .slc 1), (8, .dat (.int .i64) 1)], [some (.seq (.int .i64) x1646), some (.seq (.int .i64) ([] : List Int))]⟩ : St) (spec_l6Run_n18 x1571 x1572 x1646) (fun (t : Bool × (List Int)) => (Exit.ret, (⟨mkE 108 0 [(4, .slc 0), (5, .dat .bool t.1)], [some (.seq (.int .i64) t.2)]⟩ : St))) := by
  unfold spec_l6Run_n18
  exact Link.cast (by kernel_rfl) (by kernel_rfl) (link_seq2 (b := (Code.snd (Code.snd (Code.snd (Code.snd (Code.snd (bodyOf Try.f22))))))) (y := (Ann.snd (Ann.snd (Ann.snd (Ann.snd (Ann.snd spec_l6Run_an)))))) (spec_l6Run_n16_l x1571 x1572 x1646) (fun (t : Int × (List Int) × (List Int)) => (spec_l6Run_n17_l x1571 t.1 t.2.1 t.2.2)) (fun (t : Bool × (List Int)) => t) (by
  rintro t
  · kernel_rfl) (by
  rintro t f K h
  · exact h))

theorem spec_l6Run_n19_l (x1571 : Int) (x1572 : ByteArray) : Link spec_l6Run_ctx LL (bodyOf Try.f22) spec_l6Run_an (⟨mkE 108 0 [(0, .dat (.int .i64) x1571), (1, .dat .str x1572)], []⟩ : St) (spec_l6Run_n19 x1571 x1572) (fun (t : Bool × (List Int)) => (Exit.ret, (⟨mkE 108 0 [(4, .slc 0), (5, .dat .bool t.1)], [some (.seq (.int .i64) t.2)]⟩ : St))) := by
  unfold spec_l6Run_n19
  exact Link.cast (by kernel_rfl) (by kernel_rfl) (link_group (c := (Code.fst (Code.snd (Code.snd (Code.snd (bodyOf Try.f22)))))) (a := (Ann.fst (Ann.snd (Ann.snd (Ann.snd spec_l6Run_an))))) [(Code.fst (bodyOf Try.f22)), (Code.fst (Code.snd (bodyOf Try.f22))), (Code.fst (Code.snd (Code.snd (bodyOf Try.f22))))] [(Ann.fst spec_l6Run_an), (Ann.fst (Ann.snd spec_l6Run_an)), (Ann.fst (Ann.snd (Ann.snd spec_l6Run_an)))] rfl (link_seq (b := (Code.snd (Code.snd (Code.snd (Code.snd (bodyOf Try.f22)))))) (y := (Ann.snd (Ann.snd (Ann.snd (Ann.snd spec_l6Run_an))))) (spec_l6Run_n1_l x1571 x1572) (fun (t : (List Int)) => (spec_l6Run_n18_l x1571 x1572 t))))

theorem spec_l6Run_e (x1571 : Int) (x1572 : ByteArray) {r : AV} {H' : Heap} (h : (Ans.mk _ (spec_l6Run x1571 x1572) (fun (t : Bool × (List Int)) => (.tup [.slc 0, .dat .bool t.1], [some (.seq (.int .i64) t.2)])) [] none).run = some (r, H')) : Awp spec_l6Run_ctx LL (bodyOf Try.f22) spec_l6Run_an (⟨mkE 108 0 [(0, .dat (.int .i64) x1571), (1, .dat .str x1572)], []⟩ : St) (Ret (tlook tys) Try.f22.results.toList r H') :=
  ret_of' (spec_l6Run_n19_l x1571 x1572) (by unfold spec_l6Run; kernel_rfl) (by
  intro t
  exact ret_mk [.slc 0, .dat .bool t.1] (by kernel_rfl) (by kernel_rfl) (by kernel_rfl) (by kernel_rfl)) h

def F_spec_l6Run : Fun := fun avs H =>
  match avs, H with
  | [.dat (.int .i64) x1571, .dat .str x1572], [] => ⟨_, spec_l6Run x1571 x1572, fun (t : Bool × (List Int)) => (.tup [.slc 0, .dat .bool t.1], [some (.seq (.int .i64) t.2)]), [], none⟩
  | _, _ => Ans.no

theorem spec_l6Run_sound : Sound Try.prog 22 F_spec_l6Run := by
  refine fn_sound' (C := spec_l6Run_ctx) (c := bodyOf Try.f22) (cok_of tys_ok (by simp) (by simp) (by kernel_rfl)) Try.func22 (by kernel_rfl) LL spec_l6Run_an ?_
  intro avs H r H' h
  unfold F_spec_l6Run at h
  split at h
  · refine Awp.cast ?_ ?_ ?_ (spec_l6Run_e _ _ h) <;> kernel_rfl
  · simp [Ans.no, Ans.run] at h


/-! loop.example/headtrees/spec.RunStack -/

def spec_RunStack_an : Ann := (.seq (.leaf [0, 1]) (.seq (.seq (.leaf [0, 1, 10]) (.cond (.seq (.leaf [4, 5]) (.leaf [4, 5])) (.leaf [0, 1]))) (.seq (.leaf [6, 7]) (.seq (.seq (.leaf [6, 19]) (.cond (.seq (.leaf [4, 5]) (.leaf [4, 5])) (.leaf [6]))) (.seq (.leaf [4, 5]) (.leaf [4, 5]))))))

noncomputable def spec_RunStack_ctx : Ctx := ⟨tlook tys, olook [(21, F_spec_l1In), (22, F_spec_l6Run)], ioF, 0, false, []⟩

theorem spec_RunStack_n1_l (x1557 : Int) (x1558 : ByteArray) : Link spec_RunStack_ctx LL (bodyOf Try.f11) spec_RunStack_an (⟨mkE 22 0 [(0, .dat (.int .i64) x1557), (1, .dat .str x1558)], []⟩ : St) (spec_RunStack_n1 x1557 x1558) (fun (t : Bool × (List Int)) => (Exit.ret, (⟨mkE 22 0 [(4, .slc 0), (5, .dat .bool t.1)], [some (.seq (.int .i64) t.2)]⟩ : St))) := by
  refine Link.of fun K h => ?_
  simp only [spec_RunStack_n1, wpO_bind, wpO_cond, wpO_map, wpO_some] at h
  exact Awp.of (by kernel_rfl) h

theorem spec_RunStack_e (x1557 : Int) (x1558 : ByteArray) {r : AV} {H' : Heap} (h : (Ans.mk _ (spec_RunStack x1557 x1558) (fun (t : Bool × (List Int)) => (.tup [.slc 0, .dat .bool t.1], [some (.seq (.int .i64) t.2)])) [] none).run = some (r, H')) : Awp spec_RunStack_ctx LL (bodyOf Try.f11) spec_RunStack_an (⟨mkE 22 0 [(0, .dat (.int .i64) x1557), (1, .dat .str x1558)], []⟩ : St) (Ret (tlook tys) Try.f11.results.toList r H') :=
  ret_of' (spec_RunStack_n1_l x1557 x1558) (by unfold spec_RunStack; kernel_rfl) (by
  intro t
  exact ret_mk [.slc 0, .dat .bool t.1] (by kernel_rfl) (by kernel_rfl) (by kernel_rfl) (by kernel_rfl)) h

def F_spec_RunStack : Fun := fun avs H =>
  match avs, H with
  | [.dat (.int .i64) x1557, .dat .str x1558], [] => ⟨_, spec_RunStack x1557 x1558, fun (t : Bool × (List Int)) => (.tup [.slc 0, .dat .bool t.1], [some (.seq (.int .i64) t.2)]), [], none⟩
  | _, _ => Ans.no

theorem spec_RunStack_sound : Sound Try.prog 11 F_spec_RunStack := by
  refine fn_sound' (C := spec_RunStack_ctx) (c := bodyOf Try.f11) (cok_of tys_ok (List.forall_mem_cons.2 ⟨spec_l1In_sound, List.forall_mem_cons.2 ⟨spec_l6Run_sound, by simp⟩⟩) (List.forall_mem_cons.2 ⟨Try.call21, List.forall_mem_cons.2 ⟨Try.call22, by simp⟩⟩) (by kernel_rfl)) Try.func11 (by kernel_rfl) LL spec_RunStack_an ?_
  intro avs H r H' h
  unfold F_spec_RunStack at h
  split at h
  · refine Awp.cast ?_ ?_ ?_ (spec_RunStack_e _ _ h) <;> kernel_rfl
  · simp [Ans.no, Ans.run] at h


/-! loop.example/headtrees/impl.RunStack -/

def impl_RunStack_an : Ann := (.seq (.leaf [0, 1]) (.seq (.leaf [6, 7]) (.seq (.seq (.leaf [6, 15]) (.cond (.seq (.leaf [4, 5]) (.leaf [4, 5])) (.leaf [6]))) (.seq (.leaf [4, 5]) (.leaf [4, 5])))))

noncomputable def impl_RunStack_ctx : Ctx := ⟨tlook tys, olook [(19, F_impl_afterMoves)], ioF, 0, false, []⟩

theorem impl_RunStack_n1_l (x3406 : Int) (x3407 : ByteArray) : Link impl_RunStack_ctx LL (bodyOf Try.f12) impl_RunStack_an (⟨mkE 20 0 [(0, .dat (.int .i64) x3406), (1, .dat .str x3407)], []⟩ : St) (impl_RunStack_n1 x3406 x3407) (fun (t : Bool × (List Int)) => (Exit.ret, (⟨mkE 20 0 [(4, .slc 0), (5, .dat .bool t.1)], [some (.seq (.int .i64) t.2)]⟩ : St))) := by
  refine Link.of fun K h => ?_
  simp only [impl_RunStack_n1, wpO_bind, wpO_cond, wpO_map, wpO_some] at h
  exact Awp.of (by kernel_rfl) h

theorem impl_RunStack_e (x3406 : Int) (x3407 : ByteArray) {r : AV} {H' : Heap} (h : (Ans.mk _ (impl_RunStack x3406 x3407) (fun (t : Bool × (List Int)) => (.tup [.slc 0, .dat .bool t.1], [some (.seq (.int .i64) t.2)])) [] none).run = some (r, H')) : Awp impl_RunStack_ctx LL (bodyOf Try.f12) impl_RunStack_an (⟨mkE 20 0 [(0, .dat (.int .i64) x3406), (1, .dat .str x3407)], []⟩ : St) (Ret (tlook tys) Try.f12.results.toList r H') :=
  ret_of' (impl_RunStack_n1_l x3406 x3407) (by unfold impl_RunStack; kernel_rfl) (by
  intro t
  exact ret_mk [.slc 0, .dat .bool t.1] (by kernel_rfl) (by kernel_rfl) (by kernel_rfl) (by kernel_rfl)) h

def F_impl_RunStack : Fun := fun avs H =>
  match avs, H with
  | [.dat (.int .i64) x3406, .dat .str x3407], [] => ⟨_, impl_RunStack x3406 x3407, fun (t : Bool × (List Int)) => (.tup [.slc 0, .dat .bool t.1], [some (.seq (.int .i64) t.2)]), [], none⟩
  | _, _ => Ans.no

theorem impl_RunStack_sound : Sound Try.prog 12 F_impl_RunStack := by
  refine fn_sound' (C := impl_RunStack_ctx) (c := bodyOf Try.f12) (cok_of tys_ok (List.forall_mem_cons.2 ⟨impl_afterMoves_sound, by simp⟩) (List.forall_mem_cons.2 ⟨Try.call19, by simp⟩) (by kernel_rfl)) Try.func12 (by kernel_rfl) LL impl_RunStack_an ?_
  intro avs H r H' h
  unfold F_impl_RunStack at h
  split at h
  · refine Awp.cast ?_ ?_ ?_ (impl_RunStack_e _ _ h) <;> kernel_rfl
  · simp [Ans.no, Ans.run] at h


/-! loop.example/headtrees/laws.eqIntS -/

def laws_eqIntS_an : Ann := (.seq (.leaf [0, 1]) (.seq (.seq (.leaf [0, 1, 10]) (.cond (.seq (.leaf [4]) (.leaf [4])) (.leaf [0, 1]))) (.seq (.seq (.leaf [0, 1, 5]) (.block (.loop (.seq (.seq (.leaf [0, 1, 5, 14]) (.cond (.leaf [0, 1, 5]) (.leaf []))) (.seq (.block (.seq (.draw [] [0, 1, 2, 3, 4, 5, 6, 7, 8] [] [0, 1, 5, 25]) (.cond (.seq (.leaf [4]) (.leaf [4])) (.leaf [0, 1, 5])))) (.leaf [0, 1, 5])))))) (.seq (.leaf [4]) (.leaf [4])))))

noncomputable def laws_eqIntS_ctx : Ctx := ⟨tlook tys, olook [], ioF, 0, false, []⟩

theorem laws_eqIntS_n1_l (x3445 : List Int) (x3446 : List Int) : Link laws_eqIntS_ctx LL (Code.seq (Code.fst (bodyOf Try.f13)) (Code.fst (Code.snd (bodyOf Try.f13)))) (Ann.seq (Ann.fst laws_eqIntS_an) (Ann.fst (Ann.snd laws_eqIntS_an))) (⟨mkE 26 0 [(0, .dat (.list (.int .i64)) x3445), (1, .dat (.list (.int .i64)) x3446)], []⟩ : St) (laws_eqIntS_n1 x3445 x3446) (Sum.elim (fun (t : Unit) => (Exit.normal, (⟨mkE 26 0 [(0, .dat (.list (.int .i64)) x3445), (1, .dat (.list (.int .i64)) x3446)], []⟩ : St))) (fun (t : Bool) => (Exit.ret, (⟨mkE 26 0 [(4, .dat .bool t)], []⟩ : St)))) := by
  refine Link.of fun K h => ?_
  simp only [laws_eqIntS_n1, wpO_bind, wpO_cond, wpO_map, wpO_some] at h
  exact Awp.of (by kernel_rfl) h

theorem laws_eqIntS_n2_l (x3445 : List Int) (x3446 : List Int) : Link laws_eqIntS_ctx LL (Code.fst (Code.fst (Code.snd (Code.snd (bodyOf Try.f13))))) (Ann.fst (Ann.fst (Ann.snd (Ann.snd laws_eqIntS_an)))) (⟨mkE 26 0 [(0, .dat (.list (.int .i64)) x3445), (1, .dat (.list (.int .i64)) x3446)], []⟩ : St) (laws_eqIntS_n2) (fun (t : Unit) => (Exit.normal, (⟨mkE 26 0 [(0, .dat (.list (.int .i64)) x3445), (1, .dat (.list (.int .i64)) x3446), (5, .dat (.int .i64) 0)], []⟩ : St))) := by
  refine Link.of fun K h => ?_
  simp only [laws_eqIntS_n2, wpO_bind, wpO_cond, wpO_map, wpO_some] at h
  exact Awp.of (by kernel_rfl) h

theorem laws_eqIntS_n3_l (x3445 : List Int) (x3446 : List Int) (x3463 : Int) : Link laws_eqIntS_ctx LL (Code.fst (Code.fst (Code.snd (Code.fst (Code.snd (Code.snd (bodyOf Try.f13))))))) (Ann.fst (Ann.fst (Ann.snd (Ann.fst (Ann.snd (Ann.snd laws_eqIntS_an)))))) (⟨mkE 26 0 [(0, .dat (.list (.int .i64)) x3445), (1, .dat (.list (.int .i64)) x3446), (5, .dat (.int .i64) x3463)], []⟩ : St) (laws_eqIntS_n3 x3445 x3446 x3463) (Sum.elim (fun (t : Int) => (Exit.normal, (⟨mkE 26 0 [(0, .dat (.list (.int .i64)) x3445), (1, .dat (.list (.int .i64)) x3446), (5, .dat (.int .i64) t)], []⟩ : St))) (Sum.elim (fun (t : Bool) => (Exit.ret, (⟨mkE 26 0 [(4, .dat .bool t)], []⟩ : St))) (fun (t : Unit) => ((Exit.exit 0), (⟨mkE 26 0 [], []⟩ : St))))) := by
  refine Link.of fun K h => ?_
  simp only [laws_eqIntS_n3, wpO_bind, wpO_cond, wpO_map, wpO_some] at h
  exact Awp.of (by kernel_rfl) h

theorem laws_eqIntS_n4_l (x3445 : List Int) (x3446 : List Int) : Link laws_eqIntS_ctx LL (Code.fst (Code.snd (Code.fst (Code.snd (Code.snd (bodyOf Try.f13)))))) (Ann.fst (Ann.snd (Ann.fst (Ann.snd (Ann.snd laws_eqIntS_an))))) (⟨mkE 26 0 [(0, .dat (.list (.int .i64)) x3445), (1, .dat (.list (.int .i64)) x3446), (5, .dat (.int .i64) 0)], []⟩ : St) (laws_eqIntS_n4 x3445 x3446) (Sum.elim (fun (t : Bool) => (Exit.ret, (⟨mkE 26 0 [(4, .dat .bool t)], []⟩ : St))) (fun (t : Unit) => ((Exit.exit 0), (⟨mkE 26 0 [], []⟩ : St)))) := by
  unfold laws_eqIntS_n4
  exact Link.cast (by kernel_rfl) (by kernel_rfl) (link_loop (mk := fun (s : Int) => (⟨mkE 26 0 [(0, .dat (.list (.int .i64)) x3445), (1, .dat (.list (.int .i64)) x3446), (5, .dat (.int .i64) s)], []⟩ : St)) (fin := (Sum.elim (fun (t : Bool) => (Exit.ret, (⟨mkE 26 0 [(4, .dat .bool t)], []⟩ : St))) (fun (t : Unit) => ((Exit.exit 0), (⟨mkE 26 0 [], []⟩ : St))))) (by
  rintro (t | t) f K h
  · exact h
  · exact h) (fun s => link_map (laws_eqIntS_n3_l x3445 x3446 s) (Sum.elim (fun (t : Int) => Sum.inl t) (Sum.elim (fun (t : Bool) => Sum.inr (Sum.inl t)) (fun (t : Unit) => Sum.inr (Sum.inr t)))) (by
  rintro (t | t | t)
  · kernel_rfl
  · kernel_rfl
  · kernel_rfl)) 0)

theorem laws_eqIntS_n5_l (x3445 : List Int) (x3446 : List Int) : Link laws_eqIntS_ctx LL (Code.snd (Code.fst (Code.snd (Code.snd (bodyOf Try.f13))))) (Ann.snd (Ann.fst (Ann.snd (Ann.snd laws_eqIntS_an)))) (⟨mkE 26 0 [(0, .dat (.list (.int .i64)) x3445), (1, .dat (.list (.int .i64)) x3446), (5, .dat (.int .i64) 0)], []⟩ : St) (laws_eqIntS_n5 x3445 x3446) (Sum.elim (fun (t : Unit) => (Exit.normal, (⟨mkE 26 0 [], []⟩ : St))) (fun (t : Bool) => (Exit.ret, (⟨mkE 26 0 [(4, .dat .bool t)], []⟩ : St)))) := by
  unfold laws_eqIntS_n5
  exact Link.cast (by kernel_rfl) (by kernel_rfl) (link_block (id := 0) (laws_eqIntS_n4_l x3445 x3446) (Sum.elim (fun (t : Bool) => (Sum.inr t)) (fun (t : Unit) => (Sum.inl ()))) (by
  rintro (t | t) K h
  · exact Eq.mp (by kernel_rfl) h
  · exact Eq.mp (by kernel_rfl) h))

theorem laws_eqIntS_n6_l (x3445 : List Int) (x3446 : List Int) : Link laws_eqIntS_ctx LL (Code.fst (Code.snd (Code.snd (bodyOf Try.f13)))) (Ann.fst (Ann.snd (Ann.snd laws_eqIntS_an))) (⟨mkE 26 0 [(0, .dat (.list (.int .i64)) x3445), (1, .dat (.list (.int .i64)) x3446)], []⟩ : St) (laws_eqIntS_n6 x3445 x3446) (Sum.elim (fun (t : Unit) => (Exit.normal, (⟨mkE 26 0 [], []⟩ : St))) (fun (t : Bool) => (Exit.ret, (⟨mkE 26 0 [(4, .dat .bool t)], []⟩ : St)))) := by
  unfold laws_eqIntS_n6
  exact Link.cast (by kernel_rfl) (by kernel_rfl) (link_seq (b := (Code.snd (Code.fst (Code.snd (Code.snd (bodyOf Try.f13)))))) (y := (Ann.snd (Ann.fst (Ann.snd (Ann.snd laws_eqIntS_an))))) (laws_eqIntS_n2_l x3445 x3446) (fun (t : Unit) => (laws_eqIntS_n5_l x3445 x3446)))

theorem laws_eqIntS_n7_l : Link laws_eqIntS_ctx LL (Code.snd (Code.snd (Code.snd (bodyOf Try.f13)))) (Ann.snd (Ann.snd (Ann.snd laws_eqIntS_an))) (⟨mkE 26 0 [], []⟩ : St) (laws_eqIntS_n7) (fun (t : Bool) => (Exit.ret, (⟨mkE 26 0 [(4, .dat .bool t)], []⟩ : St))) := by
  refine Link.of fun K h => ?_
  simp only [laws_eqIntS_n7, wpO_bind, wpO_cond, wpO_map, wpO_some] at h
  exact Awp.of (by kernel_rfl) h

theorem laws_eqIntS_n8_l (x3445 : List Int) (x3446 : List Int) : Link laws_eqIntS_ctx LL (Code.snd (Code.snd (bodyOf Try.f13))) (Ann.snd (Ann.snd laws_eqIntS_an)) (⟨mkE 26 0 [(0, .dat (.list (.int .i64)) x3445), (1, .dat (.list (.int .i64)) x3446)], []⟩ : St) (laws_eqIntS_n8 x3445 x3446) (fun (t : Bool) => (Exit.ret, (⟨mkE 26 0 [(4, .dat .bool t)], []⟩ : St))) := by
  unfold laws_eqIntS_n8
  exact Link.cast (by kernel_rfl) (by kernel_rfl) (link_seq2 (b := (Code.snd (Code.snd (Code.snd (bodyOf Try.f13))))) (y := (Ann.snd (Ann.snd (Ann.snd laws_eqIntS_an)))) (laws_eqIntS_n6_l x3445 x3446) (fun (t : Unit) => (laws_eqIntS_n7_l)) (fun (t : Bool) => t) (by
  rintro t
  · kernel_rfl) (by
  rintro t f K h
  · exact h))

theorem laws_eqIntS_n9_l (x3445 : List Int) (x3446 : List Int) : Link laws_eqIntS_ctx LL (bodyOf Try.f13) laws_eqIntS_an (⟨mkE 26 0 [(0, .dat (.list (.int .i64)) x3445), (1, .dat (.list (.int .i64)) x3446)], []⟩ : St) (laws_eqIntS_n9 x3445 x3446) (fun (t : Bool) => (Exit.ret, (⟨mkE 26 0 [(4, .dat .bool t)], []⟩ : St))) := by
  unfold laws_eqIntS_n9
  exact Link.cast (by kernel_rfl) (by kernel_rfl) (link_group (c := (Code.fst (Code.snd (bodyOf Try.f13)))) (a := (Ann.fst (Ann.snd laws_eqIntS_an))) [(Code.fst (bodyOf Try.f13))] [(Ann.fst laws_eqIntS_an)] rfl (link_seq2 (b := (Code.snd (Code.snd (bodyOf Try.f13)))) (y := (Ann.snd (Ann.snd laws_eqIntS_an))) (laws_eqIntS_n1_l x3445 x3446) (fun (t : Unit) => (laws_eqIntS_n8_l x3445 x3446)) (fun (t : Bool) => t) (by
  rintro t
  · kernel_rfl) (by
  rintro t f K h
  · exact h)))

theorem laws_eqIntS_e (x3445 : List Int) (x3446 : List Int) {r : AV} {H' : Heap} (h : (Ans.mk _ (laws_eqIntS x3445 x3446) (fun (t : Bool) => (.dat .bool t, [])) [] none).run = some (r, H')) : Awp laws_eqIntS_ctx LL (bodyOf Try.f13) laws_eqIntS_an (⟨mkE 26 0 [(0, .dat (.list (.int .i64)) x3445), (1, .dat (.list (.int .i64)) x3446)], []⟩ : St) (Ret (tlook tys) Try.f13.results.toList r H') :=
  ret_of' (laws_eqIntS_n9_l x3445 x3446) (by unfold laws_eqIntS; kernel_rfl) (by
  intro t
  exact ret_mk [.dat .bool t] (by kernel_rfl) (by kernel_rfl) (by kernel_rfl) (by kernel_rfl)) h

def F_laws_eqIntS : Fun := fun avs H =>
  match avs, H with
  | [.dat (.list (.int .i64)) x3445, .dat (.list (.int .i64)) x3446], [] => ⟨_, laws_eqIntS x3445 x3446, fun (t : Bool) => (.dat .bool t, []), [], none⟩
  | _, _ => Ans.no

theorem laws_eqIntS_sound : Sound Try.prog 13 F_laws_eqIntS := by
  refine fn_sound' (C := laws_eqIntS_ctx) (c := bodyOf Try.f13) (cok_of tys_ok (by simp) (by simp) (by kernel_rfl)) Try.func13 (by kernel_rfl) LL laws_eqIntS_an ?_
  intro avs H r H' h
  unfold F_laws_eqIntS at h
  split at h
  · refine Awp.cast ?_ ?_ ?_ (laws_eqIntS_e _ _ h) <;> kernel_rfl
  · simp [Ans.no, Ans.run] at h


/-! loop.example/headtrees/laws.markIntS -/

def laws_markIntS_an : Ann := (.seq (.leaf [0, 1]) (.seq (.seq (.leaf [0, 1, 5]) (.block (.loop (.seq (.seq (.leaf [0, 1, 5, 9]) (.cond (.leaf [0, 1, 5]) (.leaf [1]))) (.seq (.block (.seq (.leaf [0, 1, 5]) (.leaf [0, 1, 5]))) (.leaf [0, 1, 5])))))) (.seq (.leaf [4]) (.leaf [4]))))

noncomputable def laws_markIntS_ctx : Ctx := ⟨tlook tys, olook [], ioF, 1, false, []⟩

theorem laws_markIntS_n1_l (x3503 : Int) (x3504 : List Int) : Link laws_markIntS_ctx LL (Code.fst (bodyOf Try.f14)) (Ann.fst laws_markIntS_an) (⟨mkE 19 0 [(0, .slc 0), (1, .dat (.int .i64) x3503)], [some (.seq (.int .i64) x3504)]⟩ : St) (laws_markIntS_n1) (fun (t : Unit) => (Exit.normal, (⟨mkE 19 0 [(0, .slc 0), (1, .dat (.int .i64) x3503)], [some (.seq (.int .i64) x3504)]⟩ : St))) := by
  refine Link.of fun K h => ?_
  simp only [laws_markIntS_n1, wpO_bind, wpO_cond, wpO_map, wpO_some] at h
  exact Awp.of (by kernel_rfl) h

theorem laws_markIntS_n2_l (x3503 : Int) (x3504 : List Int) : Link laws_markIntS_ctx LL (Code.fst (Code.fst (Code.snd (bodyOf Try.f14)))) (Ann.fst (Ann.fst (Ann.snd laws_markIntS_an))) (⟨mkE 19 0 [(0, .slc 0), (1, .dat (.int .i64) x3503)], [some (.seq (.int .i64) x3504)]⟩ : St) (laws_markIntS_n2) (fun (t : Unit) => (Exit.normal, (⟨mkE 19 0 [(0, .slc 0), (1, .dat (.int .i64) x3503), (5, .dat (.int .i64) 0)], [some (.seq (.int .i64) x3504)]⟩ : St))) := by
  refine Link.of fun K h => ?_
  simp only [laws_markIntS_n2, wpO_bind, wpO_cond, wpO_map, wpO_some] at h
  exact Awp.of (by kernel_rfl) h

theorem laws_markIntS_n3_l (x3518 : Int) (x3519 : Int) (x3520 : List Int) : Link laws_markIntS_ctx LL (Code.fst (Code.fst (Code.snd (Code.fst (Code.snd (bodyOf Try.f14)))))) (Ann.fst (Ann.fst (Ann.snd (Ann.fst (Ann.snd laws_markIntS_an))))) (⟨mkE 19 0 [(0, .slc 0), (1, .dat (.int .i64) x3518), (5, .dat (.int .i64) x3519)], [some (.seq (.int .i64) x3520)]⟩ : St) (laws_markIntS_n3 x3518 x3519 x3520) (Sum.elim (fun (t : Int × Int × (List Int)) => (Exit.normal, (⟨mkE 19 0 [(0, .slc 0), (1, .dat (.int .i64) t.1), (5, .dat (.int .i64) t.2.1)], [some (.seq (.int .i64) t.2.2)]⟩ : St))) (fun (t : Int × (List Int)) => ((Exit.exit 0), (⟨mkE 19 0 [(1, .dat (.int .i64) t.1)], [some (.seq (.int .i64) t.2)]⟩ : St)))) := by
  refine Link.of fun K h => ?_
  simp only [laws_markIntS_n3, wpO_bind, wpO_cond, wpO_map, wpO_some] at h
  exact Awp.of (by kernel_rfl) h

theorem laws_markIntS_n4_l (x3503 : Int) (x3504 : List Int) : Link laws_markIntS_ctx LL (Code.fst (Code.snd (Code.fst (Code.snd (bodyOf Try.f14))))) (Ann.fst (Ann.snd (Ann.fst (Ann.snd laws_markIntS_an)))) (⟨mkE 19 0 [(0, .slc 0), (1, .dat (.int .i64) x3503), (5, .dat (.int .i64) 0)], [some (.seq (.int .i64) x3504)]⟩ : St) (laws_markIntS_n4 x3503 x3504) (fun (t : Int × (List Int)) => ((Exit.exit 0), (⟨mkE 19 0 [(1, .dat (.int .i64) t.1)], [some (.seq (.int .i64) t.2)]⟩ : St))) := by
  unfold laws_markIntS_n4
  exact Link.cast (by kernel_rfl) (by kernel_rfl) (link_loop (mk := fun (s : Int × Int × (List Int)) => (⟨mkE 19 0 [(0, .slc 0), (1, .dat (.int .i64) s.1), (5, .dat (.int .i64) s.2.1)], [some (.seq (.int .i64) s.2.2)]⟩ : St)) (fin := (fun (t : Int × (List Int)) => ((Exit.exit 0), (⟨mkE 19 0 [(1, .dat (.int .i64) t.1)], [some (.seq (.int .i64) t.2)]⟩ : St)))) (by
  rintro t f K h
  · exact h) (fun s => link_map (laws_markIntS_n3_l s.1 s.2.1 s.2.2) (Sum.elim (fun (t : Int × Int × (List Int)) => Sum.inl (t.1, t.2.1, t.2.2)) (fun (t : Int × (List Int)) => Sum.inr t)) (by
  rintro (t | t)
  · kernel_rfl
  · kernel_rfl)) (x3503, 0, x3504))

theorem laws_markIntS_n5_l (x3503 : Int) (x3504 : List Int) : Link laws_markIntS_ctx LL (Code.snd (Code.fst (Code.snd (bodyOf Try.f14)))) (Ann.snd (Ann.fst (Ann.snd laws_markIntS_an))) (⟨mkE 19 0 [(0, .slc 0), (1, .dat (.int .i64) x3503), (5, .dat (.int .i64) 0)], [some (.seq (.int .i64) x3504)]⟩ : St) (laws_markIntS_n5 x3503 x3504) (fun (t : Int × (List Int)) => (Exit.normal, (⟨mkE 19 0 [(1, .dat (.int .i64) t.1)], [some (.seq (.int .i64) t.2)]⟩ : St))) := by
  unfold laws_markIntS_n5
  exact Link.cast (by kernel_rfl) (by kernel_rfl) (link_block (id := 0) (laws_markIntS_n4_l x3503 x3504) (fun (t : Int × (List Int)) => (t.1, t.2)) (by
  rintro t K h
  · exact Eq.mp (by kernel_rfl) h))

theorem laws_markIntS_n6_l (x3503 : Int) (x3504 : List Int) : Link laws_markIntS_ctx LL (Code.fst (Code.snd (bodyOf Try.f14))) (Ann.fst (Ann.snd laws_markIntS_an)) (⟨mkE 19 0 [(0, .slc 0), (1, .dat (.int .i64) x3503)], [some (.seq (.int .i64) x3504)]⟩ : St) (laws_markIntS_n6 x3503 x3504) (fun (t : Int × (List Int)) => (Exit.normal, (⟨mkE 19 0 [(1, .dat (.int .i64) t.1)], [some (.seq (.int .i64) t.2)]⟩ : St))) := by
  unfold laws_markIntS_n6
  exact Link.cast (by kernel_rfl) (by kernel_rfl) (link_seq (b := (Code.snd (Code.fst (Code.snd (bodyOf Try.f14))))) (y := (Ann.snd (Ann.fst (Ann.snd laws_markIntS_an)))) (laws_markIntS_n2_l x3503 x3504) (fun (t : Unit) => (laws_markIntS_n5_l x3503 x3504)))

theorem laws_markIntS_n7_l (x3518 : Int) (x3520 : List Int) : Link laws_markIntS_ctx LL (Code.snd (Code.snd (bodyOf Try.f14))) (Ann.snd (Ann.snd laws_markIntS_an)) (⟨mkE 19 0 [(1, .dat (.int .i64) x3518)], [some (.seq (.int .i64) x3520)]⟩ : St) (laws_markIntS_n7 x3518 x3520) (fun (t : Int × (List Int)) => (Exit.ret, (⟨mkE 19 0 [(4, .dat (.int .i64) t.1)], [some (.seq (.int .i64) t.2)]⟩ : St))) := by
  refine Link.of fun K h => ?_
  simp only [laws_markIntS_n7, wpO_bind, wpO_cond, wpO_map, wpO_some] at h
  exact Awp.of (by kernel_rfl) h

theorem laws_markIntS_n8_l (x3503 : Int) (x3504 : List Int) : Link laws_markIntS_ctx LL (Code.snd (bodyOf Try.f14)) (Ann.snd laws_markIntS_an) (⟨mkE 19 0 [(0, .slc 0), (1, .dat (.int .i64) x3503)], [some (.seq (.int .i64) x3504)]⟩ : St) (laws_markIntS_n8 x3503 x3504) (fun (t : Int × (List Int)) => (Exit.ret, (⟨mkE 19 0 [(4, .dat (.int .i64) t.1)], [some (.seq (.int .i64) t.2)]⟩ : St))) := by
  unfold laws_markIntS_n8
  exact Link.cast (by kernel_rfl) (by kernel_rfl) (link_seq (b := (Code.snd (Code.snd (bodyOf Try.f14)))) (y := (Ann.snd (Ann.snd laws_markIntS_an))) (laws_markIntS_n6_l x3503 x3504) (fun (t : Int × (List Int)) => (laws_markIntS_n7_l t.1 t.2)))

theorem laws_markIntS_n9_l (x3503 : Int) (x3504 : List Int) : Link laws_markIntS_ctx LL (bodyOf Try.f14) laws_markIntS_an (⟨mkE 19 0 [(0, .slc 0), (1, .dat (.int .i64) x3503)], [some (.seq (.int .i64) x3504)]⟩ : St) (laws_markIntS_n9 x3503 x3504) (fun (t : Int × (List Int)) => (Exit.ret, (⟨mkE 19 0 [(4, .dat (.int .i64) t.1)], [some (.seq (.int .i64) t.2)]⟩ : St))) := by
  unfold laws_markIntS_n9
  exact Link.cast (by kernel_rfl) (by kernel_rfl) (link_seq (b := (Code.snd (bodyOf Try.f14))) (y := (Ann.snd laws_markIntS_an)) (laws_markIntS_n1_l x3503 x3504) (fun (t : Unit) => (laws_markIntS_n8_l x3503 x3504)))

theorem laws_markIntS_e (x3503 : Int) (x3504 : List Int) {r : AV} {H' : Heap} (h : (Ans.mk _ (laws_markIntS x3503 x3504) (fun (t : Int × (List Int)) => (.dat (.int .i64) t.1, [some (.seq (.int .i64) t.2)])) [] none).run = some (r, H')) : Awp laws_markIntS_ctx LL (bodyOf Try.f14) laws_markIntS_an (⟨mkE 19 0 [(0, .slc 0), (1, .dat (.int .i64) x3503)], [some (.seq (.int .i64) x3504)]⟩ : St) (Ret (tlook tys) Try.f14.results.toList r H') :=
  ret_of' (laws_markIntS_n9_l x3503 x3504) (by unfold laws_markIntS; kernel_rfl) (by
  intro t
  exact ret_mk [.dat (.int .i64) t.1] (by kernel_rfl) (by kernel_rfl) (by kernel_rfl) (by kernel_rfl)) h

def F_laws_markIntS : Fun := fun avs H =>
  match avs, H with
  | [.slc 0, .dat (.int .i64) x3503], [some (.seq (.int .i64) x3504)] => ⟨_, laws_markIntS x3503 x3504, fun (t : Int × (List Int)) => (.dat (.int .i64) t.1, [some (.seq (.int .i64) t.2)]), [], none⟩
  | _, _ => Ans.no

theorem laws_markIntS_sound : Sound Try.prog 14 F_laws_markIntS := by
  refine fn_sound' (C := laws_markIntS_ctx) (c := bodyOf Try.f14) (cok_of tys_ok (by simp) (by simp) (by kernel_rfl)) Try.func14 (by kernel_rfl) LL laws_markIntS_an ?_
  intro avs H r H' h
  unfold F_laws_markIntS at h
  split at h
  · refine Awp.cast ?_ ?_ ?_ (laws_markIntS_e _ _ h) <;> kernel_rfl
  · simp [Ans.no, Ans.run] at h


/-! loop.example/headtrees/laws.heldIntS -/

def laws_heldIntS_an : Ann := (.seq (.leaf [0, 1]) (.seq (.seq (.leaf [0, 1, 5]) (.block (.loop (.seq (.seq (.leaf [0, 1, 5, 9]) (.cond (.leaf [0, 1, 5]) (.leaf [1]))) (.seq (.block (.seq (.seq (.leaf [0, 1, 5, 17]) (.cond (.seq (.leaf [4]) (.leaf [4])) (.leaf [0, 1, 5]))) (.leaf [0, 1, 5]))) (.leaf [0, 1, 5])))))) (.seq (.leaf [4]) (.leaf [4]))))

noncomputable def laws_heldIntS_ctx : Ctx := ⟨tlook tys, olook [], ioF, 0, false, []⟩

theorem laws_heldIntS_n1_l (x3565 : List Int) (x3566 : Int) : Link laws_heldIntS_ctx LL (Code.fst (bodyOf Try.f15)) (Ann.fst laws_heldIntS_an) (⟨mkE 21 0 [(0, .dat (.list (.int .i64)) x3565), (1, .dat (.int .i64) x3566)], []⟩ : St) (laws_heldIntS_n1) (fun (t : Unit) => (Exit.normal, (⟨mkE 21 0 [(0, .dat (.list (.int .i64)) x3565), (1, .dat (.int .i64) x3566)], []⟩ : St))) := by
  refine Link.of fun K h => ?_
  simp only [laws_heldIntS_n1, wpO_bind, wpO_cond, wpO_map, wpO_some] at h
  exact Awp.of (by kernel_rfl) h

theorem laws_heldIntS_n2_l (x3565 : List Int) (x3566 : Int) : Link laws_heldIntS_ctx LL (Code.fst (Code.fst (Code.snd (bodyOf Try.f15)))) (Ann.fst (Ann.fst (Ann.snd laws_heldIntS_an))) (⟨mkE 21 0 [(0, .dat (.list (.int .i64)) x3565), (1, .dat (.int .i64) x3566)], []⟩ : St) (laws_heldIntS_n2) (fun (t : Unit) => (Exit.normal, (⟨mkE 21 0 [(0, .dat (.list (.int .i64)) x3565), (1, .dat (.int .i64) x3566), (5, .dat (.int .i64) 0)], []⟩ : St))) := by
  refine Link.of fun K h => ?_
  simp only [laws_heldIntS_n2, wpO_bind, wpO_cond, wpO_map, wpO_some] at h
  exact Awp.of (by kernel_rfl) h

theorem laws_heldIntS_n3_l (x3565 : List Int) (x3580 : Int) (x3581 : Int) : Link laws_heldIntS_ctx LL (Code.fst (Code.fst (Code.snd (Code.fst (Code.snd (bodyOf Try.f15)))))) (Ann.fst (Ann.fst (Ann.snd (Ann.fst (Ann.snd laws_heldIntS_an))))) (⟨mkE 21 0 [(0, .dat (.list (.int .i64)) x3565), (1, .dat (.int .i64) x3580), (5, .dat (.int .i64) x3581)], []⟩ : St) (laws_heldIntS_n3 x3565 x3580 x3581) (Sum.elim (fun (t : Int × Int) => (Exit.normal, (⟨mkE 21 0 [(0, .dat (.list (.int .i64)) x3565), (1, .dat (.int .i64) t.1), (5, .dat (.int .i64) t.2)], []⟩ : St))) (Sum.elim (fun (t : Int) => (Exit.ret, (⟨mkE 21 0 [(4, .dat (.int .i64) t)], []⟩ : St))) (fun (t : Int) => ((Exit.exit 0), (⟨mkE 21 0 [(1, .dat (.int .i64) t)], []⟩ : St))))) := by
  refine Link.of fun K h => ?_
  simp only [laws_heldIntS_n3, wpO_bind, wpO_cond, wpO_map, wpO_some] at h
  exact Awp.of (by kernel_rfl) h

theorem laws_heldIntS_n4_l (x3565 : List Int) (x3566 : Int) : Link laws_heldIntS_ctx LL (Code.fst (Code.snd (Code.fst (Code.snd (bodyOf Try.f15))))) (Ann.fst (Ann.snd (Ann.fst (Ann.snd laws_heldIntS_an)))) (⟨mkE 21 0 [(0, .dat (.list (.int .i64)) x3565), (1, .dat (.int .i64) x3566), (5, .dat (.int .i64) 0)], []⟩ : St) (laws_heldIntS_n4 x3565 x3566) (Sum.elim (fun (t : Int) => (Exit.ret, (⟨mkE 21 0 [(4, .dat (.int .i64) t)], []⟩ : St))) (fun (t : Int) => ((Exit.exit 0), (⟨mkE 21 0 [(1, .dat (.int .i64) t)], []⟩ : St)))) := by
  unfold laws_heldIntS_n4
  exact Link.cast (by kernel_rfl) (by kernel_rfl) (link_loop (mk := fun (s : Int × Int) => (⟨mkE 21 0 [(0, .dat (.list (.int .i64)) x3565), (1, .dat (.int .i64) s.1), (5, .dat (.int .i64) s.2)], []⟩ : St)) (fin := (Sum.elim (fun (t : Int) => (Exit.ret, (⟨mkE 21 0 [(4, .dat (.int .i64) t)], []⟩ : St))) (fun (t : Int) => ((Exit.exit 0), (⟨mkE 21 0 [(1, .dat (.int .i64) t)], []⟩ : St))))) (by
  rintro (t | t) f K h
  · exact h
  · exact h) (fun s => link_map (laws_heldIntS_n3_l x3565 s.1 s.2) (Sum.elim (fun (t : Int × Int) => Sum.inl (t.1, t.2)) (Sum.elim (fun (t : Int) => Sum.inr (Sum.inl t)) (fun (t : Int) => Sum.inr (Sum.inr t)))) (by
  rintro (t | t | t)
  · kernel_rfl
  · kernel_rfl
  · kernel_rfl)) (x3566, 0))

theorem laws_heldIntS_n5_l (x3565 : List Int) (x3566 : Int) : Link laws_heldIntS_ctx LL (Code.snd (Code.fst (Code.snd (bodyOf Try.f15)))) (Ann.snd (Ann.fst (Ann.snd laws_heldIntS_an))) (⟨mkE 21 0 [(0, .dat (.list (.int .i64)) x3565), (1, .dat (.int .i64) x3566), (5, .dat (.int .i64) 0)], []⟩ : St) (laws_heldIntS_n5 x3565 x3566) (Sum.elim (fun (t : Int) => (Exit.normal, (⟨mkE 21 0 [(1, .dat (.int .i64) t)], []⟩ : St))) (fun (t : Int) => (Exit.ret, (⟨mkE 21 0 [(4, .dat (.int .i64) t)], []⟩ : St)))) := by
  unfold laws_heldIntS_n5
  exact Link.cast (by kernel_rfl) (by kernel_rfl) (link_block (id := 0) (laws_heldIntS_n4_l x3565 x3566) (Sum.elim (fun (t : Int) => (Sum.inr t)) (fun (t : Int) => (Sum.inl t))) (by
  rintro (t | t) K h
  · exact Eq.mp (by kernel_rfl) h
  · exact Eq.mp (by kernel_rfl) h))

theorem laws_heldIntS_n6_l (x3565 : List Int) (x3566 : Int) : Link laws_heldIntS_ctx LL (Code.fst (Code.snd (bodyOf Try.f15))) (Ann.fst (Ann.snd laws_heldIntS_an)) (⟨mkE 21 0 [(0, .dat (.list (.int .i64)) x3565), (1, .dat (.int .i64) x3566)], []⟩ : St) (laws_heldIntS_n6 x3565 x3566) (Sum.elim (fun (t : Int) => (Exit.normal, (⟨mkE 21 0 [(1, .dat (.int .i64) t)], []⟩ : St))) (fun (t : Int) => (Exit.ret, (⟨mkE 21 0 [(4, .dat (.int .i64) t)], []⟩ : St)))) := by
  unfold laws_heldIntS_n6
  exact Link.cast (by kernel_rfl) (by kernel_rfl) (link_seq (b := (Code.snd (Code.fst (Code.snd (bodyOf Try.f15))))) (y := (Ann.snd (Ann.fst (Ann.snd laws_heldIntS_an)))) (laws_heldIntS_n2_l x3565 x3566) (fun (t : Unit) => (laws_heldIntS_n5_l x3565 x3566)))

theorem laws_heldIntS_n7_l (x3580 : Int) : Link laws_heldIntS_ctx LL (Code.snd (Code.snd (bodyOf Try.f15))) (Ann.snd (Ann.snd laws_heldIntS_an)) (⟨mkE 21 0 [(1, .dat (.int .i64) x3580)], []⟩ : St) (laws_heldIntS_n7 x3580) (fun (t : Int) => (Exit.ret, (⟨mkE 21 0 [(4, .dat (.int .i64) t)], []⟩ : St))) := by
  refine Link.of fun K h => ?_
  simp only [laws_heldIntS_n7, wpO_bind, wpO_cond, wpO_map, wpO_some] at h
  exact Awp.of (by kernel_rfl) h

theorem laws_heldIntS_n8_l (x3565 : List Int) (x3566 : Int) : Link laws_heldIntS_ctx LL (Code.snd (bodyOf Try.f15)) (Ann.snd laws_heldIntS_an) (⟨mkE 21 0 [(0, .dat (.list (.int .i64)) x3565), (1, .dat (.int .i64) x3566)], []⟩ : St) (laws_heldIntS_n8 x3565 x3566) (fun (t : Int) => (Exit.ret, (⟨mkE 21 0 [(4, .dat (.int .i64) t)], []⟩ : St))) := by
  unfold laws_heldIntS_n8
  exact Link.cast (by kernel_rfl) (by kernel_rfl) (link_seq2 (b := (Code.snd (Code.snd (bodyOf Try.f15)))) (y := (Ann.snd (Ann.snd laws_heldIntS_an))) (laws_heldIntS_n6_l x3565 x3566) (fun (t : Int) => (laws_heldIntS_n7_l t)) (fun (t : Int) => t) (by
  rintro t
  · kernel_rfl) (by
  rintro t f K h
  · exact h))

theorem laws_heldIntS_n9_l (x3565 : List Int) (x3566 : Int) : Link laws_heldIntS_ctx LL (bodyOf Try.f15) laws_heldIntS_an (⟨mkE 21 0 [(0, .dat (.list (.int .i64)) x3565), (1, .dat (.int .i64) x3566)], []⟩ : St) (laws_heldIntS_n9 x3565 x3566) (fun (t : Int) => (Exit.ret, (⟨mkE 21 0 [(4, .dat (.int .i64) t)], []⟩ : St))) := by
  unfold laws_heldIntS_n9
  exact Link.cast (by kernel_rfl) (by kernel_rfl) (link_seq (b := (Code.snd (bodyOf Try.f15))) (y := (Ann.snd laws_heldIntS_an)) (laws_heldIntS_n1_l x3565 x3566) (fun (t : Unit) => (laws_heldIntS_n8_l x3565 x3566)))

theorem laws_heldIntS_e (x3565 : List Int) (x3566 : Int) {r : AV} {H' : Heap} (h : (Ans.mk _ (laws_heldIntS x3565 x3566) (fun (t : Int) => (.dat (.int .i64) t, [])) [] none).run = some (r, H')) : Awp laws_heldIntS_ctx LL (bodyOf Try.f15) laws_heldIntS_an (⟨mkE 21 0 [(0, .dat (.list (.int .i64)) x3565), (1, .dat (.int .i64) x3566)], []⟩ : St) (Ret (tlook tys) Try.f15.results.toList r H') :=
  ret_of' (laws_heldIntS_n9_l x3565 x3566) (by unfold laws_heldIntS; kernel_rfl) (by
  intro t
  exact ret_mk [.dat (.int .i64) t] (by kernel_rfl) (by kernel_rfl) (by kernel_rfl) (by kernel_rfl)) h

def F_laws_heldIntS : Fun := fun avs H =>
  match avs, H with
  | [.dat (.list (.int .i64)) x3565, .dat (.int .i64) x3566], [] => ⟨_, laws_heldIntS x3565 x3566, fun (t : Int) => (.dat (.int .i64) t, []), [], none⟩
  | _, _ => Ans.no

theorem laws_heldIntS_sound : Sound Try.prog 15 F_laws_heldIntS := by
  refine fn_sound' (C := laws_heldIntS_ctx) (c := bodyOf Try.f15) (cok_of tys_ok (by simp) (by simp) (by kernel_rfl)) Try.func15 (by kernel_rfl) LL laws_heldIntS_an ?_
  intro avs H r H' h
  unfold F_laws_heldIntS at h
  split at h
  · refine Awp.cast ?_ ?_ ?_ (laws_heldIntS_e _ _ h) <;> kernel_rfl
  · simp [Ans.no, Ans.run] at h


/-! loop.example/headtrees/laws.FnExactRunStack -/

def laws_FnExactRunStack_an : Ann := (.seq (.leaf [0, 1]) (.seq (.seq (.leaf [0, 1, 15]) (.cond (.seq (.leaf [4]) (.leaf [4])) (.leaf [0, 1]))) (.seq (.leaf [0, 1, 5, 6]) (.seq (.leaf [0, 1, 5, 6, 7, 8]) (.seq (.seq (.leaf [0, 1, 5, 6, 7, 36]) (.cond (.seq (.leaf [4]) (.leaf [4])) (.leaf [0, 1, 5, 6, 7]))) (.seq (.leaf [0, 1, 5, 6, 7, 9]) (.seq (.leaf [0, 1, 5, 6, 7, 9]) (.seq (.leaf [0, 1, 5, 6, 7, 9, 10]) (.seq (.leaf [0, 1, 5, 6, 7, 9, 10]) (.seq (.seq (.leaf [0, 1, 5, 6, 7, 9, 10, 44]) (.cond (.seq (.leaf [4]) (.leaf [4])) (.leaf [0, 1, 5, 6, 7, 9, 10]))) (.seq (.seq (.leaf [0, 1, 5, 6, 7, 9, 47]) (.cond (.seq (.leaf [4]) (.leaf [4])) (.leaf [0, 1, 5, 6, 7, 9]))) (.seq (.leaf [5, 6, 7, 9, 11, 12]) (.seq (.seq (.leaf [7, 9, 62]) (.cond (.seq (.leaf [4]) (.leaf [4])) (.leaf [7, 9]))) (.seq (.leaf [7, 9, 10]) (.seq (.leaf [9, 10]) (.seq (.seq (.leaf [9, 10, 67]) (.cond (.seq (.leaf [4]) (.leaf [4])) (.leaf [9, 10]))) (.seq (.seq (.leaf [70]) (.cond (.seq (.leaf [4]) (.leaf [4])) (.leaf []))) (.seq (.leaf [4]) (.leaf [4])))))))))))))))))))

noncomputable def laws_FnExactRunStack_ctx : Ctx := ⟨tlook tys, olook [(11, F_spec_RunStack), (12, F_impl_RunStack), (13, F_laws_eqIntS), (14, F_laws_markIntS), (15, F_laws_heldIntS)], ioF, 0, false, []⟩

theorem laws_FnExactRunStack_n1_l (x3392 : Int) (x3393 : ByteArray) : Link laws_FnExactRunStack_ctx LL (bodyOf Try.f4) laws_FnExactRunStack_an (⟨mkE 71 0 [(0, .dat (.int .i64) x3392), (1, .dat .str x3393)], []⟩ : St) (laws_FnExactRunStack_n1 x3392 x3393) (fun (t : Bool) => (Exit.ret, (⟨mkE 71 0 [(4, .dat .bool t)], []⟩ : St))) := by
  refine Link.of fun K h => ?_
  simp only [laws_FnExactRunStack_n1, wpO_bind, wpO_cond, wpO_map, wpO_some] at h
  exact Awp.of (by kernel_rfl) h

theorem laws_FnExactRunStack_e (x3392 : Int) (x3393 : ByteArray) {r : AV} {H' : Heap} (h : (Ans.mk _ (laws_FnExactRunStack x3392 x3393) (fun (t : Bool) => (.dat .bool t, [])) [] none).run = some (r, H')) : Awp laws_FnExactRunStack_ctx LL (bodyOf Try.f4) laws_FnExactRunStack_an (⟨mkE 71 0 [(0, .dat (.int .i64) x3392), (1, .dat .str x3393)], []⟩ : St) (Ret (tlook tys) Try.f4.results.toList r H') :=
  ret_of' (laws_FnExactRunStack_n1_l x3392 x3393) (by unfold laws_FnExactRunStack; kernel_rfl) (by
  intro t
  exact ret_mk [.dat .bool t] (by kernel_rfl) (by kernel_rfl) (by kernel_rfl) (by kernel_rfl)) h

def F_laws_FnExactRunStack : Fun := fun avs H =>
  match avs, H with
  | [.dat (.int .i64) x3392, .dat .str x3393], [] => ⟨_, laws_FnExactRunStack x3392 x3393, fun (t : Bool) => (.dat .bool t, []), [], none⟩
  | _, _ => Ans.no

theorem laws_FnExactRunStack_sound : Sound Try.prog 4 F_laws_FnExactRunStack := by
  refine fn_sound' (C := laws_FnExactRunStack_ctx) (c := bodyOf Try.f4) (cok_of tys_ok (List.forall_mem_cons.2 ⟨spec_RunStack_sound, List.forall_mem_cons.2 ⟨impl_RunStack_sound, List.forall_mem_cons.2 ⟨laws_eqIntS_sound, List.forall_mem_cons.2 ⟨laws_markIntS_sound, List.forall_mem_cons.2 ⟨laws_heldIntS_sound, by simp⟩⟩⟩⟩⟩) (List.forall_mem_cons.2 ⟨Try.call11, List.forall_mem_cons.2 ⟨Try.call12, List.forall_mem_cons.2 ⟨Try.call13, List.forall_mem_cons.2 ⟨Try.call14, List.forall_mem_cons.2 ⟨Try.call15, by simp⟩⟩⟩⟩⟩) (by kernel_rfl)) Try.func4 (by kernel_rfl) LL laws_FnExactRunStack_an ?_
  intro avs H r H' h
  unfold F_laws_FnExactRunStack at h
  split at h
  · refine Awp.cast ?_ ?_ ?_ (laws_FnExactRunStack_e _ _ h) <;> kernel_rfl
  · simp [Ans.no, Ans.run] at h


end Go.Rv
