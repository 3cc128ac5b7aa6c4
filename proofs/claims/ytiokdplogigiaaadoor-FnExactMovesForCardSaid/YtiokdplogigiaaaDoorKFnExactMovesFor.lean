/-
  The checked code answers as the plain functions do; written by program. Conditions: none.
-/
import Derived.Test.YtiokdplogigiaaaDoorGFnExactMovesFor
import Derived.Test.YtiokdplogigiaaaDoorProg
set_option linter.unusedVariables false
set_option linter.unusedSimpArgs false
set_option maxRecDepth 100000
namespace Go.Rv
open Go.Proofs
theorem ty3 : TIOk Tryd.prog 3 ⟨.int .i64, 1, 8, some (.int .i64), [.int .i64 0]⟩ := ⟨⟨infoOf (Tryd.prog.info? 3), by kernel_rfl, by kernel_rfl, by kernel_rfl, .int .i64 0, by kernel_rfl, by kernel_rfl⟩, (by kernel_rfl : Tryd.prog.underlying 3 = some (.int .i64))⟩
theorem ty4 : TIOk Tryd.prog 4 ⟨.bool, 1, 1, some .bool, [.bool false]⟩ := ⟨⟨infoOf (Tryd.prog.info? 4), by kernel_rfl, by kernel_rfl, by kernel_rfl, .bool false, by kernel_rfl, by kernel_rfl⟩, (by kernel_rfl : Tryd.prog.underlying 4 = some .bool)⟩
theorem ty5 : TIOk Tryd.prog 5 ⟨.int .u8, 1, 1, some (.int .u8), [.int .u8 0]⟩ := ⟨⟨infoOf (Tryd.prog.info? 5), by kernel_rfl, by kernel_rfl, by kernel_rfl, .int .u8 0, by kernel_rfl, by kernel_rfl⟩, (by kernel_rfl : Tryd.prog.underlying 5 = some (.int .u8))⟩
theorem ty9 : TIOk Tryd.prog 9 ⟨.str, 1, 16, some .str, [.string ByteArray.empty]⟩ := ⟨⟨infoOf (Tryd.prog.info? 9), by kernel_rfl, by kernel_rfl, by kernel_rfl, .string ByteArray.empty, by kernel_rfl, by kernel_rfl⟩, (by kernel_rfl : Tryd.prog.underlying 9 = some .string)⟩
theorem ty22 : TIOk Tryd.prog 22 ⟨.slice 5, 1, 24, some (.list (.int .u8)), [.slice none 0 0]⟩ := ⟨⟨infoOf (Tryd.prog.info? 22), by kernel_rfl, by kernel_rfl, by kernel_rfl, .slice none 0 0, by kernel_rfl, by kernel_rfl⟩, (by kernel_rfl : Tryd.prog.underlying 22 = some (.slice 5))⟩
theorem ty25 : TIOk Tryd.prog 25 ⟨.slice 3, 1, 24, some (.list (.int .i64)), [.slice none 0 0]⟩ := ⟨⟨infoOf (Tryd.prog.info? 25), by kernel_rfl, by kernel_rfl, by kernel_rfl, .slice none 0 0, by kernel_rfl, by kernel_rfl⟩, (by kernel_rfl : Tryd.prog.underlying 25 = some (.slice 3))⟩
theorem ty40 : TIOk Tryd.prog 40 ⟨.scalar, 1, 8, none, [.pointer none]⟩ := ⟨⟨infoOf (Tryd.prog.info? 40), by kernel_rfl, by kernel_rfl, by kernel_rfl, .pointer none, by kernel_rfl, by kernel_rfl⟩, ⟨descOf (Tryd.prog.underlying 40), by kernel_rfl, by kernel_rfl⟩⟩
theorem ty44 : TIOk Tryd.prog 44 ⟨.strct [(0, 25), (1, 25), (2, 3), (3, 3)], 4, 64, some (.pair (.list (.int .i64)) (.pair (.list (.int .i64)) (.pair (.int .i64) (.pair (.int .i64) .unit)))), [.slice none 0 0, .slice none 0 0, .int .i64 0, .int .i64 0]⟩ := ⟨⟨infoOf (Tryd.prog.info? 44), by kernel_rfl, by kernel_rfl, by kernel_rfl, .agg #[.slice none 0 0, .slice none 0 0, .int .i64 0, .int .i64 0], by kernel_rfl, by kernel_rfl⟩, ⟨fieldsOf (Tryd.prog.underlying 44), by kernel_rfl, by kernel_rfl⟩⟩
theorem ty47 : TIOk Tryd.prog 47 ⟨.map 5 51, 1, 8, none, [.map none]⟩ := ⟨⟨infoOf (Tryd.prog.info? 47), by kernel_rfl, by kernel_rfl, by kernel_rfl, .map none, by kernel_rfl, by kernel_rfl⟩, (by kernel_rfl : Tryd.prog.underlying 47 = some (.map 5 51))⟩
theorem ty51 : TIOk Tryd.prog 51 ⟨.scalar, 1, 8, none, [.nilFunc]⟩ := ⟨⟨infoOf (Tryd.prog.info? 51), by kernel_rfl, by kernel_rfl, by kernel_rfl, .nilFunc, by kernel_rfl, by kernel_rfl⟩, ⟨descOf (Tryd.prog.underlying 51), by kernel_rfl, by kernel_rfl⟩⟩
theorem ty52 : TIOk Tryd.prog 52 ⟨.slice 55, 1, 24, some (.list (.int .u64)), [.slice none 0 0]⟩ := ⟨⟨infoOf (Tryd.prog.info? 52), by kernel_rfl, by kernel_rfl, by kernel_rfl, .slice none 0 0, by kernel_rfl, by kernel_rfl⟩, (by kernel_rfl : Tryd.prog.underlying 52 = some (.slice 55))⟩
theorem ty55 : TIOk Tryd.prog 55 ⟨.int .u64, 1, 8, some (.int .u64), [.int .u64 0]⟩ := ⟨⟨infoOf (Tryd.prog.info? 55), by kernel_rfl, by kernel_rfl, by kernel_rfl, .int .u64 0, by kernel_rfl, by kernel_rfl⟩, (by kernel_rfl : Tryd.prog.underlying 55 = some (.int .u64))⟩
theorem ty57 : TIOk Tryd.prog 57 ⟨.slice 4, 1, 24, some (.list .bool), [.slice none 0 0]⟩ := ⟨⟨infoOf (Tryd.prog.info? 57), by kernel_rfl, by kernel_rfl, by kernel_rfl, .slice none 0 0, by kernel_rfl, by kernel_rfl⟩, (by kernel_rfl : Tryd.prog.underlying 57 = some (.slice 4))⟩
theorem ty59 : TIOk Tryd.prog 59 ⟨.meths [("loop.example/headtrees/impl.putNext", 54)], 1, 8, none, [.pointer none]⟩ := ⟨⟨infoOf (Tryd.prog.info? 59), by kernel_rfl, by kernel_rfl, by kernel_rfl, .pointer none, by kernel_rfl, by kernel_rfl⟩, ⟨⟨65, by kernel_rfl⟩, by kernel_rfl⟩⟩
theorem ty62 : TIOk Tryd.prog 62 ⟨.map 5 69, 1, 8, none, [.map none]⟩ := ⟨⟨infoOf (Tryd.prog.info? 62), by kernel_rfl, by kernel_rfl, by kernel_rfl, .map none, by kernel_rfl, by kernel_rfl⟩, (by kernel_rfl : Tryd.prog.underlying 62 = some (.map 5 69))⟩
theorem ty65 : TIOk Tryd.prog 65 ⟨.strct [(0, 44), (4, 55)], 5, 72, some (.pair (.pair (.list (.int .i64)) (.pair (.list (.int .i64)) (.pair (.int .i64) (.pair (.int .i64) .unit)))) (.pair (.int .u64) .unit)), [.slice none 0 0, .slice none 0 0, .int .i64 0, .int .i64 0, .int .u64 0]⟩ := ⟨⟨infoOf (Tryd.prog.info? 65), by kernel_rfl, by kernel_rfl, by kernel_rfl, .agg #[.slice none 0 0, .slice none 0 0, .int .i64 0, .int .i64 0, .int .u64 0], by kernel_rfl, by kernel_rfl⟩, ⟨fieldsOf (Tryd.prog.underlying 65), by kernel_rfl, by kernel_rfl⟩⟩
theorem ty69 : TIOk Tryd.prog 69 ⟨.scalar, 1, 8, none, [.nilFunc]⟩ := ⟨⟨infoOf (Tryd.prog.info? 69), by kernel_rfl, by kernel_rfl, by kernel_rfl, .nilFunc, by kernel_rfl, by kernel_rfl⟩, ⟨descOf (Tryd.prog.underlying 69), by kernel_rfl, by kernel_rfl⟩⟩
theorem ty72 : TIOk Tryd.prog 72 ⟨.strct [(0, 22), (1, 3)], 2, 32, some (.pair (.list (.int .u8)) (.pair (.int .i64) .unit)), [.slice none 0 0, .int .i64 0]⟩ := ⟨⟨infoOf (Tryd.prog.info? 72), by kernel_rfl, by kernel_rfl, by kernel_rfl, .agg #[.slice none 0 0, .int .i64 0], by kernel_rfl, by kernel_rfl⟩, ⟨fieldsOf (Tryd.prog.underlying 72), by kernel_rfl, by kernel_rfl⟩⟩
theorem ty73 : TIOk Tryd.prog 73 ⟨.slice 9, 1, 24, some (.list .str), [.slice none 0 0]⟩ := ⟨⟨infoOf (Tryd.prog.info? 73), by kernel_rfl, by kernel_rfl, by kernel_rfl, .slice none 0 0, by kernel_rfl, by kernel_rfl⟩, (by kernel_rfl : Tryd.prog.underlying 73 = some (.slice 9))⟩
theorem ty79 : TIOk Tryd.prog 79 ⟨.scalar, 1, 8, none, [.nilFunc]⟩ := ⟨⟨infoOf (Tryd.prog.info? 79), by kernel_rfl, by kernel_rfl, by kernel_rfl, .nilFunc, by kernel_rfl, by kernel_rfl⟩, ⟨descOf (Tryd.prog.underlying 79), by kernel_rfl, by kernel_rfl⟩⟩
theorem ty91 : TIOk Tryd.prog 91 ⟨.strct [(0, 25), (1, 3), (2, 3)], 3, 40, some (.pair (.list (.int .i64)) (.pair (.int .i64) (.pair (.int .i64) .unit))), [.slice none 0 0, .int .i64 0, .int .i64 0]⟩ := ⟨⟨infoOf (Tryd.prog.info? 91), by kernel_rfl, by kernel_rfl, by kernel_rfl, .agg #[.slice none 0 0, .int .i64 0, .int .i64 0], by kernel_rfl, by kernel_rfl⟩, ⟨fieldsOf (Tryd.prog.underlying 91), by kernel_rfl, by kernel_rfl⟩⟩
theorem ty102 : TIOk Tryd.prog 102 ⟨.int .u64, 1, 8, some (.int .u64), [.int .u64 0]⟩ := ⟨⟨infoOf (Tryd.prog.info? 102), by kernel_rfl, by kernel_rfl, by kernel_rfl, .int .u64 0, by kernel_rfl, by kernel_rfl⟩, (by kernel_rfl : Tryd.prog.underlying 102 = some (.int .u64))⟩
theorem ty105 : TIOk Tryd.prog 105 ⟨.arr 64 5, 64, 64, none, [.int .u8 0, .int .u8 0, .int .u8 0, .int .u8 0, .int .u8 0, .int .u8 0, .int .u8 0, .int .u8 0, .int .u8 0, .int .u8 0, .int .u8 0, .int .u8 0, .int .u8 0, .int .u8 0, .int .u8 0, .int .u8 0, .int .u8 0, .int .u8 0, .int .u8 0, .int .u8 0, .int .u8 0, .int .u8 0, .int .u8 0, .int .u8 0, .int .u8 0, .int .u8 0, .int .u8 0, .int .u8 0, .int .u8 0, .int .u8 0, .int .u8 0, .int .u8 0, .int .u8 0, .int .u8 0, .int .u8 0, .int .u8 0, .int .u8 0, .int .u8 0, .int .u8 0, .int .u8 0, .int .u8 0, .int .u8 0, .int .u8 0, .int .u8 0, .int .u8 0, .int .u8 0, .int .u8 0, .int .u8 0, .int .u8 0, .int .u8 0, .int .u8 0, .int .u8 0, .int .u8 0, .int .u8 0, .int .u8 0, .int .u8 0, .int .u8 0, .int .u8 0, .int .u8 0, .int .u8 0, .int .u8 0, .int .u8 0, .int .u8 0, .int .u8 0]⟩ := ⟨⟨infoOf (Tryd.prog.info? 105), by kernel_rfl, by kernel_rfl, by kernel_rfl, .agg #[.int .u8 0, .int .u8 0, .int .u8 0, .int .u8 0, .int .u8 0, .int .u8 0, .int .u8 0, .int .u8 0, .int .u8 0, .int .u8 0, .int .u8 0, .int .u8 0, .int .u8 0, .int .u8 0, .int .u8 0, .int .u8 0, .int .u8 0, .int .u8 0, .int .u8 0, .int .u8 0, .int .u8 0, .int .u8 0, .int .u8 0, .int .u8 0, .int .u8 0, .int .u8 0, .int .u8 0, .int .u8 0, .int .u8 0, .int .u8 0, .int .u8 0, .int .u8 0, .int .u8 0, .int .u8 0, .int .u8 0, .int .u8 0, .int .u8 0, .int .u8 0, .int .u8 0, .int .u8 0, .int .u8 0, .int .u8 0, .int .u8 0, .int .u8 0, .int .u8 0, .int .u8 0, .int .u8 0, .int .u8 0, .int .u8 0, .int .u8 0, .int .u8 0, .int .u8 0, .int .u8 0, .int .u8 0, .int .u8 0, .int .u8 0, .int .u8 0, .int .u8 0, .int .u8 0, .int .u8 0, .int .u8 0, .int .u8 0, .int .u8 0, .int .u8 0], by kernel_rfl, by kernel_rfl⟩, (by kernel_rfl : Tryd.prog.underlying 105 = some (.array 64 5))⟩
def tys : List (TypeId × TI) := [(3, ⟨.int .i64, 1, 8, some (.int .i64), [.int .i64 0]⟩), (4, ⟨.bool, 1, 1, some .bool, [.bool false]⟩), (5, ⟨.int .u8, 1, 1, some (.int .u8), [.int .u8 0]⟩), (9, ⟨.str, 1, 16, some .str, [.string ByteArray.empty]⟩), (22, ⟨.slice 5, 1, 24, some (.list (.int .u8)), [.slice none 0 0]⟩), (25, ⟨.slice 3, 1, 24, some (.list (.int .i64)), [.slice none 0 0]⟩), (40, ⟨.scalar, 1, 8, none, [.pointer none]⟩), (44, ⟨.strct [(0, 25), (1, 25), (2, 3), (3, 3)], 4, 64, some (.pair (.list (.int .i64)) (.pair (.list (.int .i64)) (.pair (.int .i64) (.pair (.int .i64) .unit)))), [.slice none 0 0, .slice none 0 0, .int .i64 0, .int .i64 0]⟩), (47, ⟨.map 5 51, 1, 8, none, [.map none]⟩), (51, ⟨.scalar, 1, 8, none, [.nilFunc]⟩), (52, ⟨.slice 55, 1, 24, some (.list (.int .u64)), [.slice none 0 0]⟩), (55, ⟨.int .u64, 1, 8, some (.int .u64), [.int .u64 0]⟩), (57, ⟨.slice 4, 1, 24, some (.list .bool), [.slice none 0 0]⟩), (59, ⟨.meths [("loop.example/headtrees/impl.putNext", 54)], 1, 8, none, [.pointer none]⟩), (62, ⟨.map 5 69, 1, 8, none, [.map none]⟩), (65, ⟨.strct [(0, 44), (4, 55)], 5, 72, some (.pair (.pair (.list (.int .i64)) (.pair (.list (.int .i64)) (.pair (.int .i64) (.pair (.int .i64) .unit)))) (.pair (.int .u64) .unit)), [.slice none 0 0, .slice none 0 0, .int .i64 0, .int .i64 0, .int .u64 0]⟩), (69, ⟨.scalar, 1, 8, none, [.nilFunc]⟩), (72, ⟨.strct [(0, 22), (1, 3)], 2, 32, some (.pair (.list (.int .u8)) (.pair (.int .i64) .unit)), [.slice none 0 0, .int .i64 0]⟩), (73, ⟨.slice 9, 1, 24, some (.list .str), [.slice none 0 0]⟩), (79, ⟨.scalar, 1, 8, none, [.nilFunc]⟩), (91, ⟨.strct [(0, 25), (1, 3), (2, 3)], 3, 40, some (.pair (.list (.int .i64)) (.pair (.int .i64) (.pair (.int .i64) .unit))), [.slice none 0 0, .int .i64 0, .int .i64 0]⟩), (102, ⟨.int .u64, 1, 8, some (.int .u64), [.int .u64 0]⟩), (105, ⟨.arr 64 5, 64, 64, none, [.int .u8 0, .int .u8 0, .int .u8 0, .int .u8 0, .int .u8 0, .int .u8 0, .int .u8 0, .int .u8 0, .int .u8 0, .int .u8 0, .int .u8 0, .int .u8 0, .int .u8 0, .int .u8 0, .int .u8 0, .int .u8 0, .int .u8 0, .int .u8 0, .int .u8 0, .int .u8 0, .int .u8 0, .int .u8 0, .int .u8 0, .int .u8 0, .int .u8 0, .int .u8 0, .int .u8 0, .int .u8 0, .int .u8 0, .int .u8 0, .int .u8 0, .int .u8 0, .int .u8 0, .int .u8 0, .int .u8 0, .int .u8 0, .int .u8 0, .int .u8 0, .int .u8 0, .int .u8 0, .int .u8 0, .int .u8 0, .int .u8 0, .int .u8 0, .int .u8 0, .int .u8 0, .int .u8 0, .int .u8 0, .int .u8 0, .int .u8 0, .int .u8 0, .int .u8 0, .int .u8 0, .int .u8 0, .int .u8 0, .int .u8 0, .int .u8 0, .int .u8 0, .int .u8 0, .int .u8 0, .int .u8 0, .int .u8 0, .int .u8 0, .int .u8 0]⟩)]
theorem tys_ok : TOk Tryd.prog (tlook tys) := tok_of (List.forall_mem_cons.2 ⟨ty3, List.forall_mem_cons.2 ⟨ty4, List.forall_mem_cons.2 ⟨ty5, List.forall_mem_cons.2 ⟨ty9, List.forall_mem_cons.2 ⟨ty22, List.forall_mem_cons.2 ⟨ty25, List.forall_mem_cons.2 ⟨ty40, List.forall_mem_cons.2 ⟨ty44, List.forall_mem_cons.2 ⟨ty47, List.forall_mem_cons.2 ⟨ty51, List.forall_mem_cons.2 ⟨ty52, List.forall_mem_cons.2 ⟨ty55, List.forall_mem_cons.2 ⟨ty57, List.forall_mem_cons.2 ⟨ty59, List.forall_mem_cons.2 ⟨ty62, List.forall_mem_cons.2 ⟨ty65, List.forall_mem_cons.2 ⟨ty69, List.forall_mem_cons.2 ⟨ty72, List.forall_mem_cons.2 ⟨ty73, List.forall_mem_cons.2 ⟨ty79, List.forall_mem_cons.2 ⟨ty91, List.forall_mem_cons.2 ⟨ty102, List.forall_mem_cons.2 ⟨ty105, by simp⟩⟩⟩⟩⟩⟩⟩⟩⟩⟩⟩⟩⟩⟩⟩⟩⟩⟩⟩⟩⟩⟩⟩)
def ioF (f : FuncId) (i : Nat) : Bool := [(46, 0), (61, 0), (64, 1)].any fun (p : Nat × Nat) => Nat.beq p.1 f && Nat.beq p.2 i


/-! loop.example/headtrees/impl.newStackMachine -/

def impl_newStackMachine_an : Ann := (.seq (.leaf [0]) (.seq (.leaf [2]) (.leaf [2])))

noncomputable def impl_newStackMachine_ctx : Ctx := ⟨tlook tys, olook [], ioF, 0, false, []⟩

theorem impl_newStackMachine_n1_l (x911 : Int) : Link impl_newStackMachine_ctx LL (bodyOf Tryd.f33) impl_newStackMachine_an (⟨mkE 7 0 [(0, .dat (.int .i64) x911)], []⟩ : St) (impl_newStackMachine_n1 x911) (fun (t : (List Int)) => (Exit.ret, (⟨mkE 7 0 [(2, .ptr 0 0)], [some (.box [.slc 1, .nils, .dat (.int .i64) 0, .dat (.int .i64) 0]), some (.seq (.int .i64) t)]⟩ : St))) := by
  refine Link.of fun K h => ?_
  simp only [impl_newStackMachine_n1, wpO_bind, wpO_cond, wpO_map, wpO_some] at h
  exact Awp.of (by kernel_rfl) h

theorem impl_newStackMachine_e (x911 : Int) {r : AV} {H' : Heap} (h : (Ans.mk _ (impl_newStackMachine x911) (fun (t : (List Int)) => (.ptr 0 0, [some (.box [.slc 1, .nils, .dat (.int .i64) 0, .dat (.int .i64) 0]), some (.seq (.int .i64) t)])) [] none).run = some (r, H')) : Awp impl_newStackMachine_ctx LL (bodyOf Tryd.f33) impl_newStackMachine_an (⟨mkE 7 0 [(0, .dat (.int .i64) x911)], []⟩ : St) (Ret (tlook tys) Tryd.f33.results.toList r H') :=
  ret_of' (impl_newStackMachine_n1_l x911) (by unfold impl_newStackMachine; kernel_rfl) (by
  intro t
  exact ret_mk [.ptr 0 0] (by kernel_rfl) (by kernel_rfl) (by kernel_rfl) (by kernel_rfl)) h

def F_impl_newStackMachine : Fun := fun avs H =>
  match avs, H with
  | [.dat (.int .i64) x911], [] => ⟨_, impl_newStackMachine x911, fun (t : (List Int)) => (.ptr 0 0, [some (.box [.slc 1, .nils, .dat (.int .i64) 0, .dat (.int .i64) 0]), some (.seq (.int .i64) t)]), [], none⟩
  | _, _ => Ans.no

theorem impl_newStackMachine_sound : Sound Tryd.prog 33 F_impl_newStackMachine := by
  refine fn_sound' (C := impl_newStackMachine_ctx) (c := bodyOf Tryd.f33) (cok_of tys_ok (by simp) (by simp) (by kernel_rfl)) Tryd.func33 (by kernel_rfl) LL impl_newStackMachine_an ?_
  intro avs H r H' h
  unfold F_impl_newStackMachine at h
  split at h
  · refine Awp.cast ?_ ?_ ?_ (impl_newStackMachine_e _ h) <;> kernel_rfl
  · simp [Ans.no, Ans.run] at h


/-! loop.example/headtrees/impl.stackMoves -/

def F_impl_stackMoves : Fun := F_map [(.int .u8 83, .func 54), (.int .u8 76, .func 55), (.int .u8 82, .func 56)]

theorem impl_stackMoves_sound : Sound Tryd.prog 34 F_impl_stackMoves :=
  mapfn_sound (mt := 47) (kt := 5) (et := 51) (d := .int .u8) Tryd.func34 (by kernel_rfl) (by kernel_rfl) (by kernel_rfl) (by kernel_rfl) (by kernel_rfl)


/-! (*loop.example/headtrees/impl.stackMachine).putNext -/

def impl_stackMachine_putNext_an : Ann := (.seq (.leaf [0]) (.seq (.seq (.draw [] [0, 1, 2, 3, 4, 5, 6, 7, 8, 9] [] [0, 12]) (.cond (.seq (.leaf [2]) (.leaf [2])) (.leaf [0]))) (.seq (.leaf [0]) (.seq (.draw [] [0, 1, 2, 3, 4, 5, 6, 7, 8, 9, 10, 11, 12, 13] [] [0]) (.seq (.draw [] [0, 1, 2, 3, 4, 5, 6, 7, 8, 9, 10, 11, 12, 13] [] []) (.seq (.leaf [2]) (.leaf [2])))))))

noncomputable def impl_stackMachine_putNext_ctx : Ctx := ⟨tlook tys, olook [], ioF, 3, false, [2]⟩

theorem impl_stackMachine_putNext_n1_l (x1204 : Int) (x1205 : Int) (x1206 : List Int) (x1207 : List Int) : Link impl_stackMachine_putNext_ctx LL (bodyOf Tryd.f54) impl_stackMachine_putNext_an (⟨mkE 46 0 [(0, .ptr 0 0)], [some (.box [.slc 1, .slc 2, .dat (.int .i64) x1204, .dat (.int .i64) x1205]), some (.seq (.int .i64) x1206), some (.seq (.int .i64) x1207)]⟩ : St) (impl_stackMachine_putNext_n1 x1204 x1205 x1206 x1207) (fun (t : Bool × Int × Int × (List Int)) => (Exit.ret, (⟨mkE 46 0 [(2, .dat .bool t.1)], [some (.box [.slc 1, .slc 2, .dat (.int .i64) t.2.1, .dat (.int .i64) t.2.2.1]), some (.seq (.int .i64) x1206), some (.seq (.int .i64) t.2.2.2)]⟩ : St))) := by
  refine Link.of fun K h => ?_
  simp only [impl_stackMachine_putNext_n1, wpO_bind, wpO_cond, wpO_map, wpO_some] at h
  exact Awp.of (by kernel_rfl) h

theorem impl_stackMachine_putNext_e (x1204 : Int) (x1205 : Int) (x1206 : List Int) (x1207 : List Int) {r : AV} {H' : Heap} (h : (Ans.mk _ (impl_stackMachine_putNext x1204 x1205 x1206 x1207) (fun (t : Bool × Int × Int × (List Int)) => (.dat .bool t.1, [some (.box [.slc 1, .slc 2, .dat (.int .i64) t.2.1, .dat (.int .i64) t.2.2.1]), some (.seq (.int .i64) x1206), some (.seq (.int .i64) t.2.2.2)])) [2] none).run = some (r, H')) : Awp impl_stackMachine_putNext_ctx LL (bodyOf Tryd.f54) impl_stackMachine_putNext_an (⟨mkE 46 0 [(0, .ptr 0 0)], [some (.box [.slc 1, .slc 2, .dat (.int .i64) x1204, .dat (.int .i64) x1205]), some (.seq (.int .i64) x1206), some (.seq (.int .i64) x1207)]⟩ : St) (Ret (tlook tys) Tryd.f54.results.toList r H') :=
  ret_of' (impl_stackMachine_putNext_n1_l x1204 x1205 x1206 x1207) (by unfold impl_stackMachine_putNext; kernel_rfl) (by
  intro t
  exact ret_mk [.dat .bool t.1] (by kernel_rfl) (by kernel_rfl) (by kernel_rfl) (by kernel_rfl)) h

def F_impl_stackMachine_putNext : Fun := fun avs H =>
  match avs, H with
  | [.ptr 0 0], [some (.box [.slc 1, .slc 2, .dat (.int .i64) x1204, .dat (.int .i64) x1205]), some (.seq (.int .i64) x1206), some (.seq (.int .i64) x1207)] => ⟨_, impl_stackMachine_putNext x1204 x1205 x1206 x1207, fun (t : Bool × Int × Int × (List Int)) => (.dat .bool t.1, [some (.box [.slc 1, .slc 2, .dat (.int .i64) t.2.1, .dat (.int .i64) t.2.2.1]), some (.seq (.int .i64) x1206), some (.seq (.int .i64) t.2.2.2)]), [2], none⟩
  | _, _ => Ans.no

theorem impl_stackMachine_putNext_sound : Sound Tryd.prog 54 F_impl_stackMachine_putNext := by
  refine fn_sound' (C := impl_stackMachine_putNext_ctx) (c := bodyOf Tryd.f54) (cok_of tys_ok (by simp) (by simp) (by kernel_rfl)) Tryd.func54 (by kernel_rfl) LL impl_stackMachine_putNext_an ?_
  intro avs H r H' h
  unfold F_impl_stackMachine_putNext at h
  split at h
  · refine Awp.cast ?_ ?_ ?_ (impl_stackMachine_putNext_e _ _ _ _ h) <;> kernel_rfl
  · simp [Ans.no, Ans.run] at h


/-! (*loop.example/headtrees/impl.stackMachine).upperTwo -/

def impl_stackMachine_upperTwo_an : Ann := (.seq (.leaf [0]) (.seq (.leaf [0, 5]) (.seq (.seq (.leaf [0, 5, 12]) (.cond (.seq (.leaf [2, 3, 4]) (.leaf [2, 3, 4])) (.leaf [0, 5]))) (.seq (.draw [] [0, 1, 2, 3, 4, 5, 6, 7, 8, 9, 10, 11, 12, 13, 14, 15, 16, 17, 18] [] [2, 3, 4]) (.leaf [2, 3, 4])))))

noncomputable def impl_stackMachine_upperTwo_ctx : Ctx := ⟨tlook tys, olook [], ioF, 3, false, []⟩

theorem impl_stackMachine_upperTwo_n1_l (x1048 : Int) (x1049 : Int) (x1050 : List Int) (x1051 : List Int) : Link impl_stackMachine_upperTwo_ctx LL (bodyOf Tryd.f60) impl_stackMachine_upperTwo_an (⟨mkE 29 0 [(0, .ptr 0 0)], [some (.box [.slc 1, .slc 2, .dat (.int .i64) x1048, .dat (.int .i64) x1049]), some (.seq (.int .i64) x1050), some (.seq (.int .i64) x1051)]⟩ : St) (impl_stackMachine_upperTwo_n1 x1051) (fun (t : Int × Int × Bool) => (Exit.ret, (⟨mkE 29 0 [(2, .dat (.int .i64) t.1), (3, .dat (.int .i64) t.2.1), (4, .dat .bool t.2.2)], [some (.box [.slc 1, .slc 2, .dat (.int .i64) x1048, .dat (.int .i64) x1049]), some (.seq (.int .i64) x1050), some (.seq (.int .i64) x1051)]⟩ : St))) := by
  refine Link.of fun K h => ?_
  simp only [impl_stackMachine_upperTwo_n1, wpO_bind, wpO_cond, wpO_map, wpO_some] at h
  exact Awp.of (by kernel_rfl) h

theorem impl_stackMachine_upperTwo_e (x1048 : Int) (x1049 : Int) (x1050 : List Int) (x1051 : List Int) {r : AV} {H' : Heap} (h : (Ans.mk _ (impl_stackMachine_upperTwo x1048 x1049 x1050 x1051) (fun (t : Int × Int × Bool) => (.tup [.dat (.int .i64) t.1, .dat (.int .i64) t.2.1, .dat .bool t.2.2], [some (.box [.slc 1, .slc 2, .dat (.int .i64) x1048, .dat (.int .i64) x1049]), some (.seq (.int .i64) x1050), some (.seq (.int .i64) x1051)])) [] none).run = some (r, H')) : Awp impl_stackMachine_upperTwo_ctx LL (bodyOf Tryd.f60) impl_stackMachine_upperTwo_an (⟨mkE 29 0 [(0, .ptr 0 0)], [some (.box [.slc 1, .slc 2, .dat (.int .i64) x1048, .dat (.int .i64) x1049]), some (.seq (.int .i64) x1050), some (.seq (.int .i64) x1051)]⟩ : St) (Ret (tlook tys) Tryd.f60.results.toList r H') :=
  ret_of' (impl_stackMachine_upperTwo_n1_l x1048 x1049 x1050 x1051) (by unfold impl_stackMachine_upperTwo; kernel_rfl) (by
  intro t
  exact ret_mk [.dat (.int .i64) t.1, .dat (.int .i64) t.2.1, .dat .bool t.2.2] (by kernel_rfl) (by kernel_rfl) (by kernel_rfl) (by kernel_rfl)) h

def F_impl_stackMachine_upperTwo : Fun := fun avs H =>
  match avs, H with
  | [.ptr 0 0], [some (.box [.slc 1, .slc 2, .dat (.int .i64) x1048, .dat (.int .i64) x1049]), some (.seq (.int .i64) x1050), some (.seq (.int .i64) x1051)] => ⟨_, impl_stackMachine_upperTwo x1048 x1049 x1050 x1051, fun (t : Int × Int × Bool) => (.tup [.dat (.int .i64) t.1, .dat (.int .i64) t.2.1, .dat .bool t.2.2], [some (.box [.slc 1, .slc 2, .dat (.int .i64) x1048, .dat (.int .i64) x1049]), some (.seq (.int .i64) x1050), some (.seq (.int .i64) x1051)]), [], none⟩
  | _, _ => Ans.no

theorem impl_stackMachine_upperTwo_sound : Sound Tryd.prog 60 F_impl_stackMachine_upperTwo := by
  refine fn_sound' (C := impl_stackMachine_upperTwo_ctx) (c := bodyOf Tryd.f60) (cok_of tys_ok (by simp) (by simp) (by kernel_rfl)) Tryd.func60 (by kernel_rfl) LL impl_stackMachine_upperTwo_an ?_
  intro avs H r H' h
  unfold F_impl_stackMachine_upperTwo at h
  split at h
  · refine Awp.cast ?_ ?_ ?_ (impl_stackMachine_upperTwo_e _ _ _ _ h) <;> kernel_rfl
  · simp [Ans.no, Ans.run] at h


/-! (*loop.example/headtrees/impl.stackMachine).join -/

def impl_stackMachine_join_an : Ann := (.seq (.leaf [0, 2]) (.draw [] [0, 1, 2, 3, 4, 5, 6, 7, 8, 9, 10, 11, 12, 13, 14, 15, 16, 17] [] []))

noncomputable def impl_stackMachine_join_ctx : Ctx := ⟨tlook tys, olook [], ioF, 3, false, [2]⟩

theorem impl_stackMachine_join_n1_l (x1082 : Int) (x1083 : Int) (x1084 : Int) (x1085 : Int) (x1086 : List Int) (x1087 : List Int) : Link impl_stackMachine_join_ctx LL (bodyOf Tryd.f75) impl_stackMachine_join_an (⟨mkE 31 0 [(0, .ptr 0 0), (1, .dat (.int .i64) x1082), (2, .dat (.int .i64) x1083)], [some (.box [.slc 1, .slc 2, .dat (.int .i64) x1084, .dat (.int .i64) x1085]), some (.seq (.int .i64) x1086), some (.seq (.int .i64) x1087)]⟩ : St) (impl_stackMachine_join_n1 x1082 x1083 x1086 x1087) (fun (t : (List Int) × (List Int)) => (Exit.normal, (⟨mkE 31 0 [], [some (.box [.slc 1, .slc 2, .dat (.int .i64) x1084, .dat (.int .i64) x1085]), some (.seq (.int .i64) t.1), some (.seq (.int .i64) t.2)]⟩ : St))) := by
  refine Link.of fun K h => ?_
  simp only [impl_stackMachine_join_n1, wpO_bind, wpO_cond, wpO_map, wpO_some] at h
  exact Awp.of (by kernel_rfl) h

theorem impl_stackMachine_join_e (x1082 : Int) (x1083 : Int) (x1084 : Int) (x1085 : Int) (x1086 : List Int) (x1087 : List Int) {r : AV} {H' : Heap} (h : (Ans.mk _ (impl_stackMachine_join x1082 x1083 x1084 x1085 x1086 x1087) (fun (t : (List Int) × (List Int)) => (.tup [], [some (.box [.slc 1, .slc 2, .dat (.int .i64) x1084, .dat (.int .i64) x1085]), some (.seq (.int .i64) t.1), some (.seq (.int .i64) t.2)])) [2] none).run = some (r, H')) : Awp impl_stackMachine_join_ctx LL (bodyOf Tryd.f75) impl_stackMachine_join_an (⟨mkE 31 0 [(0, .ptr 0 0), (1, .dat (.int .i64) x1082), (2, .dat (.int .i64) x1083)], [some (.box [.slc 1, .slc 2, .dat (.int .i64) x1084, .dat (.int .i64) x1085]), some (.seq (.int .i64) x1086), some (.seq (.int .i64) x1087)]⟩ : St) (Ret (tlook tys) Tryd.f75.results.toList r H') :=
  ret_of (impl_stackMachine_join_n1_l x1082 x1083 x1084 x1085 x1086 x1087) (fun (t : (List Int) × (List Int)) => (t.1, t.2)) (by unfold impl_stackMachine_join; kernel_rfl) (by
  rintro t
  · exact ret_mk [] (by kernel_rfl) (by kernel_rfl) (by kernel_rfl) (by kernel_rfl)) h

def F_impl_stackMachine_join : Fun := fun avs H =>
  match avs, H with
  | [.ptr 0 0, .dat (.int .i64) x1082, .dat (.int .i64) x1083], [some (.box [.slc 1, .slc 2, .dat (.int .i64) x1084, .dat (.int .i64) x1085]), some (.seq (.int .i64) x1086), some (.seq (.int .i64) x1087)] => ⟨_, impl_stackMachine_join x1082 x1083 x1084 x1085 x1086 x1087, fun (t : (List Int) × (List Int)) => (.tup [], [some (.box [.slc 1, .slc 2, .dat (.int .i64) x1084, .dat (.int .i64) x1085]), some (.seq (.int .i64) t.1), some (.seq (.int .i64) t.2)]), [2], none⟩
  | _, _ => Ans.no

theorem impl_stackMachine_join_sound : Sound Tryd.prog 75 F_impl_stackMachine_join := by
  refine fn_sound' (C := impl_stackMachine_join_ctx) (c := bodyOf Tryd.f75) (cok_of tys_ok (by simp) (by simp) (by kernel_rfl)) Tryd.func75 (by kernel_rfl) LL impl_stackMachine_join_an ?_
  intro avs H r H' h
  unfold F_impl_stackMachine_join at h
  split at h
  · refine Awp.cast ?_ ?_ ?_ (impl_stackMachine_join_e _ _ _ _ _ _ h) <;> kernel_rfl
  · simp [Ans.no, Ans.run] at h


/-! (*loop.example/headtrees/impl.stackMachine).takeBelow -/

def impl_stackMachine_takeBelow_an : Ann := (.seq (.leaf [0]) (.seq (.leaf [0, 3, 4, 5]) (.seq (.seq (.leaf [0, 3, 4, 5, 12]) (.cond (.leaf [5]) (.leaf [5]))) (.seq (.leaf [2]) (.leaf [2])))))

noncomputable def impl_stackMachine_takeBelow_ctx : Ctx := ⟨tlook tys, olook [(60, F_impl_stackMachine_upperTwo), (75, F_impl_stackMachine_join)], ioF, 3, false, [2]⟩

theorem impl_stackMachine_takeBelow_n1_l (x1258 : Int) (x1259 : Int) (x1260 : List Int) (x1261 : List Int) : Link impl_stackMachine_takeBelow_ctx LL (bodyOf Tryd.f55) impl_stackMachine_takeBelow_an (⟨mkE 18 0 [(0, .ptr 0 0)], [some (.box [.slc 1, .slc 2, .dat (.int .i64) x1258, .dat (.int .i64) x1259]), some (.seq (.int .i64) x1260), some (.seq (.int .i64) x1261)]⟩ : St) (impl_stackMachine_takeBelow_n1 x1258 x1259 x1260 x1261) (fun (t : Bool × (List Int) × (List Int)) => (Exit.ret, (⟨mkE 18 0 [(2, .dat .bool t.1)], [some (.box [.slc 1, .slc 2, .dat (.int .i64) x1258, .dat (.int .i64) x1259]), some (.seq (.int .i64) t.2.1), some (.seq (.int .i64) t.2.2)]⟩ : St))) := by
  refine Link.of fun K h => ?_
  simp only [impl_stackMachine_takeBelow_n1, wpO_bind, wpO_cond, wpO_map, wpO_some] at h
  exact Awp.of (by kernel_rfl) h

theorem impl_stackMachine_takeBelow_e (x1258 : Int) (x1259 : Int) (x1260 : List Int) (x1261 : List Int) {r : AV} {H' : Heap} (h : (Ans.mk _ (impl_stackMachine_takeBelow x1258 x1259 x1260 x1261) (fun (t : Bool × (List Int) × (List Int)) => (.dat .bool t.1, [some (.box [.slc 1, .slc 2, .dat (.int .i64) x1258, .dat (.int .i64) x1259]), some (.seq (.int .i64) t.2.1), some (.seq (.int .i64) t.2.2)])) [2] none).run = some (r, H')) : Awp impl_stackMachine_takeBelow_ctx LL (bodyOf Tryd.f55) impl_stackMachine_takeBelow_an (⟨mkE 18 0 [(0, .ptr 0 0)], [some (.box [.slc 1, .slc 2, .dat (.int .i64) x1258, .dat (.int .i64) x1259]), some (.seq (.int .i64) x1260), some (.seq (.int .i64) x1261)]⟩ : St) (Ret (tlook tys) Tryd.f55.results.toList r H') :=
  ret_of' (impl_stackMachine_takeBelow_n1_l x1258 x1259 x1260 x1261) (by unfold impl_stackMachine_takeBelow; kernel_rfl) (by
  intro t
  exact ret_mk [.dat .bool t.1] (by kernel_rfl) (by kernel_rfl) (by kernel_rfl) (by kernel_rfl)) h

def F_impl_stackMachine_takeBelow : Fun := fun avs H =>
  match avs, H with
  | [.ptr 0 0], [some (.box [.slc 1, .slc 2, .dat (.int .i64) x1258, .dat (.int .i64) x1259]), some (.seq (.int .i64) x1260), some (.seq (.int .i64) x1261)] => ⟨_, impl_stackMachine_takeBelow x1258 x1259 x1260 x1261, fun (t : Bool × (List Int) × (List Int)) => (.dat .bool t.1, [some (.box [.slc 1, .slc 2, .dat (.int .i64) x1258, .dat (.int .i64) x1259]), some (.seq (.int .i64) t.2.1), some (.seq (.int .i64) t.2.2)]), [2], none⟩
  | _, _ => Ans.no

theorem impl_stackMachine_takeBelow_sound : Sound Tryd.prog 55 F_impl_stackMachine_takeBelow := by
  refine fn_sound' (C := impl_stackMachine_takeBelow_ctx) (c := bodyOf Tryd.f55) (cok_of tys_ok (List.forall_mem_cons.2 ⟨impl_stackMachine_upperTwo_sound, List.forall_mem_cons.2 ⟨impl_stackMachine_join_sound, by simp⟩⟩) (List.forall_mem_cons.2 ⟨Tryd.call60, List.forall_mem_cons.2 ⟨Tryd.call75, by simp⟩⟩) (by kernel_rfl)) Tryd.func55 (by kernel_rfl) LL impl_stackMachine_takeBelow_an ?_
  intro avs H r H' h
  unfold F_impl_stackMachine_takeBelow at h
  split at h
  · refine Awp.cast ?_ ?_ ?_ (impl_stackMachine_takeBelow_e _ _ _ _ h) <;> kernel_rfl
  · simp [Ans.no, Ans.run] at h


/-! (*loop.example/headtrees/impl.stackMachine).takeUpper -/

def impl_stackMachine_takeUpper_an : Ann := (.seq (.leaf [0]) (.seq (.leaf [0, 3, 4, 5]) (.seq (.seq (.leaf [0, 3, 4, 5, 12]) (.cond (.leaf [5]) (.leaf [5]))) (.seq (.leaf [2]) (.leaf [2])))))

noncomputable def impl_stackMachine_takeUpper_ctx : Ctx := ⟨tlook tys, olook [(60, F_impl_stackMachine_upperTwo), (75, F_impl_stackMachine_join)], ioF, 3, false, [2]⟩

theorem impl_stackMachine_takeUpper_n1_l (x1295 : Int) (x1296 : Int) (x1297 : List Int) (x1298 : List Int) : Link impl_stackMachine_takeUpper_ctx LL (bodyOf Tryd.f56) impl_stackMachine_takeUpper_an (⟨mkE 18 0 [(0, .ptr 0 0)], [some (.box [.slc 1, .slc 2, .dat (.int .i64) x1295, .dat (.int .i64) x1296]), some (.seq (.int .i64) x1297), some (.seq (.int .i64) x1298)]⟩ : St) (impl_stackMachine_takeUpper_n1 x1295 x1296 x1297 x1298) (fun (t : Bool × (List Int) × (List Int)) => (Exit.ret, (⟨mkE 18 0 [(2, .dat .bool t.1)], [some (.box [.slc 1, .slc 2, .dat (.int .i64) x1295, .dat (.int .i64) x1296]), some (.seq (.int .i64) t.2.1), some (.seq (.int .i64) t.2.2)]⟩ : St))) := by
  refine Link.of fun K h => ?_
  simp only [impl_stackMachine_takeUpper_n1, wpO_bind, wpO_cond, wpO_map, wpO_some] at h
  exact Awp.of (by kernel_rfl) h

theorem impl_stackMachine_takeUpper_e (x1295 : Int) (x1296 : Int) (x1297 : List Int) (x1298 : List Int) {r : AV} {H' : Heap} (h : (Ans.mk _ (impl_stackMachine_takeUpper x1295 x1296 x1297 x1298) (fun (t : Bool × (List Int) × (List Int)) => (.dat .bool t.1, [some (.box [.slc 1, .slc 2, .dat (.int .i64) x1295, .dat (.int .i64) x1296]), some (.seq (.int .i64) t.2.1), some (.seq (.int .i64) t.2.2)])) [2] none).run = some (r, H')) : Awp impl_stackMachine_takeUpper_ctx LL (bodyOf Tryd.f56) impl_stackMachine_takeUpper_an (⟨mkE 18 0 [(0, .ptr 0 0)], [some (.box [.slc 1, .slc 2, .dat (.int .i64) x1295, .dat (.int .i64) x1296]), some (.seq (.int .i64) x1297), some (.seq (.int .i64) x1298)]⟩ : St) (Ret (tlook tys) Tryd.f56.results.toList r H') :=
  ret_of' (impl_stackMachine_takeUpper_n1_l x1295 x1296 x1297 x1298) (by unfold impl_stackMachine_takeUpper; kernel_rfl) (by
  intro t
  exact ret_mk [.dat .bool t.1] (by kernel_rfl) (by kernel_rfl) (by kernel_rfl) (by kernel_rfl)) h

def F_impl_stackMachine_takeUpper : Fun := fun avs H =>
  match avs, H with
  | [.ptr 0 0], [some (.box [.slc 1, .slc 2, .dat (.int .i64) x1295, .dat (.int .i64) x1296]), some (.seq (.int .i64) x1297), some (.seq (.int .i64) x1298)] => ⟨_, impl_stackMachine_takeUpper x1295 x1296 x1297 x1298, fun (t : Bool × (List Int) × (List Int)) => (.dat .bool t.1, [some (.box [.slc 1, .slc 2, .dat (.int .i64) x1295, .dat (.int .i64) x1296]), some (.seq (.int .i64) t.2.1), some (.seq (.int .i64) t.2.2)]), [2], none⟩
  | _, _ => Ans.no

theorem impl_stackMachine_takeUpper_sound : Sound Tryd.prog 56 F_impl_stackMachine_takeUpper := by
  refine fn_sound' (C := impl_stackMachine_takeUpper_ctx) (c := bodyOf Tryd.f56) (cok_of tys_ok (List.forall_mem_cons.2 ⟨impl_stackMachine_upperTwo_sound, List.forall_mem_cons.2 ⟨impl_stackMachine_join_sound, by simp⟩⟩) (List.forall_mem_cons.2 ⟨Tryd.call60, List.forall_mem_cons.2 ⟨Tryd.call75, by simp⟩⟩) (by kernel_rfl)) Tryd.func56 (by kernel_rfl) LL impl_stackMachine_takeUpper_an ?_
  intro avs H r H' h
  unfold F_impl_stackMachine_takeUpper at h
  split at h
  · refine Awp.cast ?_ ?_ ?_ (impl_stackMachine_takeUpper_e _ _ _ _ h) <;> kernel_rfl
  · simp [Ans.no, Ans.run] at h


/-! loop.example/headtrees/spec.l1In -/

def spec_l1In_an : Ann := (.seq (.leaf [0, 1, 2]) (.seq (.leaf [6]) (.leaf [6])))

noncomputable def spec_l1In_ctx : Ctx := ⟨tlook tys, olook [], ioF, 0, false, []⟩

theorem spec_l1In_n1_l (x1554 : Int) (x1555 : Int) (x1556 : Int) : Link spec_l1In_ctx LL (bodyOf Tryd.f30) spec_l1In_an (⟨mkE 15 0 [(0, .dat (.int .i64) x1554), (1, .dat (.int .i64) x1555), (2, .dat (.int .i64) x1556)], []⟩ : St) (spec_l1In_n1 x1554 x1555 x1556) (fun (t : Bool) => (Exit.ret, (⟨mkE 15 0 [(6, .dat .bool t)], []⟩ : St))) := by
  refine Link.of fun K h => ?_
  simp only [spec_l1In_n1, wpO_bind, wpO_cond, wpO_map, wpO_some] at h
  exact Awp.of (by kernel_rfl) h

theorem spec_l1In_e (x1554 : Int) (x1555 : Int) (x1556 : Int) {r : AV} {H' : Heap} (h : (Ans.mk _ (spec_l1In x1554 x1555 x1556) (fun (t : Bool) => (.dat .bool t, [])) [] none).run = some (r, H')) : Awp spec_l1In_ctx LL (bodyOf Tryd.f30) spec_l1In_an (⟨mkE 15 0 [(0, .dat (.int .i64) x1554), (1, .dat (.int .i64) x1555), (2, .dat (.int .i64) x1556)], []⟩ : St) (Ret (tlook tys) Tryd.f30.results.toList r H') :=
  ret_of' (spec_l1In_n1_l x1554 x1555 x1556) (by unfold spec_l1In; kernel_rfl) (by
  intro t
  exact ret_mk [.dat .bool t] (by kernel_rfl) (by kernel_rfl) (by kernel_rfl) (by kernel_rfl)) h

def F_spec_l1In : Fun := fun avs H =>
  match avs, H with
  | [.dat (.int .i64) x1554, .dat (.int .i64) x1555, .dat (.int .i64) x1556], [] => ⟨_, spec_l1In x1554 x1555 x1556, fun (t : Bool) => (.dat .bool t, []), [], none⟩
  | _, _ => Ans.no

theorem spec_l1In_sound : Sound Tryd.prog 30 F_spec_l1In := by
  refine fn_sound' (C := spec_l1In_ctx) (c := bodyOf Tryd.f30) (cok_of tys_ok (by simp) (by simp) (by kernel_rfl)) Tryd.func30 (by kernel_rfl) LL spec_l1In_an ?_
  intro avs H r H' h
  unfold F_spec_l1In at h
  split at h
  · refine Awp.cast ?_ ?_ ?_ (spec_l1In_e _ _ _ h) <;> kernel_rfl
  · simp [Ans.no, Ans.run] at h


/-! loop.example/headtrees/impl.oneRoot -/

def impl_oneRoot_an : Ann := (.seq (.leaf [0]) (.seq (.leaf [0, 3]) (.seq (.seq (.leaf [0, 3, 6, 7, 8]) (.block (.loop (.seq (.leaf [0, 3, 6, 7, 8, 9]) (.seq (.cond (.leaf [0, 3, 6, 7, 8]) (.leaf [3])) (.seq (.block (.seq (.leaf [0, 3, 5, 6, 7, 8]) (.seq (.seq (.leaf [0, 3, 5, 6, 7, 8, 19]) (.cond (.seq (.leaf [2]) (.leaf [2])) (.leaf [0, 3, 5, 6, 7, 8]))) (.seq (.leaf [0, 3, 6, 7, 8, 21]) (.cond (.leaf [0, 3, 6, 7, 8]) (.leaf [0, 3, 6, 7, 8])))))) (.leaf [0, 3, 6, 7, 8]))))))) (.seq (.leaf [2]) (.leaf [2])))))

noncomputable def impl_oneRoot_ctx : Ctx := ⟨tlook tys, olook [], ioF, 0, false, []⟩

theorem impl_oneRoot_n1_l (x3179 : List Int) : Link impl_oneRoot_ctx LL (Code.seq (Code.fst (bodyOf Tryd.f52)) (Code.fst (Code.snd (bodyOf Tryd.f52)))) (Ann.seq (Ann.fst impl_oneRoot_an) (Ann.fst (Ann.snd impl_oneRoot_an))) (⟨mkE 27 0 [(0, .dat (.list (.int .i64)) x3179)], []⟩ : St) (impl_oneRoot_n1) (fun (t : Unit) => (Exit.normal, (⟨mkE 27 0 [(0, .dat (.list (.int .i64)) x3179), (3, .dat (.int .i64) 0)], []⟩ : St))) := by
  refine Link.of fun K h => ?_
  simp only [impl_oneRoot_n1, wpO_bind, wpO_cond, wpO_map, wpO_some] at h
  exact Awp.of (by kernel_rfl) h

theorem impl_oneRoot_n2_l (x3179 : List Int) : Link impl_oneRoot_ctx LL (Code.fst (Code.fst (Code.snd (Code.snd (bodyOf Tryd.f52))))) (Ann.fst (Ann.fst (Ann.snd (Ann.snd impl_oneRoot_an)))) (⟨mkE 27 0 [(0, .dat (.list (.int .i64)) x3179), (3, .dat (.int .i64) 0)], []⟩ : St) (impl_oneRoot_n2 x3179) (fun (t : Int) => (Exit.normal, (⟨mkE 27 0 [(0, .dat (.list (.int .i64)) x3179), (3, .dat (.int .i64) 0), (6, .dat (.list (.int .i64)) x3179), (7, .dat (.int .i64) t), (8, .dat (.int .i64) 0)], []⟩ : St))) := by
  refine Link.of fun K h => ?_
  simp only [impl_oneRoot_n2, wpO_bind, wpO_cond, wpO_map, wpO_some] at h
  exact Awp.of (by kernel_rfl) h

theorem impl_oneRoot_n3_l (x3179 : List Int) (x3201 : Int) (x3180 : Int) (x3202 : Int) : Link impl_oneRoot_ctx LL (Code.fst (Code.fst (Code.snd (Code.fst (Code.snd (Code.snd (bodyOf Tryd.f52))))))) (Ann.fst (Ann.fst (Ann.snd (Ann.fst (Ann.snd (Ann.snd impl_oneRoot_an)))))) (⟨mkE 27 0 [(0, .dat (.list (.int .i64)) x3179), (3, .dat (.int .i64) x3201), (6, .dat (.list (.int .i64)) x3179), (7, .dat (.int .i64) x3180), (8, .dat (.int .i64) x3202)], []⟩ : St) (impl_oneRoot_n3 x3179 x3201 x3180 x3202) (Sum.elim (fun (t : Int × Int) => (Exit.normal, (⟨mkE 27 0 [(0, .dat (.list (.int .i64)) x3179), (3, .dat (.int .i64) t.1), (6, .dat (.list (.int .i64)) x3179), (7, .dat (.int .i64) x3180), (8, .dat (.int .i64) t.2)], []⟩ : St))) (Sum.elim (fun (t : Bool) => (Exit.ret, (⟨mkE 27 0 [(2, .dat .bool t)], []⟩ : St))) (fun (t : Int) => ((Exit.exit 0), (⟨mkE 27 0 [(3, .dat (.int .i64) t)], []⟩ : St))))) := by
  refine Link.of fun K h => ?_
  simp only [impl_oneRoot_n3, wpO_bind, wpO_cond, wpO_map, wpO_some] at h
  exact Awp.of (by kernel_rfl) h

theorem impl_oneRoot_n4_l (x3179 : List Int) (x3180 : Int) : Link impl_oneRoot_ctx LL (Code.fst (Code.snd (Code.fst (Code.snd (Code.snd (bodyOf Tryd.f52)))))) (Ann.fst (Ann.snd (Ann.fst (Ann.snd (Ann.snd impl_oneRoot_an))))) (⟨mkE 27 0 [(0, .dat (.list (.int .i64)) x3179), (3, .dat (.int .i64) 0), (6, .dat (.list (.int .i64)) x3179), (7, .dat (.int .i64) x3180), (8, .dat (.int .i64) 0)], []⟩ : St) (impl_oneRoot_n4 x3179 x3180) (Sum.elim (fun (t : Bool) => (Exit.ret, (⟨mkE 27 0 [(2, .dat .bool t)], []⟩ : St))) (fun (t : Int) => ((Exit.exit 0), (⟨mkE 27 0 [(3, .dat (.int .i64) t)], []⟩ : St)))) := by
  unfold impl_oneRoot_n4
  exact Link.cast (by kernel_rfl) (by kernel_rfl) (link_loop (mk := fun (s : Int × Int) => (⟨mkE 27 0 [(0, .dat (.list (.int .i64)) x3179), (3, .dat (.int .i64) s.1), (6, .dat (.list (.int .i64)) x3179), (7, .dat (.int .i64) x3180), (8, .dat (.int .i64) s.2)], []⟩ : St)) (fin := (Sum.elim (fun (t : Bool) => (Exit.ret, (⟨mkE 27 0 [(2, .dat .bool t)], []⟩ : St))) (fun (t : Int) => ((Exit.exit 0), (⟨mkE 27 0 [(3, .dat (.int .i64) t)], []⟩ : St))))) (by
  rintro (t | t) f K h
  · exact h
  · exact h) (fun s => link_map (impl_oneRoot_n3_l x3179 s.1 x3180 s.2) (Sum.elim (fun (t : Int × Int) => Sum.inl (t.1, t.2)) (Sum.elim (fun (t : Bool) => Sum.inr (Sum.inl t)) (fun (t : Int) => Sum.inr (Sum.inr t)))) (by
  rintro (t | t | t)
  · kernel_rfl
  · kernel_rfl
  · kernel_rfl)) (0, 0))

theorem impl_oneRoot_n5_l (x3179 : List Int) (x3180 : Int) : Link impl_oneRoot_ctx LL (Code.snd (Code.fst (Code.snd (Code.snd (bodyOf Tryd.f52))))) (Ann.snd (Ann.fst (Ann.snd (Ann.snd impl_oneRoot_an)))) (⟨mkE 27 0 [(0, .dat (.list (.int .i64)) x3179), (3, .dat (.int .i64) 0), (6, .dat (.list (.int .i64)) x3179), (7, .dat (.int .i64) x3180), (8, .dat (.int .i64) 0)], []⟩ : St) (impl_oneRoot_n5 x3179 x3180) (Sum.elim (fun (t : Int) => (Exit.normal, (⟨mkE 27 0 [(3, .dat (.int .i64) t)], []⟩ : St))) (fun (t : Bool) => (Exit.ret, (⟨mkE 27 0 [(2, .dat .bool t)], []⟩ : St)))) := by
  unfold impl_oneRoot_n5
  exact Link.cast (by kernel_rfl) (by kernel_rfl) (link_block (id := 0) (impl_oneRoot_n4_l x3179 x3180) (Sum.elim (fun (t : Bool) => (Sum.inr t)) (fun (t : Int) => (Sum.inl t))) (by
  rintro (t | t) K h
  · exact Eq.mp (by kernel_rfl) h
  · exact Eq.mp (by kernel_rfl) h))

theorem impl_oneRoot_n6_l (x3179 : List Int) : Link impl_oneRoot_ctx LL (Code.fst (Code.snd (Code.snd (bodyOf Tryd.f52)))) (Ann.fst (Ann.snd (Ann.snd impl_oneRoot_an))) (⟨mkE 27 0 [(0, .dat (.list (.int .i64)) x3179), (3, .dat (.int .i64) 0)], []⟩ : St) (impl_oneRoot_n6 x3179) (Sum.elim (fun (t : Int) => (Exit.normal, (⟨mkE 27 0 [(3, .dat (.int .i64) t)], []⟩ : St))) (fun (t : Bool) => (Exit.ret, (⟨mkE 27 0 [(2, .dat .bool t)], []⟩ : St)))) := by
  unfold impl_oneRoot_n6
  exact Link.cast (by kernel_rfl) (by kernel_rfl) (link_seq (b := (Code.snd (Code.fst (Code.snd (Code.snd (bodyOf Tryd.f52)))))) (y := (Ann.snd (Ann.fst (Ann.snd (Ann.snd impl_oneRoot_an))))) (impl_oneRoot_n2_l x3179) (fun (t : Int) => (impl_oneRoot_n5_l x3179 t)))

theorem impl_oneRoot_n7_l (x3201 : Int) : Link impl_oneRoot_ctx LL (Code.snd (Code.snd (Code.snd (bodyOf Tryd.f52)))) (Ann.snd (Ann.snd (Ann.snd impl_oneRoot_an))) (⟨mkE 27 0 [(3, .dat (.int .i64) x3201)], []⟩ : St) (impl_oneRoot_n7 x3201) (fun (t : Bool) => (Exit.ret, (⟨mkE 27 0 [(2, .dat .bool t)], []⟩ : St))) := by
  refine Link.of fun K h => ?_
  simp only [impl_oneRoot_n7, wpO_bind, wpO_cond, wpO_map, wpO_some] at h
  exact Awp.of (by kernel_rfl) h

theorem impl_oneRoot_n8_l (x3179 : List Int) : Link impl_oneRoot_ctx LL (Code.snd (Code.snd (bodyOf Tryd.f52))) (Ann.snd (Ann.snd impl_oneRoot_an)) (⟨mkE 27 0 [(0, .dat (.list (.int .i64)) x3179), (3, .dat (.int .i64) 0)], []⟩ : St) (impl_oneRoot_n8 x3179) (fun (t : Bool) => (Exit.ret, (⟨mkE 27 0 [(2, .dat .bool t)], []⟩ : St))) := by
  unfold impl_oneRoot_n8
  exact Link.cast (by kernel_rfl) (by kernel_rfl) (link_seq2 (b := (Code.snd (Code.snd (Code.snd (bodyOf Tryd.f52))))) (y := (Ann.snd (Ann.snd (Ann.snd impl_oneRoot_an)))) (impl_oneRoot_n6_l x3179) (fun (t : Int) => (impl_oneRoot_n7_l t)) (fun (t : Bool) => t) (by
  rintro t
  · kernel_rfl) (by
  rintro t f K h
  · exact h))

theorem impl_oneRoot_n9_l (x3179 : List Int) : Link impl_oneRoot_ctx LL (bodyOf Tryd.f52) impl_oneRoot_an (⟨mkE 27 0 [(0, .dat (.list (.int .i64)) x3179)], []⟩ : St) (impl_oneRoot_n9 x3179) (fun (t : Bool) => (Exit.ret, (⟨mkE 27 0 [(2, .dat .bool t)], []⟩ : St))) := by
  unfold impl_oneRoot_n9
  exact Link.cast (by kernel_rfl) (by kernel_rfl) (link_group (c := (Code.fst (Code.snd (bodyOf Tryd.f52)))) (a := (Ann.fst (Ann.snd impl_oneRoot_an))) [(Code.fst (bodyOf Tryd.f52))] [(Ann.fst impl_oneRoot_an)] rfl (link_seq (b := (Code.snd (Code.snd (bodyOf Tryd.f52)))) (y := (Ann.snd (Ann.snd impl_oneRoot_an))) (impl_oneRoot_n1_l x3179) (fun (t : Unit) => (impl_oneRoot_n8_l x3179))))

theorem impl_oneRoot_e (x3179 : List Int) {r : AV} {H' : Heap} (h : (Ans.mk _ (impl_oneRoot x3179) (fun (t : Bool) => (.dat .bool t, [])) [] none).run = some (r, H')) : Awp impl_oneRoot_ctx LL (bodyOf Tryd.f52) impl_oneRoot_an (⟨mkE 27 0 [(0, .dat (.list (.int .i64)) x3179)], []⟩ : St) (Ret (tlook tys) Tryd.f52.results.toList r H') :=
  ret_of' (impl_oneRoot_n9_l x3179) (by unfold impl_oneRoot; kernel_rfl) (by
  intro t
  exact ret_mk [.dat .bool t] (by kernel_rfl) (by kernel_rfl) (by kernel_rfl) (by kernel_rfl)) h

def F_impl_oneRoot : Fun := fun avs H =>
  match avs, H with
  | [.dat (.list (.int .i64)) x3179], [] => ⟨_, impl_oneRoot x3179, fun (t : Bool) => (.dat .bool t, []), [], none⟩
  | _, _ => Ans.no

theorem impl_oneRoot_sound : Sound Tryd.prog 52 F_impl_oneRoot := by
  refine fn_sound' (C := impl_oneRoot_ctx) (c := bodyOf Tryd.f52) (cok_of tys_ok (by simp) (by simp) (by kernel_rfl)) Tryd.func52 (by kernel_rfl) LL impl_oneRoot_an ?_
  intro avs H r H' h
  unfold F_impl_oneRoot at h
  split at h
  · refine Awp.cast ?_ ?_ ?_ (impl_oneRoot_e _ h) <;> kernel_rfl
  · simp [Ans.no, Ans.run] at h


/-! (*loop.example/headtrees/impl.walker).up -/

def impl_walker_up_an : Ann := (.seq (.leaf [0]) (.seq (.draw [] [0, 1, 2, 3, 4, 5, 6, 7, 8, 9, 10, 11] [] [0, 3]) (.seq (.seq (.leaf [0, 3, 16]) (.cond (.seq (.leaf [2]) (.leaf [2])) (.leaf [0, 3]))) (.seq (.leaf [0]) (.seq (.leaf []) (.seq (.leaf [2]) (.leaf [2])))))))

noncomputable def impl_walker_up_ctx : Ctx := ⟨tlook tys, olook [], ioF, 1, false, []⟩

theorem impl_walker_up_n1_l (x3235 : List Int) (x3236 : Int) (x3237 : Int) : Link impl_walker_up_ctx LL (bodyOf Tryd.f74) impl_walker_up_an (⟨mkE 28 0 [(0, .ptr 0 0)], [some (.box [.dat (.list (.int .i64)) x3235, .dat (.int .i64) x3236, .dat (.int .i64) x3237])]⟩ : St) (impl_walker_up_n1 x3235 x3236 x3237) (fun (t : Bool × Int × Int) => (Exit.ret, (⟨mkE 28 0 [(2, .dat .bool t.1)], [some (.box [.dat (.list (.int .i64)) x3235, .dat (.int .i64) t.2.1, .dat (.int .i64) t.2.2])]⟩ : St))) := by
  refine Link.of fun K h => ?_
  simp only [impl_walker_up_n1, wpO_bind, wpO_cond, wpO_map, wpO_some] at h
  exact Awp.of (by kernel_rfl) h

theorem impl_walker_up_e (x3235 : List Int) (x3236 : Int) (x3237 : Int) {r : AV} {H' : Heap} (h : (Ans.mk _ (impl_walker_up x3235 x3236 x3237) (fun (t : Bool × Int × Int) => (.dat .bool t.1, [some (.box [.dat (.list (.int .i64)) x3235, .dat (.int .i64) t.2.1, .dat (.int .i64) t.2.2])])) [] none).run = some (r, H')) : Awp impl_walker_up_ctx LL (bodyOf Tryd.f74) impl_walker_up_an (⟨mkE 28 0 [(0, .ptr 0 0)], [some (.box [.dat (.list (.int .i64)) x3235, .dat (.int .i64) x3236, .dat (.int .i64) x3237])]⟩ : St) (Ret (tlook tys) Tryd.f74.results.toList r H') :=
  ret_of' (impl_walker_up_n1_l x3235 x3236 x3237) (by unfold impl_walker_up; kernel_rfl) (by
  intro t
  exact ret_mk [.dat .bool t.1] (by kernel_rfl) (by kernel_rfl) (by kernel_rfl) (by kernel_rfl)) h

def F_impl_walker_up : Fun := fun avs H =>
  match avs, H with
  | [.ptr 0 0], [some (.box [.dat (.list (.int .i64)) x3235, .dat (.int .i64) x3236, .dat (.int .i64) x3237])] => ⟨_, impl_walker_up x3235 x3236 x3237, fun (t : Bool × Int × Int) => (.dat .bool t.1, [some (.box [.dat (.list (.int .i64)) x3235, .dat (.int .i64) t.2.1, .dat (.int .i64) t.2.2])]), [], none⟩
  | _, _ => Ans.no

theorem impl_walker_up_sound : Sound Tryd.prog 74 F_impl_walker_up := by
  refine fn_sound' (C := impl_walker_up_ctx) (c := bodyOf Tryd.f74) (cok_of tys_ok (by simp) (by simp) (by kernel_rfl)) Tryd.func74 (by kernel_rfl) LL impl_walker_up_an ?_
  intro avs H r H' h
  unfold F_impl_walker_up at h
  split at h
  · refine Awp.cast ?_ ?_ ?_ (impl_walker_up_e _ _ _ h) <;> kernel_rfl
  · simp [Ans.no, Ans.run] at h


/-! loop.example/headtrees/impl.stepsToRoot -/

def impl_stepsToRoot_an : Ann := (.seq (.leaf [0, 1]) (.seq (.leaf [0, 6]) (.seq (.block (.loop (.seq (.seq (.leaf [0, 6, 10]) (.cond (.leaf [0, 6]) (.leaf [6]))) (.block (.seq (.leaf [0, 6, 15]) (.cond (.seq (.leaf [4, 5]) (.leaf [4, 5])) (.leaf [0, 6]))))))) (.seq (.leaf [4, 5]) (.leaf [4, 5])))))

noncomputable def impl_stepsToRoot_ctx : Ctx := ⟨tlook tys, olook [(74, F_impl_walker_up)], ioF, 0, false, []⟩

theorem impl_stepsToRoot_n1_l (x3233 : List Int) (x3234 : Int) : Link impl_stepsToRoot_ctx LL (Code.seq (Code.fst (bodyOf Tryd.f53)) (Code.fst (Code.snd (bodyOf Tryd.f53)))) (Ann.seq (Ann.fst impl_stepsToRoot_an) (Ann.fst (Ann.snd impl_stepsToRoot_an))) (⟨mkE 18 0 [(0, .dat (.list (.int .i64)) x3233), (1, .dat (.int .i64) x3234)], []⟩ : St) (impl_stepsToRoot_n1) (fun (t : Unit) => (Exit.normal, (⟨mkE 18 0 [(0, .dat (.list (.int .i64)) x3233), (6, .ptr 0 0)], [some (.box [.dat (.list (.int .i64)) x3233, .dat (.int .i64) x3234, .dat (.int .i64) 0])]⟩ : St))) := by
  refine Link.of fun K h => ?_
  simp only [impl_stepsToRoot_n1, wpO_bind, wpO_cond, wpO_map, wpO_some] at h
  exact Awp.of (by kernel_rfl) h

theorem impl_stepsToRoot_n2_l (x3233 : List Int) (x3271 : Int) (x3272 : Int) : Link impl_stepsToRoot_ctx LL (Code.fst (Code.fst (Code.fst (Code.snd (Code.snd (bodyOf Tryd.f53)))))) (Ann.fst (Ann.fst (Ann.fst (Ann.snd (Ann.snd impl_stepsToRoot_an))))) (⟨mkE 18 0 [(0, .dat (.list (.int .i64)) x3233), (6, .ptr 0 0)], [some (.box [.dat (.list (.int .i64)) x3233, .dat (.int .i64) x3271, .dat (.int .i64) x3272])]⟩ : St) (impl_stepsToRoot_n2 x3233 x3271 x3272) (Sum.elim (fun (t : Int × Int) => (Exit.normal, (⟨mkE 18 0 [(0, .dat (.list (.int .i64)) x3233), (6, .ptr 0 0)], [some (.box [.dat (.list (.int .i64)) x3233, .dat (.int .i64) t.1, .dat (.int .i64) t.2])]⟩ : St))) (Sum.elim (fun (t : Int × Bool) => (Exit.ret, (⟨mkE 18 0 [(4, .dat (.int .i64) t.1), (5, .dat .bool t.2)], []⟩ : St))) (fun (t : Int × Int) => ((Exit.exit 0), (⟨mkE 18 0 [(6, .ptr 0 0)], [some (.box [.dat (.list (.int .i64)) x3233, .dat (.int .i64) t.1, .dat (.int .i64) t.2])]⟩ : St))))) := by
  refine Link.of fun K h => ?_
  simp only [impl_stepsToRoot_n2, wpO_bind, wpO_cond, wpO_map, wpO_some] at h
  exact Awp.of (by kernel_rfl) h

theorem impl_stepsToRoot_n3_l (x3233 : List Int) (x3234 : Int) : Link impl_stepsToRoot_ctx LL (Code.fst (Code.fst (Code.snd (Code.snd (bodyOf Tryd.f53))))) (Ann.fst (Ann.fst (Ann.snd (Ann.snd impl_stepsToRoot_an)))) (⟨mkE 18 0 [(0, .dat (.list (.int .i64)) x3233), (6, .ptr 0 0)], [some (.box [.dat (.list (.int .i64)) x3233, .dat (.int .i64) x3234, .dat (.int .i64) 0])]⟩ : St) (impl_stepsToRoot_n3 x3233 x3234) (Sum.elim (fun (t : Int × Bool) => (Exit.ret, (⟨mkE 18 0 [(4, .dat (.int .i64) t.1), (5, .dat .bool t.2)], []⟩ : St))) (fun (t : Int × Int) => ((Exit.exit 0), (⟨mkE 18 0 [(6, .ptr 0 0)], [some (.box [.dat (.list (.int .i64)) x3233, .dat (.int .i64) t.1, .dat (.int .i64) t.2])]⟩ : St)))) := by
  unfold impl_stepsToRoot_n3
  exact Link.cast (by kernel_rfl) (by kernel_rfl) (link_loop (mk := fun (s : Int × Int) => (⟨mkE 18 0 [(0, .dat (.list (.int .i64)) x3233), (6, .ptr 0 0)], [some (.box [.dat (.list (.int .i64)) x3233, .dat (.int .i64) s.1, .dat (.int .i64) s.2])]⟩ : St)) (fin := (Sum.elim (fun (t : Int × Bool) => (Exit.ret, (⟨mkE 18 0 [(4, .dat (.int .i64) t.1), (5, .dat .bool t.2)], []⟩ : St))) (fun (t : Int × Int) => ((Exit.exit 0), (⟨mkE 18 0 [(6, .ptr 0 0)], [some (.box [.dat (.list (.int .i64)) x3233, .dat (.int .i64) t.1, .dat (.int .i64) t.2])]⟩ : St))))) (by
  rintro (t | t) f K h
  · exact h
  · exact h) (fun s => link_map (impl_stepsToRoot_n2_l x3233 s.1 s.2) (Sum.elim (fun (t : Int × Int) => Sum.inl (t.1, t.2)) (Sum.elim (fun (t : Int × Bool) => Sum.inr (Sum.inl t)) (fun (t : Int × Int) => Sum.inr (Sum.inr t)))) (by
  rintro (t | t | t)
  · kernel_rfl
  · kernel_rfl
  · kernel_rfl)) (x3234, 0))

theorem impl_stepsToRoot_n4_l (x3233 : List Int) (x3234 : Int) : Link impl_stepsToRoot_ctx LL (Code.fst (Code.snd (Code.snd (bodyOf Tryd.f53)))) (Ann.fst (Ann.snd (Ann.snd impl_stepsToRoot_an))) (⟨mkE 18 0 [(0, .dat (.list (.int .i64)) x3233), (6, .ptr 0 0)], [some (.box [.dat (.list (.int .i64)) x3233, .dat (.int .i64) x3234, .dat (.int .i64) 0])]⟩ : St) (impl_stepsToRoot_n4 x3233 x3234) (Sum.elim (fun (t : Int × Int) => (Exit.normal, (⟨mkE 18 0 [(6, .ptr 0 0)], [some (.box [.dat (.list (.int .i64)) x3233, .dat (.int .i64) t.1, .dat (.int .i64) t.2])]⟩ : St))) (fun (t : Int × Bool) => (Exit.ret, (⟨mkE 18 0 [(4, .dat (.int .i64) t.1), (5, .dat .bool t.2)], []⟩ : St)))) := by
  unfold impl_stepsToRoot_n4
  exact Link.cast (by kernel_rfl) (by kernel_rfl) (link_block (id := 0) (impl_stepsToRoot_n3_l x3233 x3234) (Sum.elim (fun (t : Int × Bool) => (Sum.inr t)) (fun (t : Int × Int) => (Sum.inl (t.1, t.2)))) (by
  rintro (t | t) K h
  · exact Eq.mp (by kernel_rfl) h
  · exact Eq.mp (by kernel_rfl) h))

theorem impl_stepsToRoot_n5_l (x3233 : List Int) (x3279 : Int) (x3280 : Int) : Link impl_stepsToRoot_ctx LL (Code.snd (Code.snd (Code.snd (bodyOf Tryd.f53)))) (Ann.snd (Ann.snd (Ann.snd impl_stepsToRoot_an))) (⟨mkE 18 0 [(6, .ptr 0 0)], [some (.box [.dat (.list (.int .i64)) x3233, .dat (.int .i64) x3279, .dat (.int .i64) x3280])]⟩ : St) (impl_stepsToRoot_n5 x3280) (fun (t : Int × Bool) => (Exit.ret, (⟨mkE 18 0 [(4, .dat (.int .i64) t.1), (5, .dat .bool t.2)], []⟩ : St))) := by
  refine Link.of fun K h => ?_
  simp only [impl_stepsToRoot_n5, wpO_bind, wpO_cond, wpO_map, wpO_some] at h
  exact Awp.of (by kernel_rfl) h

theorem impl_stepsToRoot_n6_l (x3233 : List Int) (x3234 : Int) : Link impl_stepsToRoot_ctx LL (Code.snd (Code.snd (bodyOf Tryd.f53))) (Ann.snd (Ann.snd impl_stepsToRoot_an)) (⟨mkE 18 0 [(0, .dat (.list (.int .i64)) x3233), (6, .ptr 0 0)], [some (.box [.dat (.list (.int .i64)) x3233, .dat (.int .i64) x3234, .dat (.int .i64) 0])]⟩ : St) (impl_stepsToRoot_n6 x3233 x3234) (fun (t : Int × Bool) => (Exit.ret, (⟨mkE 18 0 [(4, .dat (.int .i64) t.1), (5, .dat .bool t.2)], []⟩ : St))) := by
  unfold impl_stepsToRoot_n6
  exact Link.cast (by kernel_rfl) (by kernel_rfl) (link_seq2 (b := (Code.snd (Code.snd (Code.snd (bodyOf Tryd.f53))))) (y := (Ann.snd (Ann.snd (Ann.snd impl_stepsToRoot_an)))) (impl_stepsToRoot_n4_l x3233 x3234) (fun (t : Int × Int) => (impl_stepsToRoot_n5_l x3233 t.1 t.2)) (fun (t : Int × Bool) => t) (by
  rintro t
  · kernel_rfl) (by
  rintro t f K h
  · exact h))

theorem impl_stepsToRoot_n7_l (x3233 : List Int) (x3234 : Int) : Link impl_stepsToRoot_ctx LL (bodyOf Tryd.f53) impl_stepsToRoot_an (⟨mkE 18 0 [(0, .dat (.list (.int .i64)) x3233), (1, .dat (.int .i64) x3234)], []⟩ : St) (impl_stepsToRoot_n7 x3233 x3234) (fun (t : Int × Bool) => (Exit.ret, (⟨mkE 18 0 [(4, .dat (.int .i64) t.1), (5, .dat .bool t.2)], []⟩ : St))) := by
  unfold impl_stepsToRoot_n7
  exact Link.cast (by kernel_rfl) (by kernel_rfl) (link_group (c := (Code.fst (Code.snd (bodyOf Tryd.f53)))) (a := (Ann.fst (Ann.snd impl_stepsToRoot_an))) [(Code.fst (bodyOf Tryd.f53))] [(Ann.fst impl_stepsToRoot_an)] rfl (link_seq (b := (Code.snd (Code.snd (bodyOf Tryd.f53)))) (y := (Ann.snd (Ann.snd impl_stepsToRoot_an))) (impl_stepsToRoot_n1_l x3233 x3234) (fun (t : Unit) => (impl_stepsToRoot_n6_l x3233 x3234))))

theorem impl_stepsToRoot_e (x3233 : List Int) (x3234 : Int) {r : AV} {H' : Heap} (h : (Ans.mk _ (impl_stepsToRoot x3233 x3234) (fun (t : Int × Bool) => (.tup [.dat (.int .i64) t.1, .dat .bool t.2], [])) [] none).run = some (r, H')) : Awp impl_stepsToRoot_ctx LL (bodyOf Tryd.f53) impl_stepsToRoot_an (⟨mkE 18 0 [(0, .dat (.list (.int .i64)) x3233), (1, .dat (.int .i64) x3234)], []⟩ : St) (Ret (tlook tys) Tryd.f53.results.toList r H') :=
  ret_of' (impl_stepsToRoot_n7_l x3233 x3234) (by unfold impl_stepsToRoot; kernel_rfl) (by
  intro t
  exact ret_mk [.dat (.int .i64) t.1, .dat .bool t.2] (by kernel_rfl) (by kernel_rfl) (by kernel_rfl) (by kernel_rfl)) h

def F_impl_stepsToRoot : Fun := fun avs H =>
  match avs, H with
  | [.dat (.list (.int .i64)) x3233, .dat (.int .i64) x3234], [] => ⟨_, impl_stepsToRoot x3233 x3234, fun (t : Int × Bool) => (.tup [.dat (.int .i64) t.1, .dat .bool t.2], []), [], none⟩
  | _, _ => Ans.no

theorem impl_stepsToRoot_sound : Sound Tryd.prog 53 F_impl_stepsToRoot := by
  refine fn_sound' (C := impl_stepsToRoot_ctx) (c := bodyOf Tryd.f53) (cok_of tys_ok (List.forall_mem_cons.2 ⟨impl_walker_up_sound, by simp⟩) (List.forall_mem_cons.2 ⟨Tryd.call74, by simp⟩) (by kernel_rfl)) Tryd.func53 (by kernel_rfl) LL impl_stepsToRoot_an ?_
  intro avs H r H' h
  unfold F_impl_stepsToRoot at h
  split at h
  · refine Awp.cast ?_ ?_ ?_ (impl_stepsToRoot_e _ _ h) <;> kernel_rfl
  · simp [Ans.no, Ans.run] at h


/-! loop.example/headtrees/impl.TreeOk -/

def impl_TreeOk_an : Ann := (.seq (.leaf [0]) (.seq (.seq (.leaf [0, 18]) (.cond (.seq (.leaf [2]) (.leaf [2])) (.leaf [0]))) (.seq (.seq (.leaf [0, 20, 21]) (.block (.loop (.seq (.leaf [0, 20, 21, 22]) (.seq (.cond (.leaf [0, 20, 21]) (.leaf [])) (.seq (.block (.seq (.leaf [0, 3, 20, 21]) (.seq (.leaf [0, 5, 20, 21]) (.seq (.leaf [0, 20, 21, 32]) (.cond (.seq (.leaf [2]) (.leaf [2])) (.leaf [0, 20, 21])))))) (.leaf [0, 20, 21]))))))) (.seq (.leaf [2]) (.leaf [2])))))

noncomputable def impl_TreeOk_ctx : Ctx := ⟨tlook tys, olook [(52, F_impl_oneRoot), (53, F_impl_stepsToRoot)], ioF, 0, false, []⟩

theorem impl_TreeOk_n1_l (x3174 : List Int) : Link impl_TreeOk_ctx LL (Code.seq (Code.fst (bodyOf Tryd.f32)) (Code.fst (Code.snd (bodyOf Tryd.f32)))) (Ann.seq (Ann.fst impl_TreeOk_an) (Ann.fst (Ann.snd impl_TreeOk_an))) (⟨mkE 34 0 [(0, .dat (.list (.int .i64)) x3174)], []⟩ : St) (impl_TreeOk_n1 x3174) (Sum.elim (fun (t : Unit) => (Exit.normal, (⟨mkE 34 0 [(0, .dat (.list (.int .i64)) x3174)], []⟩ : St))) (fun (t : Bool) => (Exit.ret, (⟨mkE 34 0 [(2, .dat .bool t)], []⟩ : St)))) := by
  refine Link.of fun K h => ?_
  simp only [impl_TreeOk_n1, wpO_bind, wpO_cond, wpO_map, wpO_some] at h
  exact Awp.of (by kernel_rfl) h

theorem impl_TreeOk_n2_l (x3174 : List Int) : Link impl_TreeOk_ctx LL (Code.fst (Code.fst (Code.snd (Code.snd (bodyOf Tryd.f32))))) (Ann.fst (Ann.fst (Ann.snd (Ann.snd impl_TreeOk_an)))) (⟨mkE 34 0 [(0, .dat (.list (.int .i64)) x3174)], []⟩ : St) (impl_TreeOk_n2 x3174) (fun (t : Int) => (Exit.normal, (⟨mkE 34 0 [(0, .dat (.list (.int .i64)) x3174), (20, .dat (.int .i64) t), (21, .dat (.int .i64) 0)], []⟩ : St))) := by
  refine Link.of fun K h => ?_
  simp only [impl_TreeOk_n2, wpO_bind, wpO_cond, wpO_map, wpO_some] at h
  exact Awp.of (by kernel_rfl) h

theorem impl_TreeOk_n3_l (x3174 : List Int) (x3228 : Int) (x3296 : Int) : Link impl_TreeOk_ctx LL (Code.fst (Code.fst (Code.snd (Code.fst (Code.snd (Code.snd (bodyOf Tryd.f32))))))) (Ann.fst (Ann.fst (Ann.snd (Ann.fst (Ann.snd (Ann.snd impl_TreeOk_an)))))) (⟨mkE 34 0 [(0, .dat (.list (.int .i64)) x3174), (20, .dat (.int .i64) x3228), (21, .dat (.int .i64) x3296)], []⟩ : St) (impl_TreeOk_n3 x3174 x3228 x3296) (Sum.elim (fun (t : Int) => (Exit.normal, (⟨mkE 34 0 [(0, .dat (.list (.int .i64)) x3174), (20, .dat (.int .i64) x3228), (21, .dat (.int .i64) t)], []⟩ : St))) (Sum.elim (fun (t : Bool) => (Exit.ret, (⟨mkE 34 0 [(2, .dat .bool t)], []⟩ : St))) (fun (t : Unit) => ((Exit.exit 0), (⟨mkE 34 0 [], []⟩ : St))))) := by
  refine Link.of fun K h => ?_
  simp only [impl_TreeOk_n3, wpO_bind, wpO_cond, wpO_map, wpO_some] at h
  exact Awp.of (by kernel_rfl) h

theorem impl_TreeOk_n4_l (x3174 : List Int) (x3228 : Int) : Link impl_TreeOk_ctx LL (Code.fst (Code.snd (Code.fst (Code.snd (Code.snd (bodyOf Tryd.f32)))))) (Ann.fst (Ann.snd (Ann.fst (Ann.snd (Ann.snd impl_TreeOk_an))))) (⟨mkE 34 0 [(0, .dat (.list (.int .i64)) x3174), (20, .dat (.int .i64) x3228), (21, .dat (.int .i64) 0)], []⟩ : St) (impl_TreeOk_n4 x3174 x3228) (Sum.elim (fun (t : Bool) => (Exit.ret, (⟨mkE 34 0 [(2, .dat .bool t)], []⟩ : St))) (fun (t : Unit) => ((Exit.exit 0), (⟨mkE 34 0 [], []⟩ : St)))) := by
  unfold impl_TreeOk_n4
  exact Link.cast (by kernel_rfl) (by kernel_rfl) (link_loop (mk := fun (s : Int) => (⟨mkE 34 0 [(0, .dat (.list (.int .i64)) x3174), (20, .dat (.int .i64) x3228), (21, .dat (.int .i64) s)], []⟩ : St)) (fin := (Sum.elim (fun (t : Bool) => (Exit.ret, (⟨mkE 34 0 [(2, .dat .bool t)], []⟩ : St))) (fun (t : Unit) => ((Exit.exit 0), (⟨mkE 34 0 [], []⟩ : St))))) (by
  rintro (t | t) f K h
  · exact h
  · exact h) (fun s => link_map (impl_TreeOk_n3_l x3174 x3228 s) (Sum.elim (fun (t : Int) => Sum.inl t) (Sum.elim (fun (t : Bool) => Sum.inr (Sum.inl t)) (fun (t : Unit) => Sum.inr (Sum.inr t)))) (by
  rintro (t | t | t)
  · kernel_rfl
  · kernel_rfl
  · kernel_rfl)) 0)

theorem impl_TreeOk_n5_l (x3174 : List Int) (x3228 : Int) : Link impl_TreeOk_ctx LL (Code.snd (Code.fst (Code.snd (Code.snd (bodyOf Tryd.f32))))) (Ann.snd (Ann.fst (Ann.snd (Ann.snd impl_TreeOk_an)))) (⟨mkE 34 0 [(0, .dat (.list (.int .i64)) x3174), (20, .dat (.int .i64) x3228), (21, .dat (.int .i64) 0)], []⟩ : St) (impl_TreeOk_n5 x3174 x3228) (Sum.elim (fun (t : Unit) => (Exit.normal, (⟨mkE 34 0 [], []⟩ : St))) (fun (t : Bool) => (Exit.ret, (⟨mkE 34 0 [(2, .dat .bool t)], []⟩ : St)))) := by
  unfold impl_TreeOk_n5
  exact Link.cast (by kernel_rfl) (by kernel_rfl) (link_block (id := 0) (impl_TreeOk_n4_l x3174 x3228) (Sum.elim (fun (t : Bool) => (Sum.inr t)) (fun (t : Unit) => (Sum.inl ()))) (by
  rintro (t | t) K h
  · exact Eq.mp (by kernel_rfl) h
  · exact Eq.mp (by kernel_rfl) h))

theorem impl_TreeOk_n6_l (x3174 : List Int) : Link impl_TreeOk_ctx LL (Code.fst (Code.snd (Code.snd (bodyOf Tryd.f32)))) (Ann.fst (Ann.snd (Ann.snd impl_TreeOk_an))) (⟨mkE 34 0 [(0, .dat (.list (.int .i64)) x3174)], []⟩ : St) (impl_TreeOk_n6 x3174) (Sum.elim (fun (t : Unit) => (Exit.normal, (⟨mkE 34 0 [], []⟩ : St))) (fun (t : Bool) => (Exit.ret, (⟨mkE 34 0 [(2, .dat .bool t)], []⟩ : St)))) := by
  unfold impl_TreeOk_n6
  exact Link.cast (by kernel_rfl) (by kernel_rfl) (link_seq (b := (Code.snd (Code.fst (Code.snd (Code.snd (bodyOf Tryd.f32)))))) (y := (Ann.snd (Ann.fst (Ann.snd (Ann.snd impl_TreeOk_an))))) (impl_TreeOk_n2_l x3174) (fun (t : Int) => (impl_TreeOk_n5_l x3174 t)))

theorem impl_TreeOk_n7_l : Link impl_TreeOk_ctx LL (Code.snd (Code.snd (Code.snd (bodyOf Tryd.f32)))) (Ann.snd (Ann.snd (Ann.snd impl_TreeOk_an))) (⟨mkE 34 0 [], []⟩ : St) (impl_TreeOk_n7) (fun (t : Bool) => (Exit.ret, (⟨mkE 34 0 [(2, .dat .bool t)], []⟩ : St))) := by
  refine Link.of fun K h => ?_
  simp only [impl_TreeOk_n7, wpO_bind, wpO_cond, wpO_map, wpO_some] at h
  exact Awp.of (by kernel_rfl) h

theorem impl_TreeOk_n8_l (x3174 : List Int) : Link impl_TreeOk_ctx LL (Code.snd (Code.snd (bodyOf Tryd.f32))) (Ann.snd (Ann.snd impl_TreeOk_an)) (⟨mkE 34 0 [(0, .dat (.list (.int .i64)) x3174)], []⟩ : St) (impl_TreeOk_n8 x3174) (fun (t : Bool) => (Exit.ret, (⟨mkE 34 0 [(2, .dat .bool t)], []⟩ : St))) := by
  unfold impl_TreeOk_n8
  exact Link.cast (by kernel_rfl) (by kernel_rfl) (link_seq2 (b := (Code.snd (Code.snd (Code.snd (bodyOf Tryd.f32))))) (y := (Ann.snd (Ann.snd (Ann.snd impl_TreeOk_an)))) (impl_TreeOk_n6_l x3174) (fun (t : Unit) => (impl_TreeOk_n7_l)) (fun (t : Bool) => t) (by
  rintro t
  · kernel_rfl) (by
  rintro t f K h
  · exact h))

theorem impl_TreeOk_n9_l (x3174 : List Int) : Link impl_TreeOk_ctx LL (bodyOf Tryd.f32) impl_TreeOk_an (⟨mkE 34 0 [(0, .dat (.list (.int .i64)) x3174)], []⟩ : St) (impl_TreeOk_n9 x3174) (fun (t : Bool) => (Exit.ret, (⟨mkE 34 0 [(2, .dat .bool t)], []⟩ : St))) := by
  unfold impl_TreeOk_n9
  exact Link.cast (by kernel_rfl) (by kernel_rfl) (link_group (c := (Code.fst (Code.snd (bodyOf Tryd.f32)))) (a := (Ann.fst (Ann.snd impl_TreeOk_an))) [(Code.fst (bodyOf Tryd.f32))] [(Ann.fst impl_TreeOk_an)] rfl (link_seq2 (b := (Code.snd (Code.snd (bodyOf Tryd.f32)))) (y := (Ann.snd (Ann.snd impl_TreeOk_an))) (impl_TreeOk_n1_l x3174) (fun (t : Unit) => (impl_TreeOk_n8_l x3174)) (fun (t : Bool) => t) (by
  rintro t
  · kernel_rfl) (by
  rintro t f K h
  · exact h)))

theorem impl_TreeOk_e (x3174 : List Int) {r : AV} {H' : Heap} (h : (Ans.mk _ (impl_TreeOk x3174) (fun (t : Bool) => (.dat .bool t, [])) [] none).run = some (r, H')) : Awp impl_TreeOk_ctx LL (bodyOf Tryd.f32) impl_TreeOk_an (⟨mkE 34 0 [(0, .dat (.list (.int .i64)) x3174)], []⟩ : St) (Ret (tlook tys) Tryd.f32.results.toList r H') :=
  ret_of' (impl_TreeOk_n9_l x3174) (by unfold impl_TreeOk; kernel_rfl) (by
  intro t
  exact ret_mk [.dat .bool t] (by kernel_rfl) (by kernel_rfl) (by kernel_rfl) (by kernel_rfl)) h

def F_impl_TreeOk : Fun := fun avs H =>
  match avs, H with
  | [.dat (.list (.int .i64)) x3174], [] => ⟨_, impl_TreeOk x3174, fun (t : Bool) => (.dat .bool t, []), [], none⟩
  | _, _ => Ans.no

theorem impl_TreeOk_sound : Sound Tryd.prog 32 F_impl_TreeOk := by
  refine fn_sound' (C := impl_TreeOk_ctx) (c := bodyOf Tryd.f32) (cok_of tys_ok (List.forall_mem_cons.2 ⟨impl_oneRoot_sound, List.forall_mem_cons.2 ⟨impl_stepsToRoot_sound, by simp⟩⟩) (List.forall_mem_cons.2 ⟨Tryd.call52, List.forall_mem_cons.2 ⟨Tryd.call53, by simp⟩⟩) (by kernel_rfl)) Tryd.func32 (by kernel_rfl) LL impl_TreeOk_an ?_
  intro avs H r H' h
  unfold F_impl_TreeOk at h
  split at h
  · refine Awp.cast ?_ ?_ ?_ (impl_TreeOk_e _ h) <;> kernel_rfl
  · simp [Ans.no, Ans.run] at h


/-! loop.example/headtrees/impl.RootOf -/

def impl_RootOf_an : Ann := (.seq (.leaf [0]) (.seq (.seq (.leaf [0, 6]) (.cond (.seq (.leaf [2]) (.leaf [2])) (.leaf [0]))) (.seq (.leaf [3]) (.seq (.block (.loop (.seq (.seq (.leaf [3, 9]) (.cond (.leaf [3]) (.leaf [3]))) (.block (.leaf [3]))))) (.seq (.leaf [2]) (.leaf [2]))))))

noncomputable def impl_RootOf_ctx : Ctx := ⟨tlook tys, olook [(32, F_impl_TreeOk), (74, F_impl_walker_up)], ioF, 0, false, []⟩

theorem impl_RootOf_n1_l (x3353 : List Int) : Link impl_RootOf_ctx LL (Code.seq (Code.fst (bodyOf Tryd.f62)) (Code.seq (Code.fst (Code.snd (bodyOf Tryd.f62))) (Code.fst (Code.snd (Code.snd (bodyOf Tryd.f62)))))) (Ann.seq (Ann.fst impl_RootOf_an) (Ann.seq (Ann.fst (Ann.snd impl_RootOf_an)) (Ann.fst (Ann.snd (Ann.snd impl_RootOf_an))))) (⟨mkE 12 0 [(0, .dat (.list (.int .i64)) x3353)], []⟩ : St) (impl_RootOf_n1 x3353) (Sum.elim (fun (t : Unit) => (Exit.normal, (⟨mkE 12 0 [(3, .ptr 0 0)], [some (.box [.dat (.list (.int .i64)) x3353, .dat (.int .i64) 1, .dat (.int .i64) 0])]⟩ : St))) (fun (t : Int) => (Exit.ret, (⟨mkE 12 0 [(2, .dat (.int .i64) t)], []⟩ : St)))) := by
  refine Link.of fun K h => ?_
  simp only [impl_RootOf_n1, wpO_bind, wpO_cond, wpO_map, wpO_some] at h
  exact Awp.of (by kernel_rfl) h

theorem impl_RootOf_n2_l (x3353 : List Int) (x3367 : Int) (x3368 : Int) : Link impl_RootOf_ctx LL (Code.fst (Code.fst (Code.fst (Code.snd (Code.snd (Code.snd (bodyOf Tryd.f62))))))) (Ann.fst (Ann.fst (Ann.fst (Ann.snd (Ann.snd (Ann.snd impl_RootOf_an)))))) (⟨mkE 12 0 [(3, .ptr 0 0)], [some (.box [.dat (.list (.int .i64)) x3353, .dat (.int .i64) x3367, .dat (.int .i64) x3368])]⟩ : St) (impl_RootOf_n2 x3353 x3367 x3368) (Sum.elim (fun (t : Int × Int) => (Exit.normal, (⟨mkE 12 0 [(3, .ptr 0 0)], [some (.box [.dat (.list (.int .i64)) x3353, .dat (.int .i64) t.1, .dat (.int .i64) t.2])]⟩ : St))) (fun (t : Int × Int) => ((Exit.exit 0), (⟨mkE 12 0 [(3, .ptr 0 0)], [some (.box [.dat (.list (.int .i64)) x3353, .dat (.int .i64) t.1, .dat (.int .i64) t.2])]⟩ : St)))) := by
  refine Link.of fun K h => ?_
  simp only [impl_RootOf_n2, wpO_bind, wpO_cond, wpO_map, wpO_some] at h
  exact Awp.of (by kernel_rfl) h

theorem impl_RootOf_n3_l (x3353 : List Int) : Link impl_RootOf_ctx LL (Code.fst (Code.fst (Code.snd (Code.snd (Code.snd (bodyOf Tryd.f62)))))) (Ann.fst (Ann.fst (Ann.snd (Ann.snd (Ann.snd impl_RootOf_an))))) (⟨mkE 12 0 [(3, .ptr 0 0)], [some (.box [.dat (.list (.int .i64)) x3353, .dat (.int .i64) 1, .dat (.int .i64) 0])]⟩ : St) (impl_RootOf_n3 x3353) (fun (t : Int × Int) => ((Exit.exit 0), (⟨mkE 12 0 [(3, .ptr 0 0)], [some (.box [.dat (.list (.int .i64)) x3353, .dat (.int .i64) t.1, .dat (.int .i64) t.2])]⟩ : St))) := by
  unfold impl_RootOf_n3
  exact Link.cast (by kernel_rfl) (by kernel_rfl) (link_loop (mk := fun (s : Int × Int) => (⟨mkE 12 0 [(3, .ptr 0 0)], [some (.box [.dat (.list (.int .i64)) x3353, .dat (.int .i64) s.1, .dat (.int .i64) s.2])]⟩ : St)) (fin := (fun (t : Int × Int) => ((Exit.exit 0), (⟨mkE 12 0 [(3, .ptr 0 0)], [some (.box [.dat (.list (.int .i64)) x3353, .dat (.int .i64) t.1, .dat (.int .i64) t.2])]⟩ : St)))) (by
  rintro t f K h
  · exact h) (fun s => link_map (impl_RootOf_n2_l x3353 s.1 s.2) (Sum.elim (fun (t : Int × Int) => Sum.inl (t.1, t.2)) (fun (t : Int × Int) => Sum.inr t)) (by
  rintro (t | t)
  · kernel_rfl
  · kernel_rfl)) (1, 0))

theorem impl_RootOf_n4_l (x3353 : List Int) : Link impl_RootOf_ctx LL (Code.fst (Code.snd (Code.snd (Code.snd (bodyOf Tryd.f62))))) (Ann.fst (Ann.snd (Ann.snd (Ann.snd impl_RootOf_an)))) (⟨mkE 12 0 [(3, .ptr 0 0)], [some (.box [.dat (.list (.int .i64)) x3353, .dat (.int .i64) 1, .dat (.int .i64) 0])]⟩ : St) (impl_RootOf_n4 x3353) (fun (t : Int × Int) => (Exit.normal, (⟨mkE 12 0 [(3, .ptr 0 0)], [some (.box [.dat (.list (.int .i64)) x3353, .dat (.int .i64) t.1, .dat (.int .i64) t.2])]⟩ : St))) := by
  unfold impl_RootOf_n4
  exact Link.cast (by kernel_rfl) (by kernel_rfl) (link_block (id := 0) (impl_RootOf_n3_l x3353) (fun (t : Int × Int) => (t.1, t.2)) (by
  rintro t K h
  · exact Eq.mp (by kernel_rfl) h))

theorem impl_RootOf_n5_l (x3353 : List Int) (x3375 : Int) (x3376 : Int) : Link impl_RootOf_ctx LL (Code.snd (Code.snd (Code.snd (Code.snd (bodyOf Tryd.f62))))) (Ann.snd (Ann.snd (Ann.snd (Ann.snd impl_RootOf_an)))) (⟨mkE 12 0 [(3, .ptr 0 0)], [some (.box [.dat (.list (.int .i64)) x3353, .dat (.int .i64) x3375, .dat (.int .i64) x3376])]⟩ : St) (impl_RootOf_n5 x3375) (fun (t : Int) => (Exit.ret, (⟨mkE 12 0 [(2, .dat (.int .i64) t)], []⟩ : St))) := by
  refine Link.of fun K h => ?_
  simp only [impl_RootOf_n5, wpO_bind, wpO_cond, wpO_map, wpO_some] at h
  exact Awp.of (by kernel_rfl) h

theorem impl_RootOf_n6_l (x3353 : List Int) : Link impl_RootOf_ctx LL (Code.snd (Code.snd (Code.snd (bodyOf Tryd.f62)))) (Ann.snd (Ann.snd (Ann.snd impl_RootOf_an))) (⟨mkE 12 0 [(3, .ptr 0 0)], [some (.box [.dat (.list (.int .i64)) x3353, .dat (.int .i64) 1, .dat (.int .i64) 0])]⟩ : St) (impl_RootOf_n6 x3353) (fun (t : Int) => (Exit.ret, (⟨mkE 12 0 [(2, .dat (.int .i64) t)], []⟩ : St))) := by
  unfold impl_RootOf_n6
  exact Link.cast (by kernel_rfl) (by kernel_rfl) (link_seq (b := (Code.snd (Code.snd (Code.snd (Code.snd (bodyOf Tryd.f62)))))) (y := (Ann.snd (Ann.snd (Ann.snd (Ann.snd impl_RootOf_an))))) (impl_RootOf_n4_l x3353) (fun (t : Int × Int) => (impl_RootOf_n5_l x3353 t.1 t.2)))

theorem impl_RootOf_n7_l (x3353 : List Int) : Link impl_RootOf_ctx LL (bodyOf Tryd.f62) impl_RootOf_an (⟨mkE 12 0 [(0, .dat (.list (.int .i64)) x3353)], []⟩ : St) (impl_RootOf_n7 x3353) (fun (t : Int) => (Exit.ret, (⟨mkE 12 0 [(2, .dat (.int .i64) t)], []⟩ : St))) := by
  unfold impl_RootOf_n7
  exact Link.cast (by kernel_rfl) (by kernel_rfl) (link_group (c := (Code.fst (Code.snd (Code.snd (bodyOf Tryd.f62))))) (a := (Ann.fst (Ann.snd (Ann.snd impl_RootOf_an)))) [(Code.fst (bodyOf Tryd.f62)), (Code.fst (Code.snd (bodyOf Tryd.f62)))] [(Ann.fst impl_RootOf_an), (Ann.fst (Ann.snd impl_RootOf_an))] rfl (link_seq2 (b := (Code.snd (Code.snd (Code.snd (bodyOf Tryd.f62))))) (y := (Ann.snd (Ann.snd (Ann.snd impl_RootOf_an)))) (impl_RootOf_n1_l x3353) (fun (t : Unit) => (impl_RootOf_n6_l x3353)) (fun (t : Int) => t) (by
  rintro t
  · kernel_rfl) (by
  rintro t f K h
  · exact h)))

theorem impl_RootOf_e (x3353 : List Int) {r : AV} {H' : Heap} (h : (Ans.mk _ (impl_RootOf x3353) (fun (t : Int) => (.dat (.int .i64) t, [])) [] none).run = some (r, H')) : Awp impl_RootOf_ctx LL (bodyOf Tryd.f62) impl_RootOf_an (⟨mkE 12 0 [(0, .dat (.list (.int .i64)) x3353)], []⟩ : St) (Ret (tlook tys) Tryd.f62.results.toList r H') :=
  ret_of' (impl_RootOf_n7_l x3353) (by unfold impl_RootOf; kernel_rfl) (by
  intro t
  exact ret_mk [.dat (.int .i64) t] (by kernel_rfl) (by kernel_rfl) (by kernel_rfl) (by kernel_rfl)) h

def F_impl_RootOf : Fun := fun avs H =>
  match avs, H with
  | [.dat (.list (.int .i64)) x3353], [] => ⟨_, impl_RootOf x3353, fun (t : Int) => (.dat (.int .i64) t, []), [], none⟩
  | _, _ => Ans.no

theorem impl_RootOf_sound : Sound Tryd.prog 62 F_impl_RootOf := by
  refine fn_sound' (C := impl_RootOf_ctx) (c := bodyOf Tryd.f62) (cok_of tys_ok (List.forall_mem_cons.2 ⟨impl_TreeOk_sound, List.forall_mem_cons.2 ⟨impl_walker_up_sound, by simp⟩⟩) (List.forall_mem_cons.2 ⟨Tryd.call32, List.forall_mem_cons.2 ⟨Tryd.call74, by simp⟩⟩) (by kernel_rfl)) Tryd.func62 (by kernel_rfl) LL impl_RootOf_an ?_
  intro avs H r H' h
  unfold F_impl_RootOf at h
  split at h
  · refine Awp.cast ?_ ?_ ?_ (impl_RootOf_e _ h) <;> kernel_rfl
  · simp [Ans.no, Ans.run] at h


/-! loop.example/headtrees/impl.only -/

def impl_only_an : Ann := (.seq (.leaf [0]) (.seq (.leaf [2]) (.leaf [2])))

noncomputable def impl_only_ctx : Ctx := ⟨tlook tys, olook [], ioF, 0, false, []⟩

theorem impl_only_n1_l (x3382 : Int) : Link impl_only_ctx LL (bodyOf Tryd.f76) impl_only_an (⟨mkE 6 0 [(0, .dat (.int .i64) x3382)], []⟩ : St) (impl_only_n1 x3382) (fun (t : Int) => (Exit.ret, (⟨mkE 6 0 [(2, .dat (.int .u64) t)], []⟩ : St))) := by
  refine Link.of fun K h => ?_
  simp only [impl_only_n1, wpO_bind, wpO_cond, wpO_map, wpO_some] at h
  exact Awp.of (by kernel_rfl) h

theorem impl_only_e (x3382 : Int) {r : AV} {H' : Heap} (h : (Ans.mk _ (impl_only x3382) (fun (t : Int) => (.dat (.int .u64) t, [])) [] none).run = some (r, H')) : Awp impl_only_ctx LL (bodyOf Tryd.f76) impl_only_an (⟨mkE 6 0 [(0, .dat (.int .i64) x3382)], []⟩ : St) (Ret (tlook tys) Tryd.f76.results.toList r H') :=
  ret_of' (impl_only_n1_l x3382) (by unfold impl_only; kernel_rfl) (by
  intro t
  exact ret_mk [.dat (.int .u64) t] (by kernel_rfl) (by kernel_rfl) (by kernel_rfl) (by kernel_rfl)) h

def F_impl_only : Fun := fun avs H =>
  match avs, H with
  | [.dat (.int .i64) x3382], [] => ⟨_, impl_only x3382, fun (t : Int) => (.dat (.int .u64) t, []), [], none⟩
  | _, _ => Ans.no

theorem impl_only_sound : Sound Tryd.prog 76 F_impl_only := by
  refine fn_sound' (C := impl_only_ctx) (c := bodyOf Tryd.f76) (cok_of tys_ok (by simp) (by simp) (by kernel_rfl)) Tryd.func76 (by kernel_rfl) LL impl_only_an ?_
  intro avs H r H' h
  unfold F_impl_only at h
  split at h
  · refine Awp.cast ?_ ?_ ?_ (impl_only_e _ h) <;> kernel_rfl
  · simp [Ans.no, Ans.run] at h


/-! loop.example/headtrees/impl.dependents -/

def impl_dependents_an : Ann := (.seq (.leaf [0, 1]) (.seq (.leaf [0, 1, 5]) (.seq (.seq (.leaf [0, 1, 5, 8, 9]) (.block (.loop (.seq (.leaf [0, 1, 5, 8, 9, 10]) (.seq (.cond (.leaf [0, 1, 5, 8, 9]) (.leaf [5])) (.seq (.block (.seq (.leaf [0, 1, 5, 6, 8, 9]) (.seq (.leaf [0, 1, 5, 6, 8, 9, 17]) (.cond (.leaf [0, 1, 5, 8, 9]) (.leaf [0, 1, 5, 8, 9]))))) (.leaf [0, 1, 5, 8, 9]))))))) (.seq (.leaf [4]) (.leaf [4])))))

noncomputable def impl_dependents_ctx : Ctx := ⟨tlook tys, olook [(76, F_impl_only)], ioF, 0, false, []⟩

theorem impl_dependents_n1_l (x3388 : List Int) (x3389 : Int) : Link impl_dependents_ctx LL (Code.seq (Code.fst (bodyOf Tryd.f58)) (Code.fst (Code.snd (bodyOf Tryd.f58)))) (Ann.seq (Ann.fst impl_dependents_an) (Ann.fst (Ann.snd impl_dependents_an))) (⟨mkE 25 0 [(0, .dat (.list (.int .i64)) x3388), (1, .dat (.int .i64) x3389)], []⟩ : St) (impl_dependents_n1) (fun (t : Unit) => (Exit.normal, (⟨mkE 25 0 [(0, .dat (.list (.int .i64)) x3388), (1, .dat (.int .i64) x3389), (5, .dat (.int .u64) 0)], []⟩ : St))) := by
  refine Link.of fun K h => ?_
  simp only [impl_dependents_n1, wpO_bind, wpO_cond, wpO_map, wpO_some] at h
  exact Awp.of (by kernel_rfl) h

theorem impl_dependents_n2_l (x3388 : List Int) (x3389 : Int) : Link impl_dependents_ctx LL (Code.fst (Code.fst (Code.snd (Code.snd (bodyOf Tryd.f58))))) (Ann.fst (Ann.fst (Ann.snd (Ann.snd impl_dependents_an)))) (⟨mkE 25 0 [(0, .dat (.list (.int .i64)) x3388), (1, .dat (.int .i64) x3389), (5, .dat (.int .u64) 0)], []⟩ : St) (impl_dependents_n2 x3388) (fun (t : Int) => (Exit.normal, (⟨mkE 25 0 [(0, .dat (.list (.int .i64)) x3388), (1, .dat (.int .i64) x3389), (5, .dat (.int .u64) 0), (8, .dat (.int .i64) t), (9, .dat (.int .i64) 0)], []⟩ : St))) := by
  refine Link.of fun K h => ?_
  simp only [impl_dependents_n2, wpO_bind, wpO_cond, wpO_map, wpO_some] at h
  exact Awp.of (by kernel_rfl) h

theorem impl_dependents_n3_l (x3388 : List Int) (x3389 : Int) (x3409 : Int) (x3390 : Int) (x3410 : Int) : Link impl_dependents_ctx LL (Code.fst (Code.fst (Code.snd (Code.fst (Code.snd (Code.snd (bodyOf Tryd.f58))))))) (Ann.fst (Ann.fst (Ann.snd (Ann.fst (Ann.snd (Ann.snd impl_dependents_an)))))) (⟨mkE 25 0 [(0, .dat (.list (.int .i64)) x3388), (1, .dat (.int .i64) x3389), (5, .dat (.int .u64) x3409), (8, .dat (.int .i64) x3390), (9, .dat (.int .i64) x3410)], []⟩ : St) (impl_dependents_n3 x3388 x3389 x3409 x3390 x3410) (Sum.elim (fun (t : Int × Int) => (Exit.normal, (⟨mkE 25 0 [(0, .dat (.list (.int .i64)) x3388), (1, .dat (.int .i64) x3389), (5, .dat (.int .u64) t.1), (8, .dat (.int .i64) x3390), (9, .dat (.int .i64) t.2)], []⟩ : St))) (fun (t : Int) => ((Exit.exit 0), (⟨mkE 25 0 [(5, .dat (.int .u64) t)], []⟩ : St)))) := by
  refine Link.of fun K h => ?_
  simp only [impl_dependents_n3, wpO_bind, wpO_cond, wpO_map, wpO_some] at h
  exact Awp.of (by kernel_rfl) h

theorem impl_dependents_n4_l (x3388 : List Int) (x3389 : Int) (x3390 : Int) : Link impl_dependents_ctx LL (Code.fst (Code.snd (Code.fst (Code.snd (Code.snd (bodyOf Tryd.f58)))))) (Ann.fst (Ann.snd (Ann.fst (Ann.snd (Ann.snd impl_dependents_an))))) (⟨mkE 25 0 [(0, .dat (.list (.int .i64)) x3388), (1, .dat (.int .i64) x3389), (5, .dat (.int .u64) 0), (8, .dat (.int .i64) x3390), (9, .dat (.int .i64) 0)], []⟩ : St) (impl_dependents_n4 x3388 x3389 x3390) (fun (t : Int) => ((Exit.exit 0), (⟨mkE 25 0 [(5, .dat (.int .u64) t)], []⟩ : St))) := by
  unfold impl_dependents_n4
  exact Link.cast (by kernel_rfl) (by kernel_rfl) (link_loop (mk := fun (s : Int × Int) => (⟨mkE 25 0 [(0, .dat (.list (.int .i64)) x3388), (1, .dat (.int .i64) x3389), (5, .dat (.int .u64) s.1), (8, .dat (.int .i64) x3390), (9, .dat (.int .i64) s.2)], []⟩ : St)) (fin := (fun (t : Int) => ((Exit.exit 0), (⟨mkE 25 0 [(5, .dat (.int .u64) t)], []⟩ : St)))) (by
  rintro t f K h
  · exact h) (fun s => link_map (impl_dependents_n3_l x3388 x3389 s.1 x3390 s.2) (Sum.elim (fun (t : Int × Int) => Sum.inl (t.1, t.2)) (fun (t : Int) => Sum.inr t)) (by
  rintro (t | t)
  · kernel_rfl
  · kernel_rfl)) (0, 0))

theorem impl_dependents_n5_l (x3388 : List Int) (x3389 : Int) (x3390 : Int) : Link impl_dependents_ctx LL (Code.snd (Code.fst (Code.snd (Code.snd (bodyOf Tryd.f58))))) (Ann.snd (Ann.fst (Ann.snd (Ann.snd impl_dependents_an)))) (⟨mkE 25 0 [(0, .dat (.list (.int .i64)) x3388), (1, .dat (.int .i64) x3389), (5, .dat (.int .u64) 0), (8, .dat (.int .i64) x3390), (9, .dat (.int .i64) 0)], []⟩ : St) (impl_dependents_n5 x3388 x3389 x3390) (fun (t : Int) => (Exit.normal, (⟨mkE 25 0 [(5, .dat (.int .u64) t)], []⟩ : St))) := by
  unfold impl_dependents_n5
  exact Link.cast (by kernel_rfl) (by kernel_rfl) (link_block (id := 0) (impl_dependents_n4_l x3388 x3389 x3390) (fun (t : Int) => t) (by
  rintro t K h
  · exact Eq.mp (by kernel_rfl) h))

theorem impl_dependents_n6_l (x3388 : List Int) (x3389 : Int) : Link impl_dependents_ctx LL (Code.fst (Code.snd (Code.snd (bodyOf Tryd.f58)))) (Ann.fst (Ann.snd (Ann.snd impl_dependents_an))) (⟨mkE 25 0 [(0, .dat (.list (.int .i64)) x3388), (1, .dat (.int .i64) x3389), (5, .dat (.int .u64) 0)], []⟩ : St) (impl_dependents_n6 x3388 x3389) (fun (t : Int) => (Exit.normal, (⟨mkE 25 0 [(5, .dat (.int .u64) t)], []⟩ : St))) := by
  unfold impl_dependents_n6
  exact Link.cast (by kernel_rfl) (by kernel_rfl) (link_seq (b := (Code.snd (Code.fst (Code.snd (Code.snd (bodyOf Tryd.f58)))))) (y := (Ann.snd (Ann.fst (Ann.snd (Ann.snd impl_dependents_an))))) (impl_dependents_n2_l x3388 x3389) (fun (t : Int) => (impl_dependents_n5_l x3388 x3389 t)))

theorem impl_dependents_n7_l (x3409 : Int) : Link impl_dependents_ctx LL (Code.snd (Code.snd (Code.snd (bodyOf Tryd.f58)))) (Ann.snd (Ann.snd (Ann.snd impl_dependents_an))) (⟨mkE 25 0 [(5, .dat (.int .u64) x3409)], []⟩ : St) (impl_dependents_n7 x3409) (fun (t : Int) => (Exit.ret, (⟨mkE 25 0 [(4, .dat (.int .u64) t)], []⟩ : St))) := by
  refine Link.of fun K h => ?_
  simp only [impl_dependents_n7, wpO_bind, wpO_cond, wpO_map, wpO_some] at h
  exact Awp.of (by kernel_rfl) h

theorem impl_dependents_n8_l (x3388 : List Int) (x3389 : Int) : Link impl_dependents_ctx LL (Code.snd (Code.snd (bodyOf Tryd.f58))) (Ann.snd (Ann.snd impl_dependents_an)) (⟨mkE 25 0 [(0, .dat (.list (.int .i64)) x3388), (1, .dat (.int .i64) x3389), (5, .dat (.int .u64) 0)], []⟩ : St) (impl_dependents_n8 x3388 x3389) (fun (t : Int) => (Exit.ret, (⟨mkE 25 0 [(4, .dat (.int .u64) t)], []⟩ : St))) := by
  unfold impl_dependents_n8
  exact Link.cast (by kernel_rfl) (by kernel_rfl) (link_seq (b := (Code.snd (Code.snd (Code.snd (bodyOf Tryd.f58))))) (y := (Ann.snd (Ann.snd (Ann.snd impl_dependents_an)))) (impl_dependents_n6_l x3388 x3389) (fun (t : Int) => (impl_dependents_n7_l t)))

theorem impl_dependents_n9_l (x3388 : List Int) (x3389 : Int) : Link impl_dependents_ctx LL (bodyOf Tryd.f58) impl_dependents_an (⟨mkE 25 0 [(0, .dat (.list (.int .i64)) x3388), (1, .dat (.int .i64) x3389)], []⟩ : St) (impl_dependents_n9 x3388 x3389) (fun (t : Int) => (Exit.ret, (⟨mkE 25 0 [(4, .dat (.int .u64) t)], []⟩ : St))) := by
  unfold impl_dependents_n9
  exact Link.cast (by kernel_rfl) (by kernel_rfl) (link_group (c := (Code.fst (Code.snd (bodyOf Tryd.f58)))) (a := (Ann.fst (Ann.snd impl_dependents_an))) [(Code.fst (bodyOf Tryd.f58))] [(Ann.fst impl_dependents_an)] rfl (link_seq (b := (Code.snd (Code.snd (bodyOf Tryd.f58)))) (y := (Ann.snd (Ann.snd impl_dependents_an))) (impl_dependents_n1_l x3388 x3389) (fun (t : Unit) => (impl_dependents_n8_l x3388 x3389))))

theorem impl_dependents_e (x3388 : List Int) (x3389 : Int) {r : AV} {H' : Heap} (h : (Ans.mk _ (impl_dependents x3388 x3389) (fun (t : Int) => (.dat (.int .u64) t, [])) [] none).run = some (r, H')) : Awp impl_dependents_ctx LL (bodyOf Tryd.f58) impl_dependents_an (⟨mkE 25 0 [(0, .dat (.list (.int .i64)) x3388), (1, .dat (.int .i64) x3389)], []⟩ : St) (Ret (tlook tys) Tryd.f58.results.toList r H') :=
  ret_of' (impl_dependents_n9_l x3388 x3389) (by unfold impl_dependents; kernel_rfl) (by
  intro t
  exact ret_mk [.dat (.int .u64) t] (by kernel_rfl) (by kernel_rfl) (by kernel_rfl) (by kernel_rfl)) h

def F_impl_dependents : Fun := fun avs H =>
  match avs, H with
  | [.dat (.list (.int .i64)) x3388, .dat (.int .i64) x3389], [] => ⟨_, impl_dependents x3388 x3389, fun (t : Int) => (.dat (.int .u64) t, []), [], none⟩
  | _, _ => Ans.no

theorem impl_dependents_sound : Sound Tryd.prog 58 F_impl_dependents := by
  refine fn_sound' (C := impl_dependents_ctx) (c := bodyOf Tryd.f58) (cok_of tys_ok (List.forall_mem_cons.2 ⟨impl_only_sound, by simp⟩) (List.forall_mem_cons.2 ⟨Tryd.call76, by simp⟩) (by kernel_rfl)) Tryd.func58 (by kernel_rfl) LL impl_dependents_an ?_
  intro avs H r H' h
  unfold F_impl_dependents at h
  split at h
  · refine Awp.cast ?_ ?_ ?_ (impl_dependents_e _ _ h) <;> kernel_rfl
  · simp [Ans.no, Ans.run] at h


/-! math/bits.OnesCount64 -/

def math_bits_OnesCount64_an : Ann := (.seq (.leaf [0]) (.seq (.leaf [0]) (.seq (.leaf [0]) (.seq (.leaf [0]) (.seq (.leaf [0]) (.seq (.leaf [0]) (.seq (.leaf [0]) (.seq (.leaf [2]) (.leaf [2])))))))))

noncomputable def math_bits_OnesCount64_ctx : Ctx := ⟨tlook tys, olook [], ioF, 0, false, []⟩

theorem math_bits_OnesCount64_n1_l (x3433 : Int) : Link math_bits_OnesCount64_ctx LL (Code.seq (Code.fst (bodyOf Tryd.f88)) (Code.fst (Code.snd (bodyOf Tryd.f88)))) (Ann.seq (Ann.fst math_bits_OnesCount64_an) (Ann.fst (Ann.snd math_bits_OnesCount64_an))) (⟨mkE 35 0 [(0, .dat (.int .u64) x3433)], []⟩ : St) (math_bits_OnesCount64_n1 x3433) (fun (t : Int) => (Exit.normal, (⟨mkE 35 0 [(0, .dat (.int .u64) t)], []⟩ : St))) := by
  refine Link.of fun K h => ?_
  simp only [math_bits_OnesCount64_n1, wpO_bind, wpO_cond, wpO_map, wpO_some] at h
  exact Awp.of (by kernel_rfl) h

theorem math_bits_OnesCount64_n2_l (x3438 : Int) : Link math_bits_OnesCount64_ctx LL (Code.fst (Code.snd (Code.snd (bodyOf Tryd.f88)))) (Ann.fst (Ann.snd (Ann.snd math_bits_OnesCount64_an))) (⟨mkE 35 0 [(0, .dat (.int .u64) x3438)], []⟩ : St) (math_bits_OnesCount64_n2 x3438) (fun (t : Int) => (Exit.normal, (⟨mkE 35 0 [(0, .dat (.int .u64) t)], []⟩ : St))) := by
  refine Link.of fun K h => ?_
  simp only [math_bits_OnesCount64_n2, wpO_bind, wpO_cond, wpO_map, wpO_some] at h
  exact Awp.of (by kernel_rfl) h

theorem math_bits_OnesCount64_n3_l (x3455 : Int) : Link math_bits_OnesCount64_ctx LL (Code.fst (Code.snd (Code.snd (Code.snd (bodyOf Tryd.f88))))) (Ann.fst (Ann.snd (Ann.snd (Ann.snd math_bits_OnesCount64_an)))) (⟨mkE 35 0 [(0, .dat (.int .u64) x3455)], []⟩ : St) (math_bits_OnesCount64_n3 x3455) (fun (t : Int) => (Exit.normal, (⟨mkE 35 0 [(0, .dat (.int .u64) t)], []⟩ : St))) := by
  refine Link.of fun K h => ?_
  simp only [math_bits_OnesCount64_n3, wpO_bind, wpO_cond, wpO_map, wpO_some] at h
  exact Awp.of (by kernel_rfl) h

theorem math_bits_OnesCount64_n4_l (x3462 : Int) : Link math_bits_OnesCount64_ctx LL (Code.fst (Code.snd (Code.snd (Code.snd (Code.snd (bodyOf Tryd.f88)))))) (Ann.fst (Ann.snd (Ann.snd (Ann.snd (Ann.snd math_bits_OnesCount64_an))))) (⟨mkE 35 0 [(0, .dat (.int .u64) x3462)], []⟩ : St) (math_bits_OnesCount64_n4 x3462) (fun (t : Int) => (Exit.normal, (⟨mkE 35 0 [(0, .dat (.int .u64) t)], []⟩ : St))) := by
  refine Link.of fun K h => ?_
  simp only [math_bits_OnesCount64_n4, wpO_bind, wpO_cond, wpO_map, wpO_some] at h
  exact Awp.of (by kernel_rfl) h

theorem math_bits_OnesCount64_n5_l (x3466 : Int) : Link math_bits_OnesCount64_ctx LL (Code.fst (Code.snd (Code.snd (Code.snd (Code.snd (Code.snd (bodyOf Tryd.f88))))))) (Ann.fst (Ann.snd (Ann.snd (Ann.snd (Ann.snd (Ann.snd math_bits_OnesCount64_an)))))) (⟨mkE 35 0 [(0, .dat (.int .u64) x3466)], []⟩ : St) (math_bits_OnesCount64_n5 x3466) (fun (t : Int) => (Exit.normal, (⟨mkE 35 0 [(0, .dat (.int .u64) t)], []⟩ : St))) := by
  refine Link.of fun K h => ?_
  simp only [math_bits_OnesCount64_n5, wpO_bind, wpO_cond, wpO_map, wpO_some] at h
  exact Awp.of (by kernel_rfl) h

theorem math_bits_OnesCount64_n6_l (x3471 : Int) : Link math_bits_OnesCount64_ctx LL (Code.fst (Code.snd (Code.snd (Code.snd (Code.snd (Code.snd (Code.snd (bodyOf Tryd.f88)))))))) (Ann.fst (Ann.snd (Ann.snd (Ann.snd (Ann.snd (Ann.snd (Ann.snd math_bits_OnesCount64_an))))))) (⟨mkE 35 0 [(0, .dat (.int .u64) x3471)], []⟩ : St) (math_bits_OnesCount64_n6 x3471) (fun (t : Int) => (Exit.normal, (⟨mkE 35 0 [(0, .dat (.int .u64) t)], []⟩ : St))) := by
  refine Link.of fun K h => ?_
  simp only [math_bits_OnesCount64_n6, wpO_bind, wpO_cond, wpO_map, wpO_some] at h
  exact Awp.of (by kernel_rfl) h

theorem math_bits_OnesCount64_n7_l (x3476 : Int) : Link math_bits_OnesCount64_ctx LL (Code.fst (Code.snd (Code.snd (Code.snd (Code.snd (Code.snd (Code.snd (Code.snd (bodyOf Tryd.f88))))))))) (Ann.fst (Ann.snd (Ann.snd (Ann.snd (Ann.snd (Ann.snd (Ann.snd (Ann.snd math_bits_OnesCount64_an)))))))) (⟨mkE 35 0 [(0, .dat (.int .u64) x3476)], []⟩ : St) (math_bits_OnesCount64_n7 x3476) (fun (t : Int) => (Exit.normal, (⟨mkE 35 0 [(2, .dat (.int .i64) t)], []⟩ : St))) := by
  refine Link.of fun K h => ?_
  simp only [math_bits_OnesCount64_n7, wpO_bind, wpO_cond, wpO_map, wpO_some] at h
  exact Awp.of (by kernel_rfl) h

theorem math_bits_OnesCount64_n8_l (x3481 : Int) : Link math_bits_OnesCount64_ctx LL (Code.snd (Code.snd (Code.snd (Code.snd (Code.snd (Code.snd (Code.snd (Code.snd (bodyOf Tryd.f88))))))))) (Ann.snd (Ann.snd (Ann.snd (Ann.snd (Ann.snd (Ann.snd (Ann.snd (Ann.snd math_bits_OnesCount64_an)))))))) (⟨mkE 35 0 [(2, .dat (.int .i64) x3481)], []⟩ : St) (math_bits_OnesCount64_n8 x3481) (fun (t : Int) => (Exit.ret, (⟨mkE 35 0 [(2, .dat (.int .i64) t)], []⟩ : St))) := by
  refine Link.of fun K h => ?_
  simp only [math_bits_OnesCount64_n8, wpO_bind, wpO_cond, wpO_map, wpO_some] at h
  exact Awp.of (by kernel_rfl) h

theorem math_bits_OnesCount64_n9_l (x3476 : Int) : Link math_bits_OnesCount64_ctx LL (Code.snd (Code.snd (Code.snd (Code.snd (Code.snd (Code.snd (Code.snd (bodyOf Tryd.f88)))))))) (Ann.snd (Ann.snd (Ann.snd (Ann.snd (Ann.snd (Ann.snd (Ann.snd math_bits_OnesCount64_an))))))) (⟨mkE 35 0 [(0, .dat (.int .u64) x3476)], []⟩ : St) (math_bits_OnesCount64_n9 x3476) (fun (t : Int) => (Exit.ret, (⟨mkE 35 0 [(2, .dat (.int .i64) t)], []⟩ : St))) := by
  unfold math_bits_OnesCount64_n9
  exact Link.cast (by kernel_rfl) (by kernel_rfl) (link_seq (b := (Code.snd (Code.snd (Code.snd (Code.snd (Code.snd (Code.snd (Code.snd (Code.snd (bodyOf Tryd.f88)))))))))) (y := (Ann.snd (Ann.snd (Ann.snd (Ann.snd (Ann.snd (Ann.snd (Ann.snd (Ann.snd math_bits_OnesCount64_an))))))))) (math_bits_OnesCount64_n7_l x3476) (fun (t : Int) => (math_bits_OnesCount64_n8_l t)))

theorem math_bits_OnesCount64_n10_l (x3471 : Int) : Link math_bits_OnesCount64_ctx LL (Code.snd (Code.snd (Code.snd (Code.snd (Code.snd (Code.snd (bodyOf Tryd.f88))))))) (Ann.snd (Ann.snd (Ann.snd (Ann.snd (Ann.snd (Ann.snd math_bits_OnesCount64_an)))))) (⟨mkE 35 0 [(0, .dat (.int .u64) x3471)], []⟩ : St) (math_bits_OnesCount64_n10 x3471) (fun (t : Int) => (Exit.ret, (⟨mkE 35 0 [(2, .dat (.int .i64) t)], []⟩ : St))) := by
  unfold math_bits_OnesCount64_n10
  exact Link.cast (by kernel_rfl) (by kernel_rfl) (link_seq (b := (Code.snd (Code.snd (Code.snd (Code.snd (Code.snd (Code.snd (Code.snd (bodyOf Tryd.f88))))))))) (y := (Ann.snd (Ann.snd (Ann.snd (Ann.snd (Ann.snd (Ann.snd (Ann.snd math_bits_OnesCount64_an)))))))) (math_bits_OnesCount64_n6_l x3471) (fun (t : Int) => (math_bits_OnesCount64_n9_l t)))

theorem math_bits_OnesCount64_n11_l (x3466 : Int) : Link math_bits_OnesCount64_ctx LL (Code.snd (Code.snd (Code.snd (Code.snd (Code.snd (bodyOf Tryd.f88)))))) (Ann.snd (Ann.snd (Ann.snd (Ann.snd (Ann.snd math_bits_OnesCount64_an))))) (⟨mkE 35 0 [(0, .dat (.int .u64) x3466)], []⟩ : St) (math_bits_OnesCount64_n11 x3466) (fun (t : Int) => (Exit.ret, (⟨mkE 35 0 [(2, .dat (.int .i64) t)], []⟩ : St))) := by
  unfold math_bits_OnesCount64_n11
  exact Link.cast (by kernel_rfl) (by kernel_rfl) (link_seq (b := (Code.snd (Code.snd (Code.snd (Code.snd (Code.snd (Code.snd (bodyOf Tryd.f88)))))))) (y := (Ann.snd (Ann.snd (Ann.snd (Ann.snd (Ann.snd (Ann.snd math_bits_OnesCount64_an))))))) (math_bits_OnesCount64_n5_l x3466) (fun (t : Int) => (math_bits_OnesCount64_n10_l t)))

theorem math_bits_OnesCount64_n12_l (x3462 : Int) : Link math_bits_OnesCount64_ctx LL (Code.snd (Code.snd (Code.snd (Code.snd (bodyOf Tryd.f88))))) (Ann.snd (Ann.snd (Ann.snd (Ann.snd math_bits_OnesCount64_an)))) (⟨mkE 35 0 [(0, .dat (.int .u64) x3462)], []⟩ : St) (math_bits_OnesCount64_n12 x3462) (fun (t : Int) => (Exit.ret, (⟨mkE 35 0 [(2, .dat (.int .i64) t)], []⟩ : St))) := by
  unfold math_bits_OnesCount64_n12
  exact Link.cast (by kernel_rfl) (by kernel_rfl) (link_seq (b := (Code.snd (Code.snd (Code.snd (Code.snd (Code.snd (bodyOf Tryd.f88))))))) (y := (Ann.snd (Ann.snd (Ann.snd (Ann.snd (Ann.snd math_bits_OnesCount64_an)))))) (math_bits_OnesCount64_n4_l x3462) (fun (t : Int) => (math_bits_OnesCount64_n11_l t)))

theorem math_bits_OnesCount64_n13_l (x3455 : Int) : Link math_bits_OnesCount64_ctx LL (Code.snd (Code.snd (Code.snd (bodyOf Tryd.f88)))) (Ann.snd (Ann.snd (Ann.snd math_bits_OnesCount64_an))) (⟨mkE 35 0 [(0, .dat (.int .u64) x3455)], []⟩ : St) (math_bits_OnesCount64_n13 x3455) (fun (t : Int) => (Exit.ret, (⟨mkE 35 0 [(2, .dat (.int .i64) t)], []⟩ : St))) := by
  unfold math_bits_OnesCount64_n13
  exact Link.cast (by kernel_rfl) (by kernel_rfl) (link_seq (b := (Code.snd (Code.snd (Code.snd (Code.snd (bodyOf Tryd.f88)))))) (y := (Ann.snd (Ann.snd (Ann.snd (Ann.snd math_bits_OnesCount64_an))))) (math_bits_OnesCount64_n3_l x3455) (fun (t : Int) => (math_bits_OnesCount64_n12_l t)))

theorem math_bits_OnesCount64_n14_l (x3438 : Int) : Link math_bits_OnesCount64_ctx LL (Code.snd (Code.snd (bodyOf Tryd.f88))) (Ann.snd (Ann.snd math_bits_OnesCount64_an)) (⟨mkE 35 0 [(0, .dat (.int .u64) x3438)], []⟩ : St) (math_bits_OnesCount64_n14 x3438) (fun (t : Int) => (Exit.ret, (⟨mkE 35 0 [(2, .dat (.int .i64) t)], []⟩ : St))) := by
  unfold math_bits_OnesCount64_n14
  exact Link.cast (by kernel_rfl) (by kernel_rfl) (link_seq (b := (Code.snd (Code.snd (Code.snd (bodyOf Tryd.f88))))) (y := (Ann.snd (Ann.snd (Ann.snd math_bits_OnesCount64_an)))) (math_bits_OnesCount64_n2_l x3438) (fun (t : Int) => (math_bits_OnesCount64_n13_l t)))

theorem math_bits_OnesCount64_n15_l (x3433 : Int) : Link math_bits_OnesCount64_ctx LL (bodyOf Tryd.f88) math_bits_OnesCount64_an (⟨mkE 35 0 [(0, .dat (.int .u64) x3433)], []⟩ : St) (math_bits_OnesCount64_n15 x3433) (fun (t : Int) => (Exit.ret, (⟨mkE 35 0 [(2, .dat (.int .i64) t)], []⟩ : St))) := by
  unfold math_bits_OnesCount64_n15
  exact Link.cast (by kernel_rfl) (by kernel_rfl) (link_group (c := (Code.fst (Code.snd (bodyOf Tryd.f88)))) (a := (Ann.fst (Ann.snd math_bits_OnesCount64_an))) [(Code.fst (bodyOf Tryd.f88))] [(Ann.fst math_bits_OnesCount64_an)] rfl (link_seq (b := (Code.snd (Code.snd (bodyOf Tryd.f88)))) (y := (Ann.snd (Ann.snd math_bits_OnesCount64_an))) (math_bits_OnesCount64_n1_l x3433) (fun (t : Int) => (math_bits_OnesCount64_n14_l t))))

theorem math_bits_OnesCount64_e (x3433 : Int) {r : AV} {H' : Heap} (h : (Ans.mk _ (math_bits_OnesCount64 x3433) (fun (t : Int) => (.dat (.int .i64) t, [])) [] none).run = some (r, H')) : Awp math_bits_OnesCount64_ctx LL (bodyOf Tryd.f88) math_bits_OnesCount64_an (⟨mkE 35 0 [(0, .dat (.int .u64) x3433)], []⟩ : St) (Ret (tlook tys) Tryd.f88.results.toList r H') :=
  ret_of' (math_bits_OnesCount64_n15_l x3433) (by unfold math_bits_OnesCount64; kernel_rfl) (by
  intro t
  exact ret_mk [.dat (.int .i64) t] (by kernel_rfl) (by kernel_rfl) (by kernel_rfl) (by kernel_rfl)) h

def F_math_bits_OnesCount64 : Fun := fun avs H =>
  match avs, H with
  | [.dat (.int .u64) x3433], [] => ⟨_, math_bits_OnesCount64 x3433, fun (t : Int) => (.dat (.int .i64) t, []), [], none⟩
  | _, _ => Ans.no

theorem math_bits_OnesCount64_sound : Sound Tryd.prog 88 F_math_bits_OnesCount64 := by
  refine fn_sound' (C := math_bits_OnesCount64_ctx) (c := bodyOf Tryd.f88) (cok_of tys_ok (by simp) (by simp) (by kernel_rfl)) Tryd.func88 (by kernel_rfl) LL math_bits_OnesCount64_an ?_
  intro avs H r H' h
  unfold F_math_bits_OnesCount64 at h
  split at h
  · refine Awp.cast ?_ ?_ ?_ (math_bits_OnesCount64_e _ h) <;> kernel_rfl
  · simp [Ans.no, Ans.run] at h


/-! math/bits.OnesCount -/

def math_bits_OnesCount_an : Ann := (.seq (.leaf [0]) (.seq (.cond (.seq (.leaf [2]) (.leaf [2])) (.leaf [0])) (.seq (.leaf [2]) (.leaf [2]))))

noncomputable def math_bits_OnesCount_ctx : Ctx := ⟨tlook tys, olook [(88, F_math_bits_OnesCount64)], ioF, 0, false, []⟩

theorem math_bits_OnesCount_n1_l (x3432 : Int) : Link math_bits_OnesCount_ctx LL (bodyOf Tryd.f82) math_bits_OnesCount_an (⟨mkE 8 0 [(0, .dat (.int .u64) x3432)], []⟩ : St) (math_bits_OnesCount_n1 x3432) (fun (t : Int) => (Exit.ret, (⟨mkE 8 0 [(2, .dat (.int .i64) t)], []⟩ : St))) := by
  refine Link.of fun K h => ?_
  simp only [math_bits_OnesCount_n1, wpO_bind, wpO_cond, wpO_map, wpO_some] at h
  exact Awp.of (by kernel_rfl) h

theorem math_bits_OnesCount_e (x3432 : Int) {r : AV} {H' : Heap} (h : (Ans.mk _ (math_bits_OnesCount x3432) (fun (t : Int) => (.dat (.int .i64) t, [])) [] none).run = some (r, H')) : Awp math_bits_OnesCount_ctx LL (bodyOf Tryd.f82) math_bits_OnesCount_an (⟨mkE 8 0 [(0, .dat (.int .u64) x3432)], []⟩ : St) (Ret (tlook tys) Tryd.f82.results.toList r H') :=
  ret_of' (math_bits_OnesCount_n1_l x3432) (by unfold math_bits_OnesCount; kernel_rfl) (by
  intro t
  exact ret_mk [.dat (.int .i64) t] (by kernel_rfl) (by kernel_rfl) (by kernel_rfl) (by kernel_rfl)) h

def F_math_bits_OnesCount : Fun := fun avs H =>
  match avs, H with
  | [.dat (.int .u64) x3432], [] => ⟨_, math_bits_OnesCount x3432, fun (t : Int) => (.dat (.int .i64) t, []), [], none⟩
  | _, _ => Ans.no

theorem math_bits_OnesCount_sound : Sound Tryd.prog 82 F_math_bits_OnesCount := by
  refine fn_sound' (C := math_bits_OnesCount_ctx) (c := bodyOf Tryd.f82) (cok_of tys_ok (List.forall_mem_cons.2 ⟨math_bits_OnesCount64_sound, by simp⟩) (List.forall_mem_cons.2 ⟨Tryd.call88, by simp⟩) (by kernel_rfl)) Tryd.func82 (by kernel_rfl) LL math_bits_OnesCount_an ?_
  intro avs H r H' h
  unfold F_math_bits_OnesCount at h
  split at h
  · refine Awp.cast ?_ ?_ ?_ (math_bits_OnesCount_e _ h) <;> kernel_rfl
  · simp [Ans.no, Ans.run] at h


/-! (loop.example/headtrees/impl.wordSet).count -/

def impl_wordSet_count_an : Ann := (.seq (.leaf [0]) (.seq (.leaf [2]) (.leaf [2])))

noncomputable def impl_wordSet_count_ctx : Ctx := ⟨tlook tys, olook [(82, F_math_bits_OnesCount)], ioF, 0, false, []⟩

theorem impl_wordSet_count_n1_l (x3431 : Int) : Link impl_wordSet_count_ctx LL (bodyOf Tryd.f71) impl_wordSet_count_an (⟨mkE 5 0 [(0, .dat (.int .u64) x3431)], []⟩ : St) (impl_wordSet_count_n1 x3431) (fun (t : Int) => (Exit.ret, (⟨mkE 5 0 [(2, .dat (.int .i64) t)], []⟩ : St))) := by
  refine Link.of fun K h => ?_
  simp only [impl_wordSet_count_n1, wpO_bind, wpO_cond, wpO_map, wpO_some] at h
  exact Awp.of (by kernel_rfl) h

theorem impl_wordSet_count_e (x3431 : Int) {r : AV} {H' : Heap} (h : (Ans.mk _ (impl_wordSet_count x3431) (fun (t : Int) => (.dat (.int .i64) t, [])) [] none).run = some (r, H')) : Awp impl_wordSet_count_ctx LL (bodyOf Tryd.f71) impl_wordSet_count_an (⟨mkE 5 0 [(0, .dat (.int .u64) x3431)], []⟩ : St) (Ret (tlook tys) Tryd.f71.results.toList r H') :=
  ret_of' (impl_wordSet_count_n1_l x3431) (by unfold impl_wordSet_count; kernel_rfl) (by
  intro t
  exact ret_mk [.dat (.int .i64) t] (by kernel_rfl) (by kernel_rfl) (by kernel_rfl) (by kernel_rfl)) h

def F_impl_wordSet_count : Fun := fun avs H =>
  match avs, H with
  | [.dat (.int .u64) x3431], [] => ⟨_, impl_wordSet_count x3431, fun (t : Int) => (.dat (.int .i64) t, []), [], none⟩
  | _, _ => Ans.no

theorem impl_wordSet_count_sound : Sound Tryd.prog 71 F_impl_wordSet_count := by
  refine fn_sound' (C := impl_wordSet_count_ctx) (c := bodyOf Tryd.f71) (cok_of tys_ok (List.forall_mem_cons.2 ⟨math_bits_OnesCount_sound, by simp⟩) (List.forall_mem_cons.2 ⟨Tryd.call82, by simp⟩) (by kernel_rfl)) Tryd.func71 (by kernel_rfl) LL impl_wordSet_count_an ?_
  intro avs H r H' h
  unfold F_impl_wordSet_count at h
  split at h
  · refine Awp.cast ?_ ?_ ?_ (impl_wordSet_count_e _ h) <;> kernel_rfl
  · simp [Ans.no, Ans.run] at h


/-! math/bits.TrailingZeros64 -/

def math_bits_TrailingZeros64_an : Ann := (.seq (.leaf [0]) (.seq (.seq (.leaf [0, 4]) (.cond (.seq (.leaf [2]) (.leaf [2])) (.leaf [0]))) (.seq (.leaf [2]) (.leaf [2]))))

noncomputable def math_bits_TrailingZeros64_ctx : Ctx := ⟨tlook tys, olook [], ioF, 0, false, []⟩

theorem math_bits_TrailingZeros64_n1_l (x3492 : Int) : Link math_bits_TrailingZeros64_ctx LL (bodyOf Tryd.f91) math_bits_TrailingZeros64_an (⟨mkE 14 0 [(0, .dat (.int .u64) x3492)], []⟩ : St) (math_bits_TrailingZeros64_n1 x3492) (fun (t : Int) => (Exit.ret, (⟨mkE 14 0 [(2, .dat (.int .i64) t)], []⟩ : St))) := by
  refine Link.of fun K h => ?_
  simp only [math_bits_TrailingZeros64_n1, wpO_bind, wpO_cond, wpO_map, wpO_some] at h
  exact Awp.of (by kernel_rfl) h

theorem math_bits_TrailingZeros64_e (x3492 : Int) {r : AV} {H' : Heap} (h : (Ans.mk _ (math_bits_TrailingZeros64 x3492) (fun (t : Int) => (.dat (.int .i64) t, [])) [] none).run = some (r, H')) : Awp math_bits_TrailingZeros64_ctx LL (bodyOf Tryd.f91) math_bits_TrailingZeros64_an (⟨mkE 14 0 [(0, .dat (.int .u64) x3492)], []⟩ : St) (Ret (tlook tys) Tryd.f91.results.toList r H') :=
  ret_of' (math_bits_TrailingZeros64_n1_l x3492) (by unfold math_bits_TrailingZeros64; kernel_rfl) (by
  intro t
  exact ret_mk [.dat (.int .i64) t] (by kernel_rfl) (by kernel_rfl) (by kernel_rfl) (by kernel_rfl)) h

def F_math_bits_TrailingZeros64 : Fun := fun avs H =>
  match avs, H with
  | [.dat (.int .u64) x3492], [] => ⟨_, math_bits_TrailingZeros64 x3492, fun (t : Int) => (.dat (.int .i64) t, []), [], none⟩
  | _, _ => Ans.no

theorem math_bits_TrailingZeros64_sound : Sound Tryd.prog 91 F_math_bits_TrailingZeros64 := by
  refine fn_sound' (C := math_bits_TrailingZeros64_ctx) (c := bodyOf Tryd.f91) (cok_of tys_ok (by simp) (by simp) (by kernel_rfl)) Tryd.func91 (by kernel_rfl) LL math_bits_TrailingZeros64_an ?_
  intro avs H r H' h
  unfold F_math_bits_TrailingZeros64 at h
  split at h
  · refine Awp.cast ?_ ?_ ?_ (math_bits_TrailingZeros64_e _ h) <;> kernel_rfl
  · simp [Ans.no, Ans.run] at h


/-! math/bits.TrailingZeros -/

def math_bits_TrailingZeros_an : Ann := (.seq (.leaf [0]) (.seq (.cond (.seq (.leaf [2]) (.leaf [2])) (.leaf [0])) (.seq (.leaf [2]) (.leaf [2]))))

noncomputable def math_bits_TrailingZeros_ctx : Ctx := ⟨tlook tys, olook [(91, F_math_bits_TrailingZeros64)], ioF, 0, false, []⟩

theorem math_bits_TrailingZeros_n1_l (x3491 : Int) : Link math_bits_TrailingZeros_ctx LL (bodyOf Tryd.f85) math_bits_TrailingZeros_an (⟨mkE 8 0 [(0, .dat (.int .u64) x3491)], []⟩ : St) (math_bits_TrailingZeros_n1 x3491) (fun (t : Int) => (Exit.ret, (⟨mkE 8 0 [(2, .dat (.int .i64) t)], []⟩ : St))) := by
  refine Link.of fun K h => ?_
  simp only [math_bits_TrailingZeros_n1, wpO_bind, wpO_cond, wpO_map, wpO_some] at h
  exact Awp.of (by kernel_rfl) h

theorem math_bits_TrailingZeros_e (x3491 : Int) {r : AV} {H' : Heap} (h : (Ans.mk _ (math_bits_TrailingZeros x3491) (fun (t : Int) => (.dat (.int .i64) t, [])) [] none).run = some (r, H')) : Awp math_bits_TrailingZeros_ctx LL (bodyOf Tryd.f85) math_bits_TrailingZeros_an (⟨mkE 8 0 [(0, .dat (.int .u64) x3491)], []⟩ : St) (Ret (tlook tys) Tryd.f85.results.toList r H') :=
  ret_of' (math_bits_TrailingZeros_n1_l x3491) (by unfold math_bits_TrailingZeros; kernel_rfl) (by
  intro t
  exact ret_mk [.dat (.int .i64) t] (by kernel_rfl) (by kernel_rfl) (by kernel_rfl) (by kernel_rfl)) h

def F_math_bits_TrailingZeros : Fun := fun avs H =>
  match avs, H with
  | [.dat (.int .u64) x3491], [] => ⟨_, math_bits_TrailingZeros x3491, fun (t : Int) => (.dat (.int .i64) t, []), [], none⟩
  | _, _ => Ans.no

theorem math_bits_TrailingZeros_sound : Sound Tryd.prog 85 F_math_bits_TrailingZeros := by
  refine fn_sound' (C := math_bits_TrailingZeros_ctx) (c := bodyOf Tryd.f85) (cok_of tys_ok (List.forall_mem_cons.2 ⟨math_bits_TrailingZeros64_sound, by simp⟩) (List.forall_mem_cons.2 ⟨Tryd.call91, by simp⟩) (by kernel_rfl)) Tryd.func85 (by kernel_rfl) LL math_bits_TrailingZeros_an ?_
  intro avs H r H' h
  unfold F_math_bits_TrailingZeros at h
  split at h
  · refine Awp.cast ?_ ?_ ?_ (math_bits_TrailingZeros_e _ h) <;> kernel_rfl
  · simp [Ans.no, Ans.run] at h


/-! (loop.example/headtrees/impl.wordSet).list -/

def impl_wordSet_list_an : Ann := (.seq (.leaf [0]) (.seq (.leaf [0, 3]) (.seq (.seq (.leaf [3, 4]) (.block (.loop (.seq (.seq (.leaf [3, 4, 10]) (.cond (.leaf [3, 4]) (.leaf [3]))) (.seq (.block (.leaf [3, 4])) (.leaf [3, 4])))))) (.seq (.leaf [2]) (.leaf [2])))))

noncomputable def impl_wordSet_list_ctx : Ctx := ⟨tlook tys, olook [(71, F_impl_wordSet_count), (85, F_math_bits_TrailingZeros)], ioF, 0, false, []⟩

theorem impl_wordSet_list_n1_l (x3430 : Int) : Link impl_wordSet_list_ctx LL (Code.seq (Code.fst (bodyOf Tryd.f77)) (Code.fst (Code.snd (bodyOf Tryd.f77)))) (Ann.seq (Ann.fst impl_wordSet_list_an) (Ann.fst (Ann.snd impl_wordSet_list_an))) (⟨mkE 22 0 [(0, .dat (.int .u64) x3430)], []⟩ : St) (impl_wordSet_list_n1 x3430) (fun (t : (List Int)) => (Exit.normal, (⟨mkE 22 0 [(0, .dat (.int .u64) x3430), (3, .slc 0)], [some (.seq (.int .i64) t)]⟩ : St))) := by
  refine Link.of fun K h => ?_
  simp only [impl_wordSet_list_n1, wpO_bind, wpO_cond, wpO_map, wpO_some] at h
  exact Awp.of (by kernel_rfl) h

theorem impl_wordSet_list_n2_l (x3430 : Int) (x3488 : List Int) : Link impl_wordSet_list_ctx LL (Code.fst (Code.fst (Code.snd (Code.snd (bodyOf Tryd.f77))))) (Ann.fst (Ann.fst (Ann.snd (Ann.snd impl_wordSet_list_an)))) (⟨mkE 22 0 [(0, .dat (.int .u64) x3430), (3, .slc 0)], [some (.seq (.int .i64) x3488)]⟩ : St) (impl_wordSet_list_n2) (fun (t : Unit) => (Exit.normal, (⟨mkE 22 0 [(3, .slc 0), (4, .dat (.int .u64) x3430)], [some (.seq (.int .i64) x3488)]⟩ : St))) := by
  refine Link.of fun K h => ?_
  simp only [impl_wordSet_list_n2, wpO_bind, wpO_cond, wpO_map, wpO_some] at h
  exact Awp.of (by kernel_rfl) h

theorem impl_wordSet_list_n3_l (x3531 : Int) (x3532 : List Int) : Link impl_wordSet_list_ctx LL (Code.fst (Code.fst (Code.snd (Code.fst (Code.snd (Code.snd (bodyOf Tryd.f77))))))) (Ann.fst (Ann.fst (Ann.snd (Ann.fst (Ann.snd (Ann.snd impl_wordSet_list_an)))))) (⟨mkE 22 0 [(3, .slc 0), (4, .dat (.int .u64) x3531)], [some (.seq (.int .i64) x3532)]⟩ : St) (impl_wordSet_list_n3 x3531 x3532) (Sum.elim (fun (t : Int × (List Int)) => (Exit.normal, (⟨mkE 22 0 [(3, .slc 0), (4, .dat (.int .u64) t.1)], [some (.seq (.int .i64) t.2)]⟩ : St))) (fun (t : (List Int)) => ((Exit.exit 0), (⟨mkE 22 0 [(3, .slc 0)], [some (.seq (.int .i64) t)]⟩ : St)))) := by
  refine Link.of fun K h => ?_
  simp only [impl_wordSet_list_n3, wpO_bind, wpO_cond, wpO_map, wpO_some] at h
  exact Awp.of (by kernel_rfl) h

theorem impl_wordSet_list_n4_l (x3430 : Int) (x3488 : List Int) : Link impl_wordSet_list_ctx LL (Code.fst (Code.snd (Code.fst (Code.snd (Code.snd (bodyOf Tryd.f77)))))) (Ann.fst (Ann.snd (Ann.fst (Ann.snd (Ann.snd impl_wordSet_list_an))))) (⟨mkE 22 0 [(3, .slc 0), (4, .dat (.int .u64) x3430)], [some (.seq (.int .i64) x3488)]⟩ : St) (impl_wordSet_list_n4 x3430 x3488) (fun (t : (List Int)) => ((Exit.exit 0), (⟨mkE 22 0 [(3, .slc 0)], [some (.seq (.int .i64) t)]⟩ : St))) := by
  unfold impl_wordSet_list_n4
  exact Link.cast (by kernel_rfl) (by kernel_rfl) (link_loop (mk := fun (s : Int × (List Int)) => (⟨mkE 22 0 [(3, .slc 0), (4, .dat (.int .u64) s.1)], [some (.seq (.int .i64) s.2)]⟩ : St)) (fin := (fun (t : (List Int)) => ((Exit.exit 0), (⟨mkE 22 0 [(3, .slc 0)], [some (.seq (.int .i64) t)]⟩ : St)))) (by
  rintro t f K h
  · exact h) (fun s => link_map (impl_wordSet_list_n3_l s.1 s.2) (Sum.elim (fun (t : Int × (List Int)) => Sum.inl (t.1, t.2)) (fun (t : (List Int)) => Sum.inr t)) (by
  rintro (t | t)
  · kernel_rfl
  · kernel_rfl)) (x3430, x3488))

theorem impl_wordSet_list_n5_l (x3430 : Int) (x3488 : List Int) : Link impl_wordSet_list_ctx LL (Code.snd (Code.fst (Code.snd (Code.snd (bodyOf Tryd.f77))))) (Ann.snd (Ann.fst (Ann.snd (Ann.snd impl_wordSet_list_an)))) (⟨mkE 22 0 [(3, .slc 0), (4, .dat (.int .u64) x3430)], [some (.seq (.int .i64) x3488)]⟩ : St) (impl_wordSet_list_n5 x3430 x3488) (fun (t : (List Int)) => (Exit.normal, (⟨mkE 22 0 [(3, .slc 0)], [some (.seq (.int .i64) t)]⟩ : St))) := by
  unfold impl_wordSet_list_n5
  exact Link.cast (by kernel_rfl) (by kernel_rfl) (link_block (id := 0) (impl_wordSet_list_n4_l x3430 x3488) (fun (t : (List Int)) => t) (by
  rintro t K h
  · exact Eq.mp (by kernel_rfl) h))

theorem impl_wordSet_list_n6_l (x3430 : Int) (x3488 : List Int) : Link impl_wordSet_list_ctx LL (Code.fst (Code.snd (Code.snd (bodyOf Tryd.f77)))) (Ann.fst (Ann.snd (Ann.snd impl_wordSet_list_an))) (⟨mkE 22 0 [(0, .dat (.int .u64) x3430), (3, .slc 0)], [some (.seq (.int .i64) x3488)]⟩ : St) (impl_wordSet_list_n6 x3430 x3488) (fun (t : (List Int)) => (Exit.normal, (⟨mkE 22 0 [(3, .slc 0)], [some (.seq (.int .i64) t)]⟩ : St))) := by
  unfold impl_wordSet_list_n6
  exact Link.cast (by kernel_rfl) (by kernel_rfl) (link_seq (b := (Code.snd (Code.fst (Code.snd (Code.snd (bodyOf Tryd.f77)))))) (y := (Ann.snd (Ann.fst (Ann.snd (Ann.snd impl_wordSet_list_an))))) (impl_wordSet_list_n2_l x3430 x3488) (fun (t : Unit) => (impl_wordSet_list_n5_l x3430 x3488)))

theorem impl_wordSet_list_n7_l (x3532 : List Int) : Link impl_wordSet_list_ctx LL (Code.snd (Code.snd (Code.snd (bodyOf Tryd.f77)))) (Ann.snd (Ann.snd (Ann.snd impl_wordSet_list_an))) (⟨mkE 22 0 [(3, .slc 0)], [some (.seq (.int .i64) x3532)]⟩ : St) (impl_wordSet_list_n7 x3532) (fun (t : (List Int)) => (Exit.ret, (⟨mkE 22 0 [(2, .slc 0)], [some (.seq (.int .i64) t)]⟩ : St))) := by
  refine Link.of fun K h => ?_
  simp only [impl_wordSet_list_n7, wpO_bind, wpO_cond, wpO_map, wpO_some] at h
  exact Awp.of (by kernel_rfl) h

theorem impl_wordSet_list_n8_l (x3430 : Int) (x3488 : List Int) : Link impl_wordSet_list_ctx LL (Code.snd (Code.snd (bodyOf Tryd.f77))) (Ann.snd (Ann.snd impl_wordSet_list_an)) (⟨mkE 22 0 [(0, .dat (.int .u64) x3430), (3, .slc 0)], [some (.seq (.int .i64) x3488)]⟩ : St) (impl_wordSet_list_n8 x3430 x3488) (fun (t : (List Int)) => (Exit.ret, (⟨mkE 22 0 [(2, .slc 0)], [some (.seq (.int .i64) t)]⟩ : St))) := by
  unfold impl_wordSet_list_n8
  exact Link.cast (by kernel_rfl) (by kernel_rfl) (link_seq (b := (Code.snd (Code.snd (Code.snd (bodyOf Tryd.f77))))) (y := (Ann.snd (Ann.snd (Ann.snd impl_wordSet_list_an)))) (impl_wordSet_list_n6_l x3430 x3488) (fun (t : (List Int)) => (impl_wordSet_list_n7_l t)))

theorem impl_wordSet_list_n9_l (x3430 : Int) : Link impl_wordSet_list_ctx LL (bodyOf Tryd.f77) impl_wordSet_list_an (⟨mkE 22 0 [(0, .dat (.int .u64) x3430)], []⟩ : St) (impl_wordSet_list_n9 x3430) (fun (t : (List Int)) => (Exit.ret, (⟨mkE 22 0 [(2, .slc 0)], [some (.seq (.int .i64) t)]⟩ : St))) := by
  unfold impl_wordSet_list_n9
  exact Link.cast (by kernel_rfl) (by kernel_rfl) (link_group (c := (Code.fst (Code.snd (bodyOf Tryd.f77)))) (a := (Ann.fst (Ann.snd impl_wordSet_list_an))) [(Code.fst (bodyOf Tryd.f77))] [(Ann.fst impl_wordSet_list_an)] rfl (link_seq (b := (Code.snd (Code.snd (bodyOf Tryd.f77)))) (y := (Ann.snd (Ann.snd impl_wordSet_list_an))) (impl_wordSet_list_n1_l x3430) (fun (t : (List Int)) => (impl_wordSet_list_n8_l x3430 t))))

theorem impl_wordSet_list_e (x3430 : Int) {r : AV} {H' : Heap} (h : (Ans.mk _ (impl_wordSet_list x3430) (fun (t : (List Int)) => (.slc 0, [some (.seq (.int .i64) t)])) [] none).run = some (r, H')) : Awp impl_wordSet_list_ctx LL (bodyOf Tryd.f77) impl_wordSet_list_an (⟨mkE 22 0 [(0, .dat (.int .u64) x3430)], []⟩ : St) (Ret (tlook tys) Tryd.f77.results.toList r H') :=
  ret_of' (impl_wordSet_list_n9_l x3430) (by unfold impl_wordSet_list; kernel_rfl) (by
  intro t
  exact ret_mk [.slc 0] (by kernel_rfl) (by kernel_rfl) (by kernel_rfl) (by kernel_rfl)) h

def F_impl_wordSet_list : Fun := fun avs H =>
  match avs, H with
  | [.dat (.int .u64) x3430], [] => ⟨_, impl_wordSet_list x3430, fun (t : (List Int)) => (.slc 0, [some (.seq (.int .i64) t)]), [], none⟩
  | _, _ => Ans.no

theorem impl_wordSet_list_sound : Sound Tryd.prog 77 F_impl_wordSet_list := by
  refine fn_sound' (C := impl_wordSet_list_ctx) (c := bodyOf Tryd.f77) (cok_of tys_ok (List.forall_mem_cons.2 ⟨impl_wordSet_count_sound, List.forall_mem_cons.2 ⟨math_bits_TrailingZeros_sound, by simp⟩⟩) (List.forall_mem_cons.2 ⟨Tryd.call71, List.forall_mem_cons.2 ⟨Tryd.call85, by simp⟩⟩) (by kernel_rfl)) Tryd.func77 (by kernel_rfl) LL impl_wordSet_list_an ?_
  intro avs H r H' h
  unfold F_impl_wordSet_list at h
  split at h
  · refine Awp.cast ?_ ?_ ?_ (impl_wordSet_list_e _ h) <;> kernel_rfl
  · simp [Ans.no, Ans.run] at h


/-! loop.example/headtrees/impl.fillYields -/

def impl_fillYields_an : Ann := (.seq (.leaf [0, 1, 2]) (.seq (.leaf [0, 1, 2, 7]) (.seq (.seq (.leaf [0, 1, 2, 7, 15, 16, 17]) (.block (.loop (.seq (.leaf [0, 1, 2, 7, 15, 16, 17, 18]) (.seq (.cond (.leaf [0, 1, 2, 7, 15, 16, 17]) (.leaf [0, 2, 7])) (.seq (.block (.seq (.leaf [0, 1, 2, 7, 9, 15, 16, 17]) (.leaf [0, 1, 2, 7, 15, 16, 17]))) (.leaf [0, 1, 2, 7, 15, 16, 17]))))))) (.seq (.leaf [7]) (.seq (.leaf [6]) (.leaf [6]))))))

def F_impl_fillYields_fuel (n : Nat) : Fun := fun avs H =>
  match avs, H with
  | [.slc 0, .dat (.list (.int .i64)) x3379, .dat (.int .i64) x3380], [some (.seq (.int .u64) x3381)] => ⟨_, impl_fillYields_fuel n x3379 x3380 x3381, fun (t : Int × (List Int)) => (.dat (.int .u64) t.1, [some (.seq (.int .u64) t.2)]), [], none⟩
  | _, _ => Ans.no

noncomputable def impl_fillYields_ctx (n : Nat) : Ctx := ⟨tlook tys, olook [(76, F_impl_only), (58, F_impl_dependents), (77, F_impl_wordSet_list), (61, F_impl_fillYields_fuel n)], ioF, 1, false, []⟩

theorem impl_fillYields_n1_l (n : Nat) (x3379 : List Int) (x3380 : Int) (x3381 : List Int) : Link (impl_fillYields_ctx n) LL (Code.seq (Code.fst (bodyOf Tryd.f61)) (Code.fst (Code.snd (bodyOf Tryd.f61)))) (Ann.seq (Ann.fst impl_fillYields_an) (Ann.fst (Ann.snd impl_fillYields_an))) (⟨mkE 34 0 [(0, .slc 0), (1, .dat (.list (.int .i64)) x3379), (2, .dat (.int .i64) x3380)], [some (.seq (.int .u64) x3381)]⟩ : St) (impl_fillYields_n1 (impl_fillYields_fuel n) x3380) (fun (t : Int) => (Exit.normal, (⟨mkE 34 0 [(0, .slc 0), (1, .dat (.list (.int .i64)) x3379), (2, .dat (.int .i64) x3380), (7, .dat (.int .u64) t)], [some (.seq (.int .u64) x3381)]⟩ : St))) := by
  refine Link.of fun K h => ?_
  simp only [impl_fillYields_n1, wpO_bind, wpO_cond, wpO_map, wpO_some] at h
  exact Awp.of (by kernel_rfl) h

theorem impl_fillYields_n2_l (n : Nat) (x3379 : List Int) (x3380 : Int) (x3566 : Int) (x3381 : List Int) : Link (impl_fillYields_ctx n) LL (Code.fst (Code.fst (Code.snd (Code.snd (bodyOf Tryd.f61))))) (Ann.fst (Ann.fst (Ann.snd (Ann.snd impl_fillYields_an)))) (⟨mkE 34 0 [(0, .slc 0), (1, .dat (.list (.int .i64)) x3379), (2, .dat (.int .i64) x3380), (7, .dat (.int .u64) x3566)], [some (.seq (.int .u64) x3381)]⟩ : St) (impl_fillYields_n2 (impl_fillYields_fuel n) x3379 x3380) (fun (t : Int × (List Int)) => (Exit.normal, (⟨mkE 34 0 [(0, .slc 0), (1, .dat (.list (.int .i64)) x3379), (2, .dat (.int .i64) x3380), (7, .dat (.int .u64) x3566), (15, .slc 1), (16, .dat (.int .i64) t.1), (17, .dat (.int .i64) 0)], [some (.seq (.int .u64) x3381), some (.seq (.int .i64) t.2)]⟩ : St))) := by
  refine Link.of fun K h => ?_
  simp only [impl_fillYields_n2, wpO_bind, wpO_cond, wpO_map, wpO_some] at h
  exact Awp.of (by kernel_rfl) h

theorem impl_fillYields_n3_l (n : Nat) (x3379 : List Int) (x3380 : Int) (x3587 : Int) (x3569 : Int) (x3588 : Int) (x3589 : List Int) (x3568 : List Int) : Link (impl_fillYields_ctx n) LL (Code.fst (Code.fst (Code.snd (Code.fst (Code.snd (Code.snd (bodyOf Tryd.f61))))))) (Ann.fst (Ann.fst (Ann.snd (Ann.fst (Ann.snd (Ann.snd impl_fillYields_an)))))) (⟨mkE 34 0 [(0, .slc 0), (1, .dat (.list (.int .i64)) x3379), (2, .dat (.int .i64) x3380), (7, .dat (.int .u64) x3587), (15, .slc 1), (16, .dat (.int .i64) x3569), (17, .dat (.int .i64) x3588)], [some (.seq (.int .u64) x3589), some (.seq (.int .i64) x3568)]⟩ : St) (impl_fillYields_n3 (impl_fillYields_fuel n) x3379 x3587 x3569 x3588 x3589 x3568) (Sum.elim (fun (t : Int × Int × (List Int)) => (Exit.normal, (⟨mkE 34 0 [(0, .slc 0), (1, .dat (.list (.int .i64)) x3379), (2, .dat (.int .i64) x3380), (7, .dat (.int .u64) t.1), (15, .slc 1), (16, .dat (.int .i64) x3569), (17, .dat (.int .i64) t.2.1)], [some (.seq (.int .u64) t.2.2), some (.seq (.int .i64) x3568)]⟩ : St))) (fun (t : Int × (List Int)) => ((Exit.exit 0), (⟨mkE 34 0 [(0, .slc 0), (2, .dat (.int .i64) x3380), (7, .dat (.int .u64) t.1)], [some (.seq (.int .u64) t.2)]⟩ : St)))) := by
  refine Link.of fun K h => ?_
  simp only [impl_fillYields_n3, wpO_bind, wpO_cond, wpO_map, wpO_some] at h
  exact Awp.of (by kernel_rfl) h

theorem impl_fillYields_n4_l (n : Nat) (x3379 : List Int) (x3380 : Int) (x3566 : Int) (x3569 : Int) (x3381 : List Int) (x3568 : List Int) : Link (impl_fillYields_ctx n) LL (Code.fst (Code.snd (Code.fst (Code.snd (Code.snd (bodyOf Tryd.f61)))))) (Ann.fst (Ann.snd (Ann.fst (Ann.snd (Ann.snd impl_fillYields_an))))) (⟨mkE 34 0 [(0, .slc 0), (1, .dat (.list (.int .i64)) x3379), (2, .dat (.int .i64) x3380), (7, .dat (.int .u64) x3566), (15, .slc 1), (16, .dat (.int .i64) x3569), (17, .dat (.int .i64) 0)], [some (.seq (.int .u64) x3381), some (.seq (.int .i64) x3568)]⟩ : St) (impl_fillYields_n4 (impl_fillYields_fuel n) x3379 x3566 x3569 x3381 x3568) (fun (t : Int × (List Int)) => ((Exit.exit 0), (⟨mkE 34 0 [(0, .slc 0), (2, .dat (.int .i64) x3380), (7, .dat (.int .u64) t.1)], [some (.seq (.int .u64) t.2)]⟩ : St))) := by
  unfold impl_fillYields_n4
  exact Link.cast (by kernel_rfl) (by kernel_rfl) (link_loop (mk := fun (s : Int × Int × (List Int)) => (⟨mkE 34 0 [(0, .slc 0), (1, .dat (.list (.int .i64)) x3379), (2, .dat (.int .i64) x3380), (7, .dat (.int .u64) s.1), (15, .slc 1), (16, .dat (.int .i64) x3569), (17, .dat (.int .i64) s.2.1)], [some (.seq (.int .u64) s.2.2), some (.seq (.int .i64) x3568)]⟩ : St)) (fin := (fun (t : Int × (List Int)) => ((Exit.exit 0), (⟨mkE 34 0 [(0, .slc 0), (2, .dat (.int .i64) x3380), (7, .dat (.int .u64) t.1)], [some (.seq (.int .u64) t.2)]⟩ : St)))) (by
  rintro t f K h
  · exact h) (fun s => link_map (impl_fillYields_n3_l n x3379 x3380 s.1 x3569 s.2.1 s.2.2 x3568) (Sum.elim (fun (t : Int × Int × (List Int)) => Sum.inl (t.1, t.2.1, t.2.2)) (fun (t : Int × (List Int)) => Sum.inr t)) (by
  rintro (t | t)
  · kernel_rfl
  · kernel_rfl)) (x3566, 0, x3381))

theorem impl_fillYields_n5_l (n : Nat) (x3379 : List Int) (x3380 : Int) (x3566 : Int) (x3569 : Int) (x3381 : List Int) (x3568 : List Int) : Link (impl_fillYields_ctx n) LL (Code.snd (Code.fst (Code.snd (Code.snd (bodyOf Tryd.f61))))) (Ann.snd (Ann.fst (Ann.snd (Ann.snd impl_fillYields_an)))) (⟨mkE 34 0 [(0, .slc 0), (1, .dat (.list (.int .i64)) x3379), (2, .dat (.int .i64) x3380), (7, .dat (.int .u64) x3566), (15, .slc 1), (16, .dat (.int .i64) x3569), (17, .dat (.int .i64) 0)], [some (.seq (.int .u64) x3381), some (.seq (.int .i64) x3568)]⟩ : St) (impl_fillYields_n5 (impl_fillYields_fuel n) x3379 x3566 x3569 x3381 x3568) (fun (t : Int × (List Int)) => (Exit.normal, (⟨mkE 34 0 [(0, .slc 0), (2, .dat (.int .i64) x3380), (7, .dat (.int .u64) t.1)], [some (.seq (.int .u64) t.2)]⟩ : St))) := by
  unfold impl_fillYields_n5
  exact Link.cast (by kernel_rfl) (by kernel_rfl) (link_block (id := 0) (impl_fillYields_n4_l n x3379 x3380 x3566 x3569 x3381 x3568) (fun (t : Int × (List Int)) => (t.1, t.2)) (by
  rintro t K h
  · exact Eq.mp (by kernel_rfl) h))

theorem impl_fillYields_n6_l (n : Nat) (x3379 : List Int) (x3380 : Int) (x3566 : Int) (x3381 : List Int) : Link (impl_fillYields_ctx n) LL (Code.fst (Code.snd (Code.snd (bodyOf Tryd.f61)))) (Ann.fst (Ann.snd (Ann.snd impl_fillYields_an))) (⟨mkE 34 0 [(0, .slc 0), (1, .dat (.list (.int .i64)) x3379), (2, .dat (.int .i64) x3380), (7, .dat (.int .u64) x3566)], [some (.seq (.int .u64) x3381)]⟩ : St) (impl_fillYields_n6 (impl_fillYields_fuel n) x3379 x3380 x3566 x3381) (fun (t : Int × (List Int)) => (Exit.normal, (⟨mkE 34 0 [(0, .slc 0), (2, .dat (.int .i64) x3380), (7, .dat (.int .u64) t.1)], [some (.seq (.int .u64) t.2)]⟩ : St))) := by
  unfold impl_fillYields_n6
  exact Link.cast (by kernel_rfl) (by kernel_rfl) (link_seq (b := (Code.snd (Code.fst (Code.snd (Code.snd (bodyOf Tryd.f61)))))) (y := (Ann.snd (Ann.fst (Ann.snd (Ann.snd impl_fillYields_an))))) (impl_fillYields_n2_l n x3379 x3380 x3566 x3381) (fun (t : Int × (List Int)) => (impl_fillYields_n5_l n x3379 x3380 x3566 t.1 x3381 t.2)))

theorem impl_fillYields_n7_l (n : Nat) (x3380 : Int) (x3587 : Int) (x3589 : List Int) : Link (impl_fillYields_ctx n) LL (Code.snd (Code.snd (Code.snd (bodyOf Tryd.f61)))) (Ann.snd (Ann.snd (Ann.snd impl_fillYields_an))) (⟨mkE 34 0 [(0, .slc 0), (2, .dat (.int .i64) x3380), (7, .dat (.int .u64) x3587)], [some (.seq (.int .u64) x3589)]⟩ : St) (impl_fillYields_n7 (impl_fillYields_fuel n) x3380 x3587 x3589) (fun (t : Int × (List Int)) => (Exit.ret, (⟨mkE 34 0 [(6, .dat (.int .u64) t.1)], [some (.seq (.int .u64) t.2)]⟩ : St))) := by
  refine Link.of fun K h => ?_
  simp only [impl_fillYields_n7, wpO_bind, wpO_cond, wpO_map, wpO_some] at h
  exact Awp.of (by kernel_rfl) h

theorem impl_fillYields_n8_l (n : Nat) (x3379 : List Int) (x3380 : Int) (x3566 : Int) (x3381 : List Int) : Link (impl_fillYields_ctx n) LL (Code.snd (Code.snd (bodyOf Tryd.f61))) (Ann.snd (Ann.snd impl_fillYields_an)) (⟨mkE 34 0 [(0, .slc 0), (1, .dat (.list (.int .i64)) x3379), (2, .dat (.int .i64) x3380), (7, .dat (.int .u64) x3566)], [some (.seq (.int .u64) x3381)]⟩ : St) (impl_fillYields_n8 (impl_fillYields_fuel n) x3379 x3380 x3566 x3381) (fun (t : Int × (List Int)) => (Exit.ret, (⟨mkE 34 0 [(6, .dat (.int .u64) t.1)], [some (.seq (.int .u64) t.2)]⟩ : St))) := by
  unfold impl_fillYields_n8
  exact Link.cast (by kernel_rfl) (by kernel_rfl) (link_seq (b := (Code.snd (Code.snd (Code.snd (bodyOf Tryd.f61))))) (y := (Ann.snd (Ann.snd (Ann.snd impl_fillYields_an)))) (impl_fillYields_n6_l n x3379 x3380 x3566 x3381) (fun (t : Int × (List Int)) => (impl_fillYields_n7_l n x3380 t.1 t.2)))

theorem impl_fillYields_n9_l (n : Nat) (x3379 : List Int) (x3380 : Int) (x3381 : List Int) : Link (impl_fillYields_ctx n) LL (bodyOf Tryd.f61) impl_fillYields_an (⟨mkE 34 0 [(0, .slc 0), (1, .dat (.list (.int .i64)) x3379), (2, .dat (.int .i64) x3380)], [some (.seq (.int .u64) x3381)]⟩ : St) (impl_fillYields_n9 (impl_fillYields_fuel n) x3379 x3380 x3381) (fun (t : Int × (List Int)) => (Exit.ret, (⟨mkE 34 0 [(6, .dat (.int .u64) t.1)], [some (.seq (.int .u64) t.2)]⟩ : St))) := by
  unfold impl_fillYields_n9
  exact Link.cast (by kernel_rfl) (by kernel_rfl) (link_group (c := (Code.fst (Code.snd (bodyOf Tryd.f61)))) (a := (Ann.fst (Ann.snd impl_fillYields_an))) [(Code.fst (bodyOf Tryd.f61))] [(Ann.fst impl_fillYields_an)] rfl (link_seq (b := (Code.snd (Code.snd (bodyOf Tryd.f61)))) (y := (Ann.snd (Ann.snd impl_fillYields_an))) (impl_fillYields_n1_l n x3379 x3380 x3381) (fun (t : Int) => (impl_fillYields_n8_l n x3379 x3380 t x3381))))

theorem impl_fillYields_e (n : Nat) (x3379 : List Int) (x3380 : Int) (x3381 : List Int) {r : AV} {H' : Heap} (h : (Ans.mk _ (impl_fillYields_fuel (n + 1) x3379 x3380 x3381) (fun (t : Int × (List Int)) => (.dat (.int .u64) t.1, [some (.seq (.int .u64) t.2)])) [] none).run = some (r, H')) : Awp (impl_fillYields_ctx n) LL (bodyOf Tryd.f61) impl_fillYields_an (⟨mkE 34 0 [(0, .slc 0), (1, .dat (.list (.int .i64)) x3379), (2, .dat (.int .i64) x3380)], [some (.seq (.int .u64) x3381)]⟩ : St) (Ret (tlook tys) Tryd.f61.results.toList r H') :=
  ret_of' (impl_fillYields_n9_l n x3379 x3380 x3381) (by (show _ = _); kernel_rfl) (by
  intro t
  exact ret_mk [.dat (.int .u64) t.1] (by kernel_rfl) (by kernel_rfl) (by kernel_rfl) (by kernel_rfl)) h

theorem impl_fillYields_step (n : Nat) (h61 : Sound Tryd.prog 61 (F_impl_fillYields_fuel n)) : Sound Tryd.prog 61 (F_impl_fillYields_fuel (n + 1)) := by
  refine fn_sound' (C := impl_fillYields_ctx n) (c := bodyOf Tryd.f61) (cok_of tys_ok (List.forall_mem_cons.2 ⟨impl_only_sound, List.forall_mem_cons.2 ⟨impl_dependents_sound, List.forall_mem_cons.2 ⟨impl_wordSet_list_sound, List.forall_mem_cons.2 ⟨h61, by simp⟩⟩⟩⟩) (List.forall_mem_cons.2 ⟨Tryd.call76, List.forall_mem_cons.2 ⟨Tryd.call58, List.forall_mem_cons.2 ⟨Tryd.call77, List.forall_mem_cons.2 ⟨Tryd.call61, by simp⟩⟩⟩⟩) (by kernel_rfl)) Tryd.func61 (by kernel_rfl) LL impl_fillYields_an ?_
  intro avs H r H' h
  unfold F_impl_fillYields_fuel at h
  split at h
  · refine Awp.cast ?_ ?_ ?_ (impl_fillYields_e n _ _ _ h) <;> kernel_rfl
  · simp [Ans.no, Ans.run] at h

theorem impl_fillYields_null : Sound Tryd.prog 61 (F_impl_fillYields_fuel 0) := by
  intro avs H r H' h
  unfold F_impl_fillYields_fuel at h
  split at h
  · simp [impl_fillYields_fuel, impl_fillYields_knot, Ans.run] at h
  · simp [Ans.no, Ans.run] at h

theorem impl_fillYields_knot_all : ∀ n, Sound Tryd.prog 61 (F_impl_fillYields_fuel n)
  | 0 => impl_fillYields_null
  | n + 1 => by
    have h61 := impl_fillYields_knot_all n
    exact impl_fillYields_step n h61

def F_impl_fillYields : Fun := fun avs H =>
  match avs, H with
  | [.slc 0, .dat (.list (.int .i64)) x3379, .dat (.int .i64) x3380], [some (.seq (.int .u64) x3381)] => ⟨_, impl_fillYields x3379 x3380 x3381, fun (t : Int × (List Int)) => (.dat (.int .u64) t.1, [some (.seq (.int .u64) t.2)]), [], none⟩
  | _, _ => Ans.no

theorem impl_fillYields_sound : Sound Tryd.prog 61 F_impl_fillYields := by
  have e : F_impl_fillYields = F_impl_fillYields_fuel RR := by
    funext avs H
    unfold F_impl_fillYields F_impl_fillYields_fuel
    split <;> first | rfl | (simp only [impl_fillYields])
  rw [e]
  exact (impl_fillYields_knot_all RR)


/-! loop.example/headtrees/impl.yieldsOf -/

def impl_yieldsOf_an : Ann := (.seq (.leaf [0]) (.seq (.leaf [0, 3]) (.seq (.leaf [3]) (.seq (.leaf [2]) (.leaf [2])))))

noncomputable def impl_yieldsOf_ctx : Ctx := ⟨tlook tys, olook [(62, F_impl_RootOf), (61, F_impl_fillYields)], ioF, 0, false, []⟩

theorem impl_yieldsOf_n1_l (x3346 : List Int) : Link impl_yieldsOf_ctx LL (bodyOf Tryd.f36) impl_yieldsOf_an (⟨mkE 13 0 [(0, .dat (.list (.int .i64)) x3346)], []⟩ : St) (impl_yieldsOf_n1 x3346) (fun (t : (List Int)) => (Exit.ret, (⟨mkE 13 0 [(2, .slc 0)], [some (.seq (.int .u64) t)]⟩ : St))) := by
  refine Link.of fun K h => ?_
  simp only [impl_yieldsOf_n1, wpO_bind, wpO_cond, wpO_map, wpO_some] at h
  exact Awp.of (by kernel_rfl) h

theorem impl_yieldsOf_e (x3346 : List Int) {r : AV} {H' : Heap} (h : (Ans.mk _ (impl_yieldsOf x3346) (fun (t : (List Int)) => (.slc 0, [some (.seq (.int .u64) t)])) [] none).run = some (r, H')) : Awp impl_yieldsOf_ctx LL (bodyOf Tryd.f36) impl_yieldsOf_an (⟨mkE 13 0 [(0, .dat (.list (.int .i64)) x3346)], []⟩ : St) (Ret (tlook tys) Tryd.f36.results.toList r H') :=
  ret_of' (impl_yieldsOf_n1_l x3346) (by unfold impl_yieldsOf; kernel_rfl) (by
  intro t
  exact ret_mk [.slc 0] (by kernel_rfl) (by kernel_rfl) (by kernel_rfl) (by kernel_rfl)) h

def F_impl_yieldsOf : Fun := fun avs H =>
  match avs, H with
  | [.dat (.list (.int .i64)) x3346], [] => ⟨_, impl_yieldsOf x3346, fun (t : (List Int)) => (.slc 0, [some (.seq (.int .u64) t)]), [], none⟩
  | _, _ => Ans.no

theorem impl_yieldsOf_sound : Sound Tryd.prog 36 F_impl_yieldsOf := by
  refine fn_sound' (C := impl_yieldsOf_ctx) (c := bodyOf Tryd.f36) (cok_of tys_ok (List.forall_mem_cons.2 ⟨impl_RootOf_sound, List.forall_mem_cons.2 ⟨impl_fillYields_sound, by simp⟩⟩) (List.forall_mem_cons.2 ⟨Tryd.call62, List.forall_mem_cons.2 ⟨Tryd.call61, by simp⟩⟩) (by kernel_rfl)) Tryd.func36 (by kernel_rfl) LL impl_yieldsOf_an ?_
  intro avs H r H' h
  unfold F_impl_yieldsOf at h
  split at h
  · refine Awp.cast ?_ ?_ ?_ (impl_yieldsOf_e _ h) <;> kernel_rfl
  · simp [Ans.no, Ans.run] at h


/-! (loop.example/headtrees/impl.wordSet).isRow -/

def impl_wordSet_isRow_an : Ann := (.seq (.leaf [0]) (.seq (.leaf [0, 3]) (.seq (.leaf [2]) (.leaf [2]))))

noncomputable def impl_wordSet_isRow_ctx : Ctx := ⟨tlook tys, olook [], ioF, 0, false, []⟩

theorem impl_wordSet_isRow_n1_l (x3640 : Int) : Link impl_wordSet_isRow_ctx LL (bodyOf Tryd.f37) impl_wordSet_isRow_an (⟨mkE 14 0 [(0, .dat (.int .u64) x3640)], []⟩ : St) (impl_wordSet_isRow_n1 x3640) (fun (t : Bool) => (Exit.ret, (⟨mkE 14 0 [(2, .dat .bool t)], []⟩ : St))) := by
  refine Link.of fun K h => ?_
  simp only [impl_wordSet_isRow_n1, wpO_bind, wpO_cond, wpO_map, wpO_some] at h
  exact Awp.of (by kernel_rfl) h

theorem impl_wordSet_isRow_e (x3640 : Int) {r : AV} {H' : Heap} (h : (Ans.mk _ (impl_wordSet_isRow x3640) (fun (t : Bool) => (.dat .bool t, [])) [] none).run = some (r, H')) : Awp impl_wordSet_isRow_ctx LL (bodyOf Tryd.f37) impl_wordSet_isRow_an (⟨mkE 14 0 [(0, .dat (.int .u64) x3640)], []⟩ : St) (Ret (tlook tys) Tryd.f37.results.toList r H') :=
  ret_of' (impl_wordSet_isRow_n1_l x3640) (by unfold impl_wordSet_isRow; kernel_rfl) (by
  intro t
  exact ret_mk [.dat .bool t] (by kernel_rfl) (by kernel_rfl) (by kernel_rfl) (by kernel_rfl)) h

def F_impl_wordSet_isRow : Fun := fun avs H =>
  match avs, H with
  | [.dat (.int .u64) x3640], [] => ⟨_, impl_wordSet_isRow x3640, fun (t : Bool) => (.dat .bool t, []), [], none⟩
  | _, _ => Ans.no

theorem impl_wordSet_isRow_sound : Sound Tryd.prog 37 F_impl_wordSet_isRow := by
  refine fn_sound' (C := impl_wordSet_isRow_ctx) (c := bodyOf Tryd.f37) (cok_of tys_ok (by simp) (by simp) (by kernel_rfl)) Tryd.func37 (by kernel_rfl) LL impl_wordSet_isRow_an ?_
  intro avs H r H' h
  unfold F_impl_wordSet_isRow at h
  split at h
  · refine Awp.cast ?_ ?_ ?_ (impl_wordSet_isRow_e _ h) <;> kernel_rfl
  · simp [Ans.no, Ans.run] at h


/-! loop.example/headtrees/impl.FlatOk -/

def impl_FlatOk_an : Ann := (.seq (.leaf [0]) (.seq (.seq (.leaf [0, 7]) (.cond (.seq (.leaf [2]) (.leaf [2])) (.leaf [0]))) (.seq (.seq (.leaf [9, 10, 11]) (.block (.loop (.seq (.leaf [9, 10, 11, 12]) (.seq (.cond (.leaf [9, 10, 11]) (.leaf [])) (.seq (.block (.seq (.leaf [4, 9, 10, 11]) (.seq (.leaf [9, 10, 11, 17]) (.cond (.seq (.leaf [2]) (.leaf [2])) (.leaf [9, 10, 11]))))) (.leaf [9, 10, 11]))))))) (.seq (.leaf [2]) (.leaf [2])))))

noncomputable def impl_FlatOk_ctx : Ctx := ⟨tlook tys, olook [(32, F_impl_TreeOk), (36, F_impl_yieldsOf), (37, F_impl_wordSet_isRow)], ioF, 0, false, []⟩

theorem impl_FlatOk_n1_l (x3343 : List Int) : Link impl_FlatOk_ctx LL (Code.seq (Code.fst (bodyOf Tryd.f15)) (Code.fst (Code.snd (bodyOf Tryd.f15)))) (Ann.seq (Ann.fst impl_FlatOk_an) (Ann.fst (Ann.snd impl_FlatOk_an))) (⟨mkE 19 0 [(0, .dat (.list (.int .i64)) x3343)], []⟩ : St) (impl_FlatOk_n1 x3343) (Sum.elim (fun (t : Unit) => (Exit.normal, (⟨mkE 19 0 [(0, .dat (.list (.int .i64)) x3343)], []⟩ : St))) (fun (t : Bool) => (Exit.ret, (⟨mkE 19 0 [(2, .dat .bool t)], []⟩ : St)))) := by
  refine Link.of fun K h => ?_
  simp only [impl_FlatOk_n1, wpO_bind, wpO_cond, wpO_map, wpO_some] at h
  exact Awp.of (by kernel_rfl) h

theorem impl_FlatOk_n2_l (x3343 : List Int) : Link impl_FlatOk_ctx LL (Code.fst (Code.fst (Code.snd (Code.snd (bodyOf Tryd.f15))))) (Ann.fst (Ann.fst (Ann.snd (Ann.snd impl_FlatOk_an)))) (⟨mkE 19 0 [(0, .dat (.list (.int .i64)) x3343)], []⟩ : St) (impl_FlatOk_n2 x3343) (fun (t : Int × (List Int)) => (Exit.normal, (⟨mkE 19 0 [(9, .slc 0), (10, .dat (.int .i64) t.1), (11, .dat (.int .i64) 0)], [some (.seq (.int .u64) t.2)]⟩ : St))) := by
  refine Link.of fun K h => ?_
  simp only [impl_FlatOk_n2, wpO_bind, wpO_cond, wpO_map, wpO_some] at h
  exact Awp.of (by kernel_rfl) h

theorem impl_FlatOk_n3_l (x3634 : Int) (x3661 : Int) (x3633 : List Int) : Link impl_FlatOk_ctx LL (Code.fst (Code.fst (Code.snd (Code.fst (Code.snd (Code.snd (bodyOf Tryd.f15))))))) (Ann.fst (Ann.fst (Ann.snd (Ann.fst (Ann.snd (Ann.snd impl_FlatOk_an)))))) (⟨mkE 19 0 [(9, .slc 0), (10, .dat (.int .i64) x3634), (11, .dat (.int .i64) x3661)], [some (.seq (.int .u64) x3633)]⟩ : St) (impl_FlatOk_n3 x3634 x3661 x3633) (Sum.elim (fun (t : Int) => (Exit.normal, (⟨mkE 19 0 [(9, .slc 0), (10, .dat (.int .i64) x3634), (11, .dat (.int .i64) t)], [some (.seq (.int .u64) x3633)]⟩ : St))) (Sum.elim (fun (t : Bool) => (Exit.ret, (⟨mkE 19 0 [(2, .dat .bool t)], []⟩ : St))) (fun (t : Unit) => ((Exit.exit 0), (⟨mkE 19 0 [], []⟩ : St))))) := by
  refine Link.of fun K h => ?_
  simp only [impl_FlatOk_n3, wpO_bind, wpO_cond, wpO_map, wpO_some] at h
  exact Awp.of (by kernel_rfl) h

theorem impl_FlatOk_n4_l (x3634 : Int) (x3633 : List Int) : Link impl_FlatOk_ctx LL (Code.fst (Code.snd (Code.fst (Code.snd (Code.snd (bodyOf Tryd.f15)))))) (Ann.fst (Ann.snd (Ann.fst (Ann.snd (Ann.snd impl_FlatOk_an))))) (⟨mkE 19 0 [(9, .slc 0), (10, .dat (.int .i64) x3634), (11, .dat (.int .i64) 0)], [some (.seq (.int .u64) x3633)]⟩ : St) (impl_FlatOk_n4 x3634 x3633) (Sum.elim (fun (t : Bool) => (Exit.ret, (⟨mkE 19 0 [(2, .dat .bool t)], []⟩ : St))) (fun (t : Unit) => ((Exit.exit 0), (⟨mkE 19 0 [], []⟩ : St)))) := by
  unfold impl_FlatOk_n4
  exact Link.cast (by kernel_rfl) (by kernel_rfl) (link_loop (mk := fun (s : Int) => (⟨mkE 19 0 [(9, .slc 0), (10, .dat (.int .i64) x3634), (11, .dat (.int .i64) s)], [some (.seq (.int .u64) x3633)]⟩ : St)) (fin := (Sum.elim (fun (t : Bool) => (Exit.ret, (⟨mkE 19 0 [(2, .dat .bool t)], []⟩ : St))) (fun (t : Unit) => ((Exit.exit 0), (⟨mkE 19 0 [], []⟩ : St))))) (by
  rintro (t | t) f K h
  · exact h
  · exact h) (fun s => link_map (impl_FlatOk_n3_l x3634 s x3633) (Sum.elim (fun (t : Int) => Sum.inl t) (Sum.elim (fun (t : Bool) => Sum.inr (Sum.inl t)) (fun (t : Unit) => Sum.inr (Sum.inr t)))) (by
  rintro (t | t | t)
  · kernel_rfl
  · kernel_rfl
  · kernel_rfl)) 0)

theorem impl_FlatOk_n5_l (x3634 : Int) (x3633 : List Int) : Link impl_FlatOk_ctx LL (Code.snd (Code.fst (Code.snd (Code.snd (bodyOf Tryd.f15))))) (Ann.snd (Ann.fst (Ann.snd (Ann.snd impl_FlatOk_an)))) (⟨mkE 19 0 [(9, .slc 0), (10, .dat (.int .i64) x3634), (11, .dat (.int .i64) 0)], [some (.seq (.int .u64) x3633)]⟩ : St) (impl_FlatOk_n5 x3634 x3633) (Sum.elim (fun (t : Unit) => (Exit.normal, (⟨mkE 19 0 [], []⟩ : St))) (fun (t : Bool) => (Exit.ret, (⟨mkE 19 0 [(2, .dat .bool t)], []⟩ : St)))) := by
  unfold impl_FlatOk_n5
  exact Link.cast (by kernel_rfl) (by kernel_rfl) (link_block (id := 0) (impl_FlatOk_n4_l x3634 x3633) (Sum.elim (fun (t : Bool) => (Sum.inr t)) (fun (t : Unit) => (Sum.inl ()))) (by
  rintro (t | t) K h
  · exact Eq.mp (by kernel_rfl) h
  · exact Eq.mp (by kernel_rfl) h))

theorem impl_FlatOk_n6_l (x3343 : List Int) : Link impl_FlatOk_ctx LL (Code.fst (Code.snd (Code.snd (bodyOf Tryd.f15)))) (Ann.fst (Ann.snd (Ann.snd impl_FlatOk_an))) (⟨mkE 19 0 [(0, .dat (.list (.int .i64)) x3343)], []⟩ : St) (impl_FlatOk_n6 x3343) (Sum.elim (fun (t : Unit) => (Exit.normal, (⟨mkE 19 0 [], []⟩ : St))) (fun (t : Bool) => (Exit.ret, (⟨mkE 19 0 [(2, .dat .bool t)], []⟩ : St)))) := by
  unfold impl_FlatOk_n6
  exact Link.cast (by kernel_rfl) (by kernel_rfl) (link_seq (b := (Code.snd (Code.fst (Code.snd (Code.snd (bodyOf Tryd.f15)))))) (y := (Ann.snd (Ann.fst (Ann.snd (Ann.snd impl_FlatOk_an))))) (impl_FlatOk_n2_l x3343) (fun (t : Int × (List Int)) => (impl_FlatOk_n5_l t.1 t.2)))

theorem impl_FlatOk_n7_l : Link impl_FlatOk_ctx LL (Code.snd (Code.snd (Code.snd (bodyOf Tryd.f15)))) (Ann.snd (Ann.snd (Ann.snd impl_FlatOk_an))) (⟨mkE 19 0 [], []⟩ : St) (impl_FlatOk_n7) (fun (t : Bool) => (Exit.ret, (⟨mkE 19 0 [(2, .dat .bool t)], []⟩ : St))) := by
  refine Link.of fun K h => ?_
  simp only [impl_FlatOk_n7, wpO_bind, wpO_cond, wpO_map, wpO_some] at h
  exact Awp.of (by kernel_rfl) h

theorem impl_FlatOk_n8_l (x3343 : List Int) : Link impl_FlatOk_ctx LL (Code.snd (Code.snd (bodyOf Tryd.f15))) (Ann.snd (Ann.snd impl_FlatOk_an)) (⟨mkE 19 0 [(0, .dat (.list (.int .i64)) x3343)], []⟩ : St) (impl_FlatOk_n8 x3343) (fun (t : Bool) => (Exit.ret, (⟨mkE 19 0 [(2, .dat .bool t)], []⟩ : St))) := by
  unfold impl_FlatOk_n8
  exact Link.cast (by kernel_rfl) (by kernel_rfl) (link_seq2 (b := (Code.snd (Code.snd (Code.snd (bodyOf Tryd.f15))))) (y := (Ann.snd (Ann.snd (Ann.snd impl_FlatOk_an)))) (impl_FlatOk_n6_l x3343) (fun (t : Unit) => (impl_FlatOk_n7_l)) (fun (t : Bool) => t) (by
  rintro t
  · kernel_rfl) (by
  rintro t f K h
  · exact h))

theorem impl_FlatOk_n9_l (x3343 : List Int) : Link impl_FlatOk_ctx LL (bodyOf Tryd.f15) impl_FlatOk_an (⟨mkE 19 0 [(0, .dat (.list (.int .i64)) x3343)], []⟩ : St) (impl_FlatOk_n9 x3343) (fun (t : Bool) => (Exit.ret, (⟨mkE 19 0 [(2, .dat .bool t)], []⟩ : St))) := by
  unfold impl_FlatOk_n9
  exact Link.cast (by kernel_rfl) (by kernel_rfl) (link_group (c := (Code.fst (Code.snd (bodyOf Tryd.f15)))) (a := (Ann.fst (Ann.snd impl_FlatOk_an))) [(Code.fst (bodyOf Tryd.f15))] [(Ann.fst impl_FlatOk_an)] rfl (link_seq2 (b := (Code.snd (Code.snd (bodyOf Tryd.f15)))) (y := (Ann.snd (Ann.snd impl_FlatOk_an))) (impl_FlatOk_n1_l x3343) (fun (t : Unit) => (impl_FlatOk_n8_l x3343)) (fun (t : Bool) => t) (by
  rintro t
  · kernel_rfl) (by
  rintro t f K h
  · exact h)))

theorem impl_FlatOk_e (x3343 : List Int) {r : AV} {H' : Heap} (h : (Ans.mk _ (impl_FlatOk x3343) (fun (t : Bool) => (.dat .bool t, [])) [] none).run = some (r, H')) : Awp impl_FlatOk_ctx LL (bodyOf Tryd.f15) impl_FlatOk_an (⟨mkE 19 0 [(0, .dat (.list (.int .i64)) x3343)], []⟩ : St) (Ret (tlook tys) Tryd.f15.results.toList r H') :=
  ret_of' (impl_FlatOk_n9_l x3343) (by unfold impl_FlatOk; kernel_rfl) (by
  intro t
  exact ret_mk [.dat .bool t] (by kernel_rfl) (by kernel_rfl) (by kernel_rfl) (by kernel_rfl)) h

def F_impl_FlatOk : Fun := fun avs H =>
  match avs, H with
  | [.dat (.list (.int .i64)) x3343], [] => ⟨_, impl_FlatOk x3343, fun (t : Bool) => (.dat .bool t, []), [], none⟩
  | _, _ => Ans.no

theorem impl_FlatOk_sound : Sound Tryd.prog 15 F_impl_FlatOk := by
  refine fn_sound' (C := impl_FlatOk_ctx) (c := bodyOf Tryd.f15) (cok_of tys_ok (List.forall_mem_cons.2 ⟨impl_TreeOk_sound, List.forall_mem_cons.2 ⟨impl_yieldsOf_sound, List.forall_mem_cons.2 ⟨impl_wordSet_isRow_sound, by simp⟩⟩⟩) (List.forall_mem_cons.2 ⟨Tryd.call32, List.forall_mem_cons.2 ⟨Tryd.call36, List.forall_mem_cons.2 ⟨Tryd.call37, by simp⟩⟩⟩) (by kernel_rfl)) Tryd.func15 (by kernel_rfl) LL impl_FlatOk_an ?_
  intro avs H r H' h
  unfold F_impl_FlatOk at h
  split at h
  · refine Awp.cast ?_ ?_ ?_ (impl_FlatOk_e _ h) <;> kernel_rfl
  · simp [Ans.no, Ans.run] at h


/-! (*loop.example/headtrees/impl.stackMachine).ruleFor -/

def impl_stackMachine_ruleFor_an : Ann := (.seq (.leaf [2, 3]) (.seq (.leaf [2, 5]) (.seq (.leaf [4]) (.leaf [4]))))

noncomputable def impl_stackMachine_ruleFor_ctx : Ctx := ⟨tlook tys, olook [], ioF, 2, false, []⟩

theorem impl_stackMachine_ruleFor_n1_l (x3688 : List Int) (x3689 : Int) (x3690 : Int) (x3691 : List Int) : Link impl_stackMachine_ruleFor_ctx LL (bodyOf Tryd.f35) impl_stackMachine_ruleFor_an (⟨mkE 8 0 [(0, .ptr 0 0), (1, .dat (.list (.int .i64)) x3688)], [some (.box [.slc 1, .nils, .dat (.int .i64) x3689, .dat (.int .i64) x3690]), some (.seq (.int .i64) x3691)]⟩ : St) (impl_stackMachine_ruleFor_n1) (fun (t : Unit) => (Exit.ret, (⟨mkE 8 0 [(4, .fn 59 [] [.ptr 2 0, .ptr 3 0])], [some (.box [.slc 1, .nils, .dat (.int .i64) x3689, .dat (.int .i64) x3690]), some (.seq (.int .i64) x3691), some (.box [.ptr 0 0]), some (.box [.fn 57 [] [.ptr 4 0, .ptr 2 0]]), some (.box [.dat (.list (.int .i64)) x3688])]⟩ : St))) := by
  refine Link.of fun K h => ?_
  simp only [impl_stackMachine_ruleFor_n1, wpO_bind, wpO_cond, wpO_map, wpO_some] at h
  exact Awp.of (by kernel_rfl) h

theorem impl_stackMachine_ruleFor_e (x3688 : List Int) (x3689 : Int) (x3690 : Int) (x3691 : List Int) {r : AV} {H' : Heap} (h : (Ans.mk _ (impl_stackMachine_ruleFor x3688 x3689 x3690 x3691) (fun (t : Unit) => (.fn 59 [] [.ptr 2 0, .ptr 3 0], [some (.box [.slc 1, .nils, .dat (.int .i64) x3689, .dat (.int .i64) x3690]), some (.seq (.int .i64) x3691), some (.box [.ptr 0 0]), some (.box [.fn 57 [] [.ptr 4 0, .ptr 2 0]]), some (.box [.dat (.list (.int .i64)) x3688])])) [] none).run = some (r, H')) : Awp impl_stackMachine_ruleFor_ctx LL (bodyOf Tryd.f35) impl_stackMachine_ruleFor_an (⟨mkE 8 0 [(0, .ptr 0 0), (1, .dat (.list (.int .i64)) x3688)], [some (.box [.slc 1, .nils, .dat (.int .i64) x3689, .dat (.int .i64) x3690]), some (.seq (.int .i64) x3691)]⟩ : St) (Ret (tlook tys) Tryd.f35.results.toList r H') :=
  ret_of' (impl_stackMachine_ruleFor_n1_l x3688 x3689 x3690 x3691) (by unfold impl_stackMachine_ruleFor; kernel_rfl) (by
  intro t
  exact ret_mk [.fn 59 [] [.ptr 2 0, .ptr 3 0]] (by kernel_rfl) (by kernel_rfl) (by kernel_rfl) (by kernel_rfl)) h

def F_impl_stackMachine_ruleFor : Fun := fun avs H =>
  match avs, H with
  | [.ptr 0 0, .dat (.list (.int .i64)) x3688], [some (.box [.slc 1, .nils, .dat (.int .i64) x3689, .dat (.int .i64) x3690]), some (.seq (.int .i64) x3691)] => ⟨_, impl_stackMachine_ruleFor x3688 x3689 x3690 x3691, fun (t : Unit) => (.fn 59 [] [.ptr 2 0, .ptr 3 0], [some (.box [.slc 1, .nils, .dat (.int .i64) x3689, .dat (.int .i64) x3690]), some (.seq (.int .i64) x3691), some (.box [.ptr 0 0]), some (.box [.fn 57 [] [.ptr 4 0, .ptr 2 0]]), some (.box [.dat (.list (.int .i64)) x3688])]), [], none⟩
  | _, _ => Ans.no

theorem impl_stackMachine_ruleFor_sound : Sound Tryd.prog 35 F_impl_stackMachine_ruleFor := by
  refine fn_sound' (C := impl_stackMachine_ruleFor_ctx) (c := bodyOf Tryd.f35) (cok_of tys_ok (by simp) (by simp) (by kernel_rfl)) Tryd.func35 (by kernel_rfl) LL impl_stackMachine_ruleFor_an ?_
  intro avs H r H' h
  unfold F_impl_stackMachine_ruleFor at h
  split at h
  · refine Awp.cast ?_ ?_ ?_ (impl_stackMachine_ruleFor_e _ _ _ _ h) <;> kernel_rfl
  · simp [Ans.no, Ans.run] at h


/-! (*loop.example/headtrees/impl.stackMachine).ruleFor$1 -/

def impl_stackMachine_ruleFor_1_an : Ann := (.seq (.leaf [0, 1, 2, 3]) (.seq (.draw [10, 16] [0, 1, 2, 3, 4, 5, 6, 7, 8, 9, 11, 12, 13, 14, 15, 10, 16, 17, 18, 19] [] [6]) (.leaf [6])))

noncomputable def impl_stackMachine_ruleFor_1_ctx : Ctx := ⟨tlook tys, olook [(58, F_impl_dependents)], ioF, 5, false, []⟩

theorem impl_stackMachine_ruleFor_1_n1_l (x3723 : Int) (x3724 : Int) (x3725 : List Int) (x3726 : Int) (x3727 : Int) (x3728 : List Int) (x3729 : List Int) : Link impl_stackMachine_ruleFor_1_ctx LL (bodyOf Tryd.f57) impl_stackMachine_ruleFor_1_an (⟨mkE 26 0 [(0, .dat (.int .i64) x3723), (1, .dat (.int .i64) x3724), (2, .ptr 0 0), (3, .ptr 1 0)], [some (.box [.dat (.list (.int .i64)) x3725]), some (.box [.ptr 2 0]), some (.box [.slc 3, .slc 4, .dat (.int .i64) x3726, .dat (.int .i64) x3727]), some (.seq (.int .i64) x3728), some (.seq (.int .i64) x3729)]⟩ : St) (impl_stackMachine_ruleFor_1_n1 x3723 x3724 x3725 x3728) (fun (t : Bool) => (Exit.ret, (⟨mkE 26 0 [(6, .dat .bool t)], [some (.box [.dat (.list (.int .i64)) x3725]), some (.box [.ptr 2 0]), some (.box [.slc 3, .slc 4, .dat (.int .i64) x3726, .dat (.int .i64) x3727]), some (.seq (.int .i64) x3728), some (.seq (.int .i64) x3729)]⟩ : St))) := by
  refine Link.of fun K h => ?_
  simp only [impl_stackMachine_ruleFor_1_n1, wpO_bind, wpO_cond, wpO_map, wpO_some] at h
  exact Awp.of (by kernel_rfl) h

theorem impl_stackMachine_ruleFor_1_e (x3723 : Int) (x3724 : Int) (x3725 : List Int) (x3726 : Int) (x3727 : Int) (x3728 : List Int) (x3729 : List Int) {r : AV} {H' : Heap} (h : (Ans.mk _ (impl_stackMachine_ruleFor_1 x3723 x3724 x3725 x3726 x3727 x3728 x3729) (fun (t : Bool) => (.dat .bool t, [some (.box [.dat (.list (.int .i64)) x3725]), some (.box [.ptr 2 0]), some (.box [.slc 3, .slc 4, .dat (.int .i64) x3726, .dat (.int .i64) x3727]), some (.seq (.int .i64) x3728), some (.seq (.int .i64) x3729)])) [] none).run = some (r, H')) : Awp impl_stackMachine_ruleFor_1_ctx LL (bodyOf Tryd.f57) impl_stackMachine_ruleFor_1_an (⟨mkE 26 0 [(0, .dat (.int .i64) x3723), (1, .dat (.int .i64) x3724), (2, .ptr 0 0), (3, .ptr 1 0)], [some (.box [.dat (.list (.int .i64)) x3725]), some (.box [.ptr 2 0]), some (.box [.slc 3, .slc 4, .dat (.int .i64) x3726, .dat (.int .i64) x3727]), some (.seq (.int .i64) x3728), some (.seq (.int .i64) x3729)]⟩ : St) (Ret (tlook tys) Tryd.f57.results.toList r H') :=
  ret_of' (impl_stackMachine_ruleFor_1_n1_l x3723 x3724 x3725 x3726 x3727 x3728 x3729) (by unfold impl_stackMachine_ruleFor_1; kernel_rfl) (by
  intro t
  exact ret_mk [.dat .bool t] (by kernel_rfl) (by kernel_rfl) (by kernel_rfl) (by kernel_rfl)) h

def F_impl_stackMachine_ruleFor_1 : Fun := fun avs H =>
  match avs, H with
  | [.dat (.int .i64) x3723, .dat (.int .i64) x3724, .ptr 0 0, .ptr 1 0], [some (.box [.dat (.list (.int .i64)) x3725]), some (.box [.ptr 2 0]), some (.box [.slc 3, .slc 4, .dat (.int .i64) x3726, .dat (.int .i64) x3727]), some (.seq (.int .i64) x3728), some (.seq (.int .i64) x3729)] => ⟨_, impl_stackMachine_ruleFor_1 x3723 x3724 x3725 x3726 x3727 x3728 x3729, fun (t : Bool) => (.dat .bool t, [some (.box [.dat (.list (.int .i64)) x3725]), some (.box [.ptr 2 0]), some (.box [.slc 3, .slc 4, .dat (.int .i64) x3726, .dat (.int .i64) x3727]), some (.seq (.int .i64) x3728), some (.seq (.int .i64) x3729)]), [], none⟩
  | _, _ => Ans.no

theorem impl_stackMachine_ruleFor_1_sound : Sound Tryd.prog 57 F_impl_stackMachine_ruleFor_1 := by
  refine fn_sound' (C := impl_stackMachine_ruleFor_1_ctx) (c := bodyOf Tryd.f57) (cok_of tys_ok (List.forall_mem_cons.2 ⟨impl_dependents_sound, by simp⟩) (List.forall_mem_cons.2 ⟨Tryd.call58, by simp⟩) (by kernel_rfl)) Tryd.func57 (by kernel_rfl) LL impl_stackMachine_ruleFor_1_an ?_
  intro avs H r H' h
  unfold F_impl_stackMachine_ruleFor_1 at h
  split at h
  · refine Awp.cast ?_ ?_ ?_ (impl_stackMachine_ruleFor_1_e _ _ _ _ _ _ _ h) <;> kernel_rfl
  · simp [Ans.no, Ans.run] at h


/-! (*loop.example/headtrees/impl.stackMachine).ruleFor$2 -/

def impl_stackMachine_ruleFor_2_an : Ann := (.seq (.leaf [0, 1]) (.seq (.leaf [1, 3, 4, 5]) (.seq (.block (.seq (.leaf [1, 3, 4, 5, 12]) (.cond (.seq (.leaf [2]) (.leaf [2])) (.seq (.leaf [20]) (.cond (.seq (.leaf [2]) (.leaf [2])) (.leaf [])))))) (.seq (.leaf [2]) (.leaf [2])))))

noncomputable def impl_stackMachine_ruleFor_2_ctx : Ctx := ⟨tlook tys, olook [(60, F_impl_stackMachine_upperTwo), (57, F_impl_stackMachine_ruleFor_1)], ioF, 6, false, []⟩

theorem impl_stackMachine_ruleFor_2_n1_l (x3854 : Int) (x3855 : Int) (x3856 : List Int) (x3857 : List Int) (x3858 : List Int) : Link impl_stackMachine_ruleFor_2_ctx LL (bodyOf Tryd.f59) impl_stackMachine_ruleFor_2_an (⟨mkE 28 0 [(0, .ptr 0 0), (1, .ptr 1 0)], [some (.box [.ptr 2 0]), some (.box [.fn 57 [] [.ptr 3 0, .ptr 0 0]]), some (.box [.slc 4, .slc 5, .dat (.int .i64) x3854, .dat (.int .i64) x3855]), some (.box [.dat (.list (.int .i64)) x3856]), some (.seq (.int .i64) x3857), some (.seq (.int .i64) x3858)]⟩ : St) (impl_stackMachine_ruleFor_2_n1 x3854 x3855 x3856 x3857 x3858) (fun (t : Int) => (Exit.ret, (⟨mkE 28 0 [(2, .dat (.int .u8) t)], [some (.box [.ptr 2 0]), some (.box [.fn 57 [] [.ptr 3 0, .ptr 0 0]]), some (.box [.slc 4, .slc 5, .dat (.int .i64) x3854, .dat (.int .i64) x3855]), some (.box [.dat (.list (.int .i64)) x3856]), some (.seq (.int .i64) x3857), some (.seq (.int .i64) x3858)]⟩ : St))) := by
  refine Link.of fun K h => ?_
  simp only [impl_stackMachine_ruleFor_2_n1, wpO_bind, wpO_cond, wpO_map, wpO_some] at h
  exact Awp.of (by kernel_rfl) h

theorem impl_stackMachine_ruleFor_2_e (x3854 : Int) (x3855 : Int) (x3856 : List Int) (x3857 : List Int) (x3858 : List Int) {r : AV} {H' : Heap} (h : (Ans.mk _ (impl_stackMachine_ruleFor_2 x3854 x3855 x3856 x3857 x3858) (fun (t : Int) => (.dat (.int .u8) t, [some (.box [.ptr 2 0]), some (.box [.fn 57 [] [.ptr 3 0, .ptr 0 0]]), some (.box [.slc 4, .slc 5, .dat (.int .i64) x3854, .dat (.int .i64) x3855]), some (.box [.dat (.list (.int .i64)) x3856]), some (.seq (.int .i64) x3857), some (.seq (.int .i64) x3858)])) [] none).run = some (r, H')) : Awp impl_stackMachine_ruleFor_2_ctx LL (bodyOf Tryd.f59) impl_stackMachine_ruleFor_2_an (⟨mkE 28 0 [(0, .ptr 0 0), (1, .ptr 1 0)], [some (.box [.ptr 2 0]), some (.box [.fn 57 [] [.ptr 3 0, .ptr 0 0]]), some (.box [.slc 4, .slc 5, .dat (.int .i64) x3854, .dat (.int .i64) x3855]), some (.box [.dat (.list (.int .i64)) x3856]), some (.seq (.int .i64) x3857), some (.seq (.int .i64) x3858)]⟩ : St) (Ret (tlook tys) Tryd.f59.results.toList r H') :=
  ret_of' (impl_stackMachine_ruleFor_2_n1_l x3854 x3855 x3856 x3857 x3858) (by unfold impl_stackMachine_ruleFor_2; kernel_rfl) (by
  intro t
  exact ret_mk [.dat (.int .u8) t] (by kernel_rfl) (by kernel_rfl) (by kernel_rfl) (by kernel_rfl)) h

def F_impl_stackMachine_ruleFor_2 : Fun := fun avs H =>
  match avs, H with
  | [.ptr 0 0, .ptr 1 0], [some (.box [.ptr 2 0]), some (.box [.fn 57 [] [.ptr 3 0, .ptr 0 0]]), some (.box [.slc 4, .slc 5, .dat (.int .i64) x3854, .dat (.int .i64) x3855]), some (.box [.dat (.list (.int .i64)) x3856]), some (.seq (.int .i64) x3857), some (.seq (.int .i64) x3858)] => ⟨_, impl_stackMachine_ruleFor_2 x3854 x3855 x3856 x3857 x3858, fun (t : Int) => (.dat (.int .u8) t, [some (.box [.ptr 2 0]), some (.box [.fn 57 [] [.ptr 3 0, .ptr 0 0]]), some (.box [.slc 4, .slc 5, .dat (.int .i64) x3854, .dat (.int .i64) x3855]), some (.box [.dat (.list (.int .i64)) x3856]), some (.seq (.int .i64) x3857), some (.seq (.int .i64) x3858)]), [], none⟩
  | _, _ => Ans.no

theorem impl_stackMachine_ruleFor_2_sound : Sound Tryd.prog 59 F_impl_stackMachine_ruleFor_2 := by
  refine fn_sound' (C := impl_stackMachine_ruleFor_2_ctx) (c := bodyOf Tryd.f59) (cok_of tys_ok (List.forall_mem_cons.2 ⟨impl_stackMachine_upperTwo_sound, List.forall_mem_cons.2 ⟨impl_stackMachine_ruleFor_1_sound, by simp⟩⟩) (List.forall_mem_cons.2 ⟨Tryd.call60, List.forall_mem_cons.2 ⟨Tryd.call57, by simp⟩⟩) (by kernel_rfl)) Tryd.func59 (by kernel_rfl) LL impl_stackMachine_ruleFor_2_an ?_
  intro avs H r H' h
  unfold F_impl_stackMachine_ruleFor_2 at h
  split at h
  · refine Awp.cast ?_ ?_ ?_ (impl_stackMachine_ruleFor_2_e _ _ _ _ _ h) <;> kernel_rfl
  · simp [Ans.no, Ans.run] at h


/-! loop.example/headtrees/impl.MovesFor -/

def impl_MovesFor_an : Ann := (.seq (.leaf [0]) (.seq (.seq (.leaf [0, 11]) (.cond (.seq (.leaf [2, 3]) (.leaf [2, 3])) (.leaf [0]))) (.seq (.leaf [0, 4, 5]) (.seq (.leaf [0, 4, 5, 6]) (.seq (.leaf [0, 4, 5, 6, 7]) (.seq (.seq (.leafF [⟨5, 4, false, some 1, some (.int .i64)⟩] [4, 5, 6, 7, 22, 23]) (.block (.loop (.seq (.leaf [4, 5, 6, 7, 22, 23, 24]) (.seq (.cond (.leaf [4, 5, 6, 7, 22, 23]) (.leaf [7])) (.seq (.block (.seq (.leaf [4, 5, 6, 7, 8, 22, 23]) (.seq (.leaf [4, 5, 6, 7, 8, 22, 23]) (.leaf [4, 5, 6, 7, 22, 23])))) (.leaf [4, 5, 6, 7, 22, 23]))))))) (.seq (.leafF [⟨1, 37, false, none, none⟩] [2, 3]) (.leaf [2, 3]))))))))

noncomputable def impl_MovesFor_ctx : Ctx := ⟨tlook tys, olook [(15, F_impl_FlatOk), (33, F_impl_newStackMachine), (34, F_impl_stackMoves), (35, F_impl_stackMachine_ruleFor), (59, F_impl_stackMachine_ruleFor_2), (54, F_impl_stackMachine_putNext), (55, F_impl_stackMachine_takeBelow), (56, F_impl_stackMachine_takeUpper)], ioF, 0, false, []⟩

theorem impl_MovesFor_n1_l (x3342 : List Int) : Link impl_MovesFor_ctx LL (Code.seq (Code.fst (bodyOf Tryd.f14)) (Code.seq (Code.fst (Code.snd (bodyOf Tryd.f14))) (Code.seq (Code.fst (Code.snd (Code.snd (bodyOf Tryd.f14)))) (Code.seq (Code.fst (Code.snd (Code.snd (Code.snd (bodyOf Tryd.f14))))) (Code.fst (Code.snd (Code.snd (Code.snd (Code.snd (bodyOf Tryd.f14)))))))))) (Ann.seq (Ann.fst impl_MovesFor_an) (Ann.seq (Ann.fst (Ann.snd impl_MovesFor_an)) (Ann.seq (Ann.fst (Ann.snd (Ann.snd impl_MovesFor_an))) (Ann.seq (Ann.fst (Ann.snd (Ann.snd (Ann.snd impl_MovesFor_an)))) (Ann.fst (Ann.snd (Ann.snd (Ann.snd (Ann.snd impl_MovesFor_an))))))))) (⟨mkE 39 0 [(0, .dat (.list (.int .i64)) x3342)], []⟩ : St) (impl_MovesFor_n1 x3342) (Sum.elim (fun (t : (List Int)) => (Exit.normal, (⟨mkE 39 0 [(0, .dat (.list (.int .i64)) x3342), (4, .ptr 0 0), (5, .fmap [(.int .u8 83, .func 54), (.int .u8 76, .func 55), (.int .u8 82, .func 56)]), (6, .fn 59 [] [.ptr 1 0, .ptr 2 0]), (7, .slc 3)], [some (.box [.slc 4, .nils, .dat (.int .i64) 0, .dat (.int .i64) 0]), some (.box [.ptr 0 0]), some (.box [.fn 57 [] [.ptr 5 0, .ptr 1 0]]), some (.seq (.int .u8) ([] : List Int)), some (.seq (.int .i64) t), some (.box [.dat (.list (.int .i64)) x3342])]⟩ : St))) (fun (t : ByteArray × Bool) => (Exit.ret, (⟨mkE 39 0 [(2, .dat .str t.1), (3, .dat .bool t.2)], []⟩ : St)))) := by
  refine Link.of fun K h => ?_
  simp only [impl_MovesFor_n1, wpO_bind, wpO_cond, wpO_map, wpO_some] at h
  exact Awp.of (by kernel_rfl) h

theorem impl_MovesFor_n2_l (x3342 : List Int) (x4046 : List Int) : Link impl_MovesFor_ctx LL (Code.fst (Code.fst (Code.snd (Code.snd (Code.snd (Code.snd (Code.snd (bodyOf Tryd.f14)))))))) (Ann.fst (Ann.fst (Ann.snd (Ann.snd (Ann.snd (Ann.snd (Ann.snd impl_MovesFor_an))))))) (⟨mkE 39 0 [(0, .dat (.list (.int .i64)) x3342), (4, .ptr 0 0), (5, .fmap [(.int .u8 83, .func 54), (.int .u8 76, .func 55), (.int .u8 82, .func 56)]), (6, .fn 59 [] [.ptr 1 0, .ptr 2 0]), (7, .slc 3)], [some (.box [.slc 4, .nils, .dat (.int .i64) 0, .dat (.int .i64) 0]), some (.box [.ptr 0 0]), some (.box [.fn 57 [] [.ptr 5 0, .ptr 1 0]]), some (.seq (.int .u8) ([] : List Int)), some (.seq (.int .i64) x4046), some (.box [.dat (.list (.int .i64)) x3342])]⟩ : St) (impl_MovesFor_n2 x3342) (fun (t : Int) => (Exit.normal, (⟨mkE 39 0 [(4, .ptr 0 0), (5, .fmap [(.int .u8 83, .func 54), (.int .u8 76, .func 55), (.int .u8 82, .func 56)]), (6, .fn 59 [] [.ptr 1 0, .ptr 2 0]), (7, .slc 3), (22, .dat (.int .i64) t), (23, .dat (.int .i64) 0)], [some (.box [.slc 4, .slc 5, .dat (.int .i64) 0, .dat (.int .i64) 0]), some (.box [.ptr 0 0]), some (.box [.fn 57 [] [.ptr 6 0, .ptr 1 0]]), some (.seq (.int .u8) ([] : List Int)), some (.seq (.int .i64) x4046), some (.seq (.int .i64) ([] : List Int)), some (.box [.dat (.list (.int .i64)) x3342])]⟩ : St))) := by
  refine Link.of fun K h => ?_
  simp only [impl_MovesFor_n2, wpO_bind, wpO_cond, wpO_map, wpO_some] at h
  exact Awp.of (by kernel_rfl) h

theorem impl_MovesFor_n3_l (x4051 : Int) (x4123 : Int) (x4124 : Int) (x4125 : Int) (x4126 : List Int) (x4127 : List Int) (x4128 : List Int) (x3342 : List Int) : Link impl_MovesFor_ctx LL (Code.fst (Code.fst (Code.snd (Code.fst (Code.snd (Code.snd (Code.snd (Code.snd (Code.snd (bodyOf Tryd.f14)))))))))) (Ann.fst (Ann.fst (Ann.snd (Ann.fst (Ann.snd (Ann.snd (Ann.snd (Ann.snd (Ann.snd impl_MovesFor_an))))))))) (⟨mkE 39 0 [(4, .ptr 0 0), (5, .fmap [(.int .u8 83, .func 54), (.int .u8 76, .func 55), (.int .u8 82, .func 56)]), (6, .fn 59 [] [.ptr 1 0, .ptr 2 0]), (7, .slc 3), (22, .dat (.int .i64) x4051), (23, .dat (.int .i64) x4123)], [some (.box [.slc 4, .slc 5, .dat (.int .i64) x4124, .dat (.int .i64) x4125]), some (.box [.ptr 0 0]), some (.box [.fn 57 [] [.ptr 6 0, .ptr 1 0]]), some (.seq (.int .u8) x4126), some (.seq (.int .i64) x4127), some (.seq (.int .i64) x4128), some (.box [.dat (.list (.int .i64)) x3342])]⟩ : St) (impl_MovesFor_n3 x4051 x4123 x4124 x4125 x4126 x4127 x4128 x3342) (Sum.elim (fun (t : Int × Int × Int × (List Int) × (List Int) × (List Int)) => (Exit.normal, (⟨mkE 39 0 [(4, .ptr 0 0), (5, .fmap [(.int .u8 83, .func 54), (.int .u8 76, .func 55), (.int .u8 82, .func 56)]), (6, .fn 59 [] [.ptr 1 0, .ptr 2 0]), (7, .slc 3), (22, .dat (.int .i64) x4051), (23, .dat (.int .i64) t.1)], [some (.box [.slc 4, .slc 5, .dat (.int .i64) t.2.1, .dat (.int .i64) t.2.2.1]), some (.box [.ptr 0 0]), some (.box [.fn 57 [] [.ptr 6 0, .ptr 1 0]]), some (.seq (.int .u8) t.2.2.2.1), some (.seq (.int .i64) t.2.2.2.2.1), some (.seq (.int .i64) t.2.2.2.2.2), some (.box [.dat (.list (.int .i64)) x3342])]⟩ : St))) (fun (t : (List Int)) => ((Exit.exit 0), (⟨mkE 39 0 [(7, .slc 0)], [some (.seq (.int .u8) t)]⟩ : St)))) := by
  refine Link.of fun K h => ?_
  simp only [impl_MovesFor_n3, wpO_bind, wpO_cond, wpO_map, wpO_some, wpO_none] at h
  exact Awp.of (by kernel_rfl) h

theorem impl_MovesFor_n4_l (x4051 : Int) (x4046 : List Int) (x3342 : List Int) : Link impl_MovesFor_ctx LL (Code.fst (Code.snd (Code.fst (Code.snd (Code.snd (Code.snd (Code.snd (Code.snd (bodyOf Tryd.f14))))))))) (Ann.fst (Ann.snd (Ann.fst (Ann.snd (Ann.snd (Ann.snd (Ann.snd (Ann.snd impl_MovesFor_an)))))))) (⟨mkE 39 0 [(4, .ptr 0 0), (5, .fmap [(.int .u8 83, .func 54), (.int .u8 76, .func 55), (.int .u8 82, .func 56)]), (6, .fn 59 [] [.ptr 1 0, .ptr 2 0]), (7, .slc 3), (22, .dat (.int .i64) x4051), (23, .dat (.int .i64) 0)], [some (.box [.slc 4, .slc 5, .dat (.int .i64) 0, .dat (.int .i64) 0]), some (.box [.ptr 0 0]), some (.box [.fn 57 [] [.ptr 6 0, .ptr 1 0]]), some (.seq (.int .u8) ([] : List Int)), some (.seq (.int .i64) x4046), some (.seq (.int .i64) ([] : List Int)), some (.box [.dat (.list (.int .i64)) x3342])]⟩ : St) (impl_MovesFor_n4 x4051 x4046 x3342) (fun (t : (List Int)) => ((Exit.exit 0), (⟨mkE 39 0 [(7, .slc 0)], [some (.seq (.int .u8) t)]⟩ : St))) := by
  unfold impl_MovesFor_n4
  exact Link.cast (by kernel_rfl) (by kernel_rfl) (link_loop (mk := fun (s : Int × Int × Int × (List Int) × (List Int) × (List Int)) => (⟨mkE 39 0 [(4, .ptr 0 0), (5, .fmap [(.int .u8 83, .func 54), (.int .u8 76, .func 55), (.int .u8 82, .func 56)]), (6, .fn 59 [] [.ptr 1 0, .ptr 2 0]), (7, .slc 3), (22, .dat (.int .i64) x4051), (23, .dat (.int .i64) s.1)], [some (.box [.slc 4, .slc 5, .dat (.int .i64) s.2.1, .dat (.int .i64) s.2.2.1]), some (.box [.ptr 0 0]), some (.box [.fn 57 [] [.ptr 6 0, .ptr 1 0]]), some (.seq (.int .u8) s.2.2.2.1), some (.seq (.int .i64) s.2.2.2.2.1), some (.seq (.int .i64) s.2.2.2.2.2), some (.box [.dat (.list (.int .i64)) x3342])]⟩ : St)) (fin := (fun (t : (List Int)) => ((Exit.exit 0), (⟨mkE 39 0 [(7, .slc 0)], [some (.seq (.int .u8) t)]⟩ : St)))) (by
  rintro t f K h
  · exact h) (fun s => link_map (impl_MovesFor_n3_l x4051 s.1 s.2.1 s.2.2.1 s.2.2.2.1 s.2.2.2.2.1 s.2.2.2.2.2 x3342) (Sum.elim (fun (t : Int × Int × Int × (List Int) × (List Int) × (List Int)) => Sum.inl (t.1, t.2.1, t.2.2.1, t.2.2.2.1, t.2.2.2.2.1, t.2.2.2.2.2)) (fun (t : (List Int)) => Sum.inr t)) (by
  rintro (t | t)
  · kernel_rfl
  · kernel_rfl)) (0, 0, 0, ([] : List Int), x4046, ([] : List Int)))

theorem impl_MovesFor_n5_l (x4051 : Int) (x4046 : List Int) (x3342 : List Int) : Link impl_MovesFor_ctx LL (Code.snd (Code.fst (Code.snd (Code.snd (Code.snd (Code.snd (Code.snd (bodyOf Tryd.f14)))))))) (Ann.snd (Ann.fst (Ann.snd (Ann.snd (Ann.snd (Ann.snd (Ann.snd impl_MovesFor_an))))))) (⟨mkE 39 0 [(4, .ptr 0 0), (5, .fmap [(.int .u8 83, .func 54), (.int .u8 76, .func 55), (.int .u8 82, .func 56)]), (6, .fn 59 [] [.ptr 1 0, .ptr 2 0]), (7, .slc 3), (22, .dat (.int .i64) x4051), (23, .dat (.int .i64) 0)], [some (.box [.slc 4, .slc 5, .dat (.int .i64) 0, .dat (.int .i64) 0]), some (.box [.ptr 0 0]), some (.box [.fn 57 [] [.ptr 6 0, .ptr 1 0]]), some (.seq (.int .u8) ([] : List Int)), some (.seq (.int .i64) x4046), some (.seq (.int .i64) ([] : List Int)), some (.box [.dat (.list (.int .i64)) x3342])]⟩ : St) (impl_MovesFor_n5 x4051 x4046 x3342) (fun (t : (List Int)) => (Exit.normal, (⟨mkE 39 0 [(7, .slc 0)], [some (.seq (.int .u8) t)]⟩ : St))) := by
  unfold impl_MovesFor_n5
  exact Link.cast (by kernel_rfl) (by kernel_rfl) (link_block (id := 0) (impl_MovesFor_n4_l x4051 x4046 x3342) (fun (t : (List Int)) => t) (by
  rintro t K h
  · exact Eq.mp (by kernel_rfl) h))

theorem impl_MovesFor_n6_l (x3342 : List Int) (x4046 : List Int) : Link impl_MovesFor_ctx LL (Code.fst (Code.snd (Code.snd (Code.snd (Code.snd (Code.snd (bodyOf Tryd.f14))))))) (Ann.fst (Ann.snd (Ann.snd (Ann.snd (Ann.snd (Ann.snd impl_MovesFor_an)))))) (⟨mkE 39 0 [(0, .dat (.list (.int .i64)) x3342), (4, .ptr 0 0), (5, .fmap [(.int .u8 83, .func 54), (.int .u8 76, .func 55), (.int .u8 82, .func 56)]), (6, .fn 59 [] [.ptr 1 0, .ptr 2 0]), (7, .slc 3)], [some (.box [.slc 4, .nils, .dat (.int .i64) 0, .dat (.int .i64) 0]), some (.box [.ptr 0 0]), some (.box [.fn 57 [] [.ptr 5 0, .ptr 1 0]]), some (.seq (.int .u8) ([] : List Int)), some (.seq (.int .i64) x4046), some (.box [.dat (.list (.int .i64)) x3342])]⟩ : St) (impl_MovesFor_n6 x3342 x4046) (fun (t : (List Int)) => (Exit.normal, (⟨mkE 39 0 [(7, .slc 0)], [some (.seq (.int .u8) t)]⟩ : St))) := by
  unfold impl_MovesFor_n6
  exact Link.cast (by kernel_rfl) (by kernel_rfl) (link_seq (b := (Code.snd (Code.fst (Code.snd (Code.snd (Code.snd (Code.snd (Code.snd (bodyOf Tryd.f14))))))))) (y := (Ann.snd (Ann.fst (Ann.snd (Ann.snd (Ann.snd (Ann.snd (Ann.snd impl_MovesFor_an)))))))) (impl_MovesFor_n2_l x3342 x4046) (fun (t : Int) => (impl_MovesFor_n5_l t x4046 x3342)))

theorem impl_MovesFor_n7_l (x4126 : List Int) : Link impl_MovesFor_ctx LL (Code.snd (Code.snd (Code.snd (Code.snd (Code.snd (Code.snd (bodyOf Tryd.f14))))))) (Ann.snd (Ann.snd (Ann.snd (Ann.snd (Ann.snd (Ann.snd impl_MovesFor_an)))))) (⟨mkE 39 0 [(7, .slc 0)], [some (.seq (.int .u8) x4126)]⟩ : St) (impl_MovesFor_n7 x4126) (fun (t : ByteArray × Bool) => (Exit.ret, (⟨mkE 39 0 [(2, .dat .str t.1), (3, .dat .bool t.2)], []⟩ : St))) := by
  refine Link.of fun K h => ?_
  simp only [impl_MovesFor_n7, wpO_bind, wpO_cond, wpO_map, wpO_some] at h
  exact Awp.of (by kernel_rfl) h

theorem impl_MovesFor_n8_l (x3342 : List Int) (x4046 : List Int) : Link impl_MovesFor_ctx LL (Code.snd (Code.snd (Code.snd (Code.snd (Code.snd (bodyOf Tryd.f14)))))) (Ann.snd (Ann.snd (Ann.snd (Ann.snd (Ann.snd impl_MovesFor_an))))) (⟨mkE 39 0 [(0, .dat (.list (.int .i64)) x3342), (4, .ptr 0 0), (5, .fmap [(.int .u8 83, .func 54), (.int .u8 76, .func 55), (.int .u8 82, .func 56)]), (6, .fn 59 [] [.ptr 1 0, .ptr 2 0]), (7, .slc 3)], [some (.box [.slc 4, .nils, .dat (.int .i64) 0, .dat (.int .i64) 0]), some (.box [.ptr 0 0]), some (.box [.fn 57 [] [.ptr 5 0, .ptr 1 0]]), some (.seq (.int .u8) ([] : List Int)), some (.seq (.int .i64) x4046), some (.box [.dat (.list (.int .i64)) x3342])]⟩ : St) (impl_MovesFor_n8 x3342 x4046) (fun (t : ByteArray × Bool) => (Exit.ret, (⟨mkE 39 0 [(2, .dat .str t.1), (3, .dat .bool t.2)], []⟩ : St))) := by
  unfold impl_MovesFor_n8
  exact Link.cast (by kernel_rfl) (by kernel_rfl) (link_seq (b := (Code.snd (Code.snd (Code.snd (Code.snd (Code.snd (Code.snd (bodyOf Tryd.f14)))))))) (y := (Ann.snd (Ann.snd (Ann.snd (Ann.snd (Ann.snd (Ann.snd impl_MovesFor_an))))))) (impl_MovesFor_n6_l x3342 x4046) (fun (t : (List Int)) => (impl_MovesFor_n7_l t)))

theorem impl_MovesFor_n9_l (x3342 : List Int) : Link impl_MovesFor_ctx LL (bodyOf Tryd.f14) impl_MovesFor_an (⟨mkE 39 0 [(0, .dat (.list (.int .i64)) x3342)], []⟩ : St) (impl_MovesFor_n9 x3342) (fun (t : ByteArray × Bool) => (Exit.ret, (⟨mkE 39 0 [(2, .dat .str t.1), (3, .dat .bool t.2)], []⟩ : St))) := by
  unfold impl_MovesFor_n9
  exact Link.cast (by kernel_rfl) (by kernel_rfl) (link_group (c := (Code.fst (Code.snd (Code.snd (Code.snd (Code.snd (bodyOf Tryd.f14))))))) (a := (Ann.fst (Ann.snd (Ann.snd (Ann.snd (Ann.snd impl_MovesFor_an)))))) [(Code.fst (bodyOf Tryd.f14)), (Code.fst (Code.snd (bodyOf Tryd.f14))), (Code.fst (Code.snd (Code.snd (bodyOf Tryd.f14)))), (Code.fst (Code.snd (Code.snd (Code.snd (bodyOf Tryd.f14)))))] [(Ann.fst impl_MovesFor_an), (Ann.fst (Ann.snd impl_MovesFor_an)), (Ann.fst (Ann.snd (Ann.snd impl_MovesFor_an))), (Ann.fst (Ann.snd (Ann.snd (Ann.snd impl_MovesFor_an))))] rfl (link_seq2 (b := (Code.snd (Code.snd (Code.snd (Code.snd (Code.snd (bodyOf Tryd.f14))))))) (y := (Ann.snd (Ann.snd (Ann.snd (Ann.snd (Ann.snd impl_MovesFor_an)))))) (impl_MovesFor_n1_l x3342) (fun (t : (List Int)) => (impl_MovesFor_n8_l x3342 t)) (fun (t : ByteArray × Bool) => t) (by
  rintro t
  · kernel_rfl) (by
  rintro t f K h
  · exact h)))

theorem impl_MovesFor_e (x3342 : List Int) {r : AV} {H' : Heap} (h : (Ans.mk _ (impl_MovesFor x3342) (fun (t : ByteArray × Bool) => (.tup [.dat .str t.1, .dat .bool t.2], [])) [] none).run = some (r, H')) : Awp impl_MovesFor_ctx LL (bodyOf Tryd.f14) impl_MovesFor_an (⟨mkE 39 0 [(0, .dat (.list (.int .i64)) x3342)], []⟩ : St) (Ret (tlook tys) Tryd.f14.results.toList r H') :=
  ret_of' (impl_MovesFor_n9_l x3342) (by unfold impl_MovesFor; kernel_rfl) (by
  intro t
  exact ret_mk [.dat .str t.1, .dat .bool t.2] (by kernel_rfl) (by kernel_rfl) (by kernel_rfl) (by kernel_rfl)) h

def F_impl_MovesFor : Fun := fun avs H =>
  match avs, H with
  | [.dat (.list (.int .i64)) x3342], [] => ⟨_, impl_MovesFor x3342, fun (t : ByteArray × Bool) => (.tup [.dat .str t.1, .dat .bool t.2], []), [], none⟩
  | _, _ => Ans.no

theorem impl_MovesFor_sound : Sound Tryd.prog 14 F_impl_MovesFor := by
  refine fn_sound' (C := impl_MovesFor_ctx) (c := bodyOf Tryd.f14) (cok_of tys_ok (List.forall_mem_cons.2 ⟨impl_FlatOk_sound, List.forall_mem_cons.2 ⟨impl_newStackMachine_sound, List.forall_mem_cons.2 ⟨impl_stackMoves_sound, List.forall_mem_cons.2 ⟨impl_stackMachine_ruleFor_sound, List.forall_mem_cons.2 ⟨impl_stackMachine_ruleFor_2_sound, List.forall_mem_cons.2 ⟨impl_stackMachine_putNext_sound, List.forall_mem_cons.2 ⟨impl_stackMachine_takeBelow_sound, List.forall_mem_cons.2 ⟨impl_stackMachine_takeUpper_sound, by simp⟩⟩⟩⟩⟩⟩⟩⟩) (List.forall_mem_cons.2 ⟨Tryd.call15, List.forall_mem_cons.2 ⟨Tryd.call33, List.forall_mem_cons.2 ⟨Tryd.call34, List.forall_mem_cons.2 ⟨Tryd.call35, List.forall_mem_cons.2 ⟨Tryd.call59, List.forall_mem_cons.2 ⟨Tryd.call54, List.forall_mem_cons.2 ⟨Tryd.call55, List.forall_mem_cons.2 ⟨Tryd.call56, by simp⟩⟩⟩⟩⟩⟩⟩⟩) (by kernel_rfl)) Tryd.func14 (by kernel_rfl) LL impl_MovesFor_an ?_
  intro avs H r H' h
  unfold F_impl_MovesFor at h
  split at h
  · refine Awp.cast ?_ ?_ ?_ (impl_MovesFor_e _ h) <;> kernel_rfl
  · simp [Ans.no, Ans.run] at h


/-! loop.example/headtrees/spec.TreeOk -/

def spec_TreeOk_an : Ann := (.seq (.leaf [0]) (.seq (.leaf [0, 3]) (.seq (.seq (.leaf [0, 3, 12]) (.cond (.seq (.leaf [2]) (.leaf [2])) (.leaf [0, 3]))) (.seq (.leaf [0, 3, 4]) (.seq (.seq (.leaf [0, 3, 4, 5]) (.block (.loop (.seq (.seq (.leaf [0, 3, 4, 5, 15]) (.cond (.leaf [0, 3, 4, 5]) (.leaf [4]))) (.seq (.block (.seq (.seq (.leaf [0, 3, 4, 5, 33]) (.cond (.seq (.leaf [2]) (.leaf [2])) (.leaf [0, 3, 4, 5]))) (.seq (.seq (.leaf [0, 3, 4, 5, 38]) (.cond (.leaf [0, 3, 4, 5]) (.leaf [0, 3, 4, 5]))) (.seq (.leaf [0, 3, 4, 5, 6]) (.seq (.seq (.leaf [0, 3, 4, 5, 6, 7]) (.block (.loop (.seq (.seq (.leaf [0, 3, 4, 5, 6, 7, 49]) (.cond (.leaf [0, 3, 4, 5, 6, 7]) (.leaf [0, 3, 4, 5, 6]))) (.seq (.block (.seq (.leaf [0, 3, 4, 5, 6, 7]) (.seq (.leaf [0, 3, 4, 5, 6, 7, 60]) (.cond (.seq (.leaf [2]) (.leaf [2])) (.leaf [0, 3, 4, 5, 6, 7]))))) (.leaf [0, 3, 4, 5, 6, 7])))))) (.seq (.leaf [0, 3, 4, 5, 62]) (.cond (.seq (.leaf [2]) (.leaf [2])) (.leaf [0, 3, 4, 5])))))))) (.leaf [0, 3, 4, 5])))))) (.seq (.leaf [2]) (.leaf [2])))))))

noncomputable def spec_TreeOk_ctx : Ctx := ⟨tlook tys, olook [(30, F_spec_l1In)], ioF, 0, false, []⟩

theorem spec_TreeOk_n1_l (x5097 : List Int) : Link spec_TreeOk_ctx LL (Code.seq (Code.fst (bodyOf Tryd.f65)) (Code.seq (Code.fst (Code.snd (bodyOf Tryd.f65))) (Code.seq (Code.fst (Code.snd (Code.snd (bodyOf Tryd.f65)))) (Code.fst (Code.snd (Code.snd (Code.snd (bodyOf Tryd.f65)))))))) (Ann.seq (Ann.fst spec_TreeOk_an) (Ann.seq (Ann.fst (Ann.snd spec_TreeOk_an)) (Ann.seq (Ann.fst (Ann.snd (Ann.snd spec_TreeOk_an))) (Ann.fst (Ann.snd (Ann.snd (Ann.snd spec_TreeOk_an))))))) (⟨mkE 65 0 [(0, .dat (.list (.int .i64)) x5097)], []⟩ : St) (spec_TreeOk_n1 x5097) (Sum.elim (fun (t : Int) => (Exit.normal, (⟨mkE 65 0 [(0, .dat (.list (.int .i64)) x5097), (3, .dat (.int .i64) t), (4, .dat (.int .i64) 0)], []⟩ : St))) (fun (t : Bool) => (Exit.ret, (⟨mkE 65 0 [(2, .dat .bool t)], []⟩ : St)))) := by
  refine Link.of fun K h => ?_
  simp only [spec_TreeOk_n1, wpO_bind, wpO_cond, wpO_map, wpO_some] at h
  exact Awp.of (by kernel_rfl) h

theorem spec_TreeOk_n2_l (x5097 : List Int) (x5102 : Int) : Link spec_TreeOk_ctx LL (Code.fst (Code.fst (Code.snd (Code.snd (Code.snd (Code.snd (bodyOf Tryd.f65))))))) (Ann.fst (Ann.fst (Ann.snd (Ann.snd (Ann.snd (Ann.snd spec_TreeOk_an)))))) (⟨mkE 65 0 [(0, .dat (.list (.int .i64)) x5097), (3, .dat (.int .i64) x5102), (4, .dat (.int .i64) 0)], []⟩ : St) (spec_TreeOk_n2) (fun (t : Unit) => (Exit.normal, (⟨mkE 65 0 [(0, .dat (.list (.int .i64)) x5097), (3, .dat (.int .i64) x5102), (4, .dat (.int .i64) 0), (5, .dat (.int .i64) 0)], []⟩ : St))) := by
  refine Link.of fun K h => ?_
  simp only [spec_TreeOk_n2, wpO_bind, wpO_cond, wpO_map, wpO_some] at h
  exact Awp.of (by kernel_rfl) h

theorem spec_TreeOk_n3_l (x5097 : List Int) (x5102 : Int) (x5169 : Int) (x5170 : Int) : Link spec_TreeOk_ctx LL (Code.fst (Code.fst (Code.fst (Code.snd (Code.fst (Code.snd (Code.snd (Code.snd (Code.snd (bodyOf Tryd.f65)))))))))) (Ann.fst (Ann.fst (Ann.fst (Ann.snd (Ann.fst (Ann.snd (Ann.snd (Ann.snd (Ann.snd spec_TreeOk_an))))))))) (⟨mkE 65 0 [(0, .dat (.list (.int .i64)) x5097), (3, .dat (.int .i64) x5102), (4, .dat (.int .i64) x5169), (5, .dat (.int .i64) x5170)], []⟩ : St) (spec_TreeOk_n3 x5102 x5169 x5170) (Sum.elim (fun (t : Unit) => (Exit.normal, (⟨mkE 65 0 [(0, .dat (.list (.int .i64)) x5097), (3, .dat (.int .i64) x5102), (4, .dat (.int .i64) x5169), (5, .dat (.int .i64) x5170)], []⟩ : St))) (fun (t : Int) => ((Exit.exit 0), (⟨mkE 65 0 [(4, .dat (.int .i64) t)], []⟩ : St)))) := by
  refine Link.of fun K h => ?_
  simp only [spec_TreeOk_n3, wpO_bind, wpO_cond, wpO_map, wpO_some] at h
  exact Awp.of (by kernel_rfl) h

theorem spec_TreeOk_n4_l (x5097 : List Int) (x5102 : Int) (x5169 : Int) (x5170 : Int) : Link spec_TreeOk_ctx LL (Code.seq (Code.fst (Code.fst (Code.fst (Code.snd (Code.fst (Code.fst (Code.snd (Code.fst (Code.snd (Code.snd (Code.snd (Code.snd (bodyOf Tryd.f65))))))))))))) (Code.seq (Code.fst (Code.snd (Code.fst (Code.fst (Code.snd (Code.fst (Code.fst (Code.snd (Code.fst (Code.snd (Code.snd (Code.snd (Code.snd (bodyOf Tryd.f65)))))))))))))) (Code.fst (Code.snd (Code.snd (Code.fst (Code.fst (Code.snd (Code.fst (Code.fst (Code.snd (Code.fst (Code.snd (Code.snd (Code.snd (Code.snd (bodyOf Tryd.f65))))))))))))))))) (Ann.seq (Ann.fst (Ann.fst (Ann.fst (Ann.snd (Ann.fst (Ann.fst (Ann.snd (Ann.fst (Ann.snd (Ann.snd (Ann.snd (Ann.snd spec_TreeOk_an)))))))))))) (Ann.seq (Ann.fst (Ann.snd (Ann.fst (Ann.fst (Ann.snd (Ann.fst (Ann.fst (Ann.snd (Ann.fst (Ann.snd (Ann.snd (Ann.snd (Ann.snd spec_TreeOk_an))))))))))))) (Ann.fst (Ann.snd (Ann.snd (Ann.fst (Ann.fst (Ann.snd (Ann.fst (Ann.fst (Ann.snd (Ann.fst (Ann.snd (Ann.snd (Ann.snd (Ann.snd spec_TreeOk_an)))))))))))))))) (⟨mkE 65 0 [(0, .dat (.list (.int .i64)) x5097), (3, .dat (.int .i64) x5102), (4, .dat (.int .i64) x5169), (5, .dat (.int .i64) x5170)], []⟩ : St) (spec_TreeOk_n4 x5097 x5102 x5169 x5170) (Sum.elim (fun (t : Int × Int) => (Exit.normal, (⟨mkE 65 0 [(0, .dat (.list (.int .i64)) x5097), (3, .dat (.int .i64) x5102), (4, .dat (.int .i64) t.1), (5, .dat (.int .i64) x5170), (6, .dat (.int .i64) t.2)], []⟩ : St))) (fun (t : Bool) => (Exit.ret, (⟨mkE 65 0 [(2, .dat .bool t)], []⟩ : St)))) := by
  refine Link.of fun K h => ?_
  simp only [spec_TreeOk_n4, wpO_bind, wpO_cond, wpO_map, wpO_some] at h
  exact Awp.of (by kernel_rfl) h

theorem spec_TreeOk_n5_l (x5097 : List Int) (x5102 : Int) (x5198 : Int) (x5170 : Int) (x5199 : Int) : Link spec_TreeOk_ctx LL (Code.fst (Code.fst (Code.snd (Code.snd (Code.snd (Code.fst (Code.fst (Code.snd (Code.fst (Code.fst (Code.snd (Code.fst (Code.snd (Code.snd (Code.snd (Code.snd (bodyOf Tryd.f65))))))))))))))))) (Ann.fst (Ann.fst (Ann.snd (Ann.snd (Ann.snd (Ann.fst (Ann.fst (Ann.snd (Ann.fst (Ann.fst (Ann.snd (Ann.fst (Ann.snd (Ann.snd (Ann.snd (Ann.snd spec_TreeOk_an)))))))))))))))) (⟨mkE 65 0 [(0, .dat (.list (.int .i64)) x5097), (3, .dat (.int .i64) x5102), (4, .dat (.int .i64) x5198), (5, .dat (.int .i64) x5170), (6, .dat (.int .i64) x5199)], []⟩ : St) (spec_TreeOk_n5) (fun (t : Unit) => (Exit.normal, (⟨mkE 65 0 [(0, .dat (.list (.int .i64)) x5097), (3, .dat (.int .i64) x5102), (4, .dat (.int .i64) x5198), (5, .dat (.int .i64) x5170), (6, .dat (.int .i64) x5199), (7, .dat (.int .i64) 0)], []⟩ : St))) := by
  refine Link.of fun K h => ?_
  simp only [spec_TreeOk_n5, wpO_bind, wpO_cond, wpO_map, wpO_some] at h
  exact Awp.of (by kernel_rfl) h

theorem spec_TreeOk_n6_l (x5097 : List Int) (x5102 : Int) (x5198 : Int) (x5170 : Int) (x5215 : Int) (x5216 : Int) : Link spec_TreeOk_ctx LL (Code.fst (Code.fst (Code.snd (Code.fst (Code.snd (Code.snd (Code.snd (Code.fst (Code.fst (Code.snd (Code.fst (Code.fst (Code.snd (Code.fst (Code.snd (Code.snd (Code.snd (Code.snd (bodyOf Tryd.f65))))))))))))))))))) (Ann.fst (Ann.fst (Ann.snd (Ann.fst (Ann.snd (Ann.snd (Ann.snd (Ann.fst (Ann.fst (Ann.snd (Ann.fst (Ann.fst (Ann.snd (Ann.fst (Ann.snd (Ann.snd (Ann.snd (Ann.snd spec_TreeOk_an)))))))))))))))))) (⟨mkE 65 0 [(0, .dat (.list (.int .i64)) x5097), (3, .dat (.int .i64) x5102), (4, .dat (.int .i64) x5198), (5, .dat (.int .i64) x5170), (6, .dat (.int .i64) x5215), (7, .dat (.int .i64) x5216)], []⟩ : St) (spec_TreeOk_n6 x5097 x5102 x5215 x5216) (Sum.elim (fun (t : Int × Int) => (Exit.normal, (⟨mkE 65 0 [(0, .dat (.list (.int .i64)) x5097), (3, .dat (.int .i64) x5102), (4, .dat (.int .i64) x5198), (5, .dat (.int .i64) x5170), (6, .dat (.int .i64) t.1), (7, .dat (.int .i64) t.2)], []⟩ : St))) (Sum.elim (fun (t : Bool) => (Exit.ret, (⟨mkE 65 0 [(2, .dat .bool t)], []⟩ : St))) (fun (t : Int) => ((Exit.exit 2), (⟨mkE 65 0 [(0, .dat (.list (.int .i64)) x5097), (3, .dat (.int .i64) x5102), (4, .dat (.int .i64) x5198), (5, .dat (.int .i64) x5170), (6, .dat (.int .i64) t)], []⟩ : St))))) := by
  refine Link.of fun K h => ?_
  simp only [spec_TreeOk_n6, wpO_bind, wpO_cond, wpO_map, wpO_some] at h
  exact Awp.of (by kernel_rfl) h

theorem spec_TreeOk_n7_l (x5097 : List Int) (x5102 : Int) (x5198 : Int) (x5170 : Int) (x5199 : Int) : Link spec_TreeOk_ctx LL (Code.fst (Code.snd (Code.fst (Code.snd (Code.snd (Code.snd (Code.fst (Code.fst (Code.snd (Code.fst (Code.fst (Code.snd (Code.fst (Code.snd (Code.snd (Code.snd (Code.snd (bodyOf Tryd.f65)))))))))))))))))) (Ann.fst (Ann.snd (Ann.fst (Ann.snd (Ann.snd (Ann.snd (Ann.fst (Ann.fst (Ann.snd (Ann.fst (Ann.fst (Ann.snd (Ann.fst (Ann.snd (Ann.snd (Ann.snd (Ann.snd spec_TreeOk_an))))))))))))))))) (⟨mkE 65 0 [(0, .dat (.list (.int .i64)) x5097), (3, .dat (.int .i64) x5102), (4, .dat (.int .i64) x5198), (5, .dat (.int .i64) x5170), (6, .dat (.int .i64) x5199), (7, .dat (.int .i64) 0)], []⟩ : St) (spec_TreeOk_n7 x5097 x5102 x5199) (Sum.elim (fun (t : Bool) => (Exit.ret, (⟨mkE 65 0 [(2, .dat .bool t)], []⟩ : St))) (fun (t : Int) => ((Exit.exit 2), (⟨mkE 65 0 [(0, .dat (.list (.int .i64)) x5097), (3, .dat (.int .i64) x5102), (4, .dat (.int .i64) x5198), (5, .dat (.int .i64) x5170), (6, .dat (.int .i64) t)], []⟩ : St)))) := by
  unfold spec_TreeOk_n7
  exact Link.cast (by kernel_rfl) (by kernel_rfl) (link_loop (mk := fun (s : Int × Int) => (⟨mkE 65 0 [(0, .dat (.list (.int .i64)) x5097), (3, .dat (.int .i64) x5102), (4, .dat (.int .i64) x5198), (5, .dat (.int .i64) x5170), (6, .dat (.int .i64) s.1), (7, .dat (.int .i64) s.2)], []⟩ : St)) (fin := (Sum.elim (fun (t : Bool) => (Exit.ret, (⟨mkE 65 0 [(2, .dat .bool t)], []⟩ : St))) (fun (t : Int) => ((Exit.exit 2), (⟨mkE 65 0 [(0, .dat (.list (.int .i64)) x5097), (3, .dat (.int .i64) x5102), (4, .dat (.int .i64) x5198), (5, .dat (.int .i64) x5170), (6, .dat (.int .i64) t)], []⟩ : St))))) (by
  rintro (t | t) f K h
  · exact h
  · exact h) (fun s => link_map (spec_TreeOk_n6_l x5097 x5102 x5198 x5170 s.1 s.2) (Sum.elim (fun (t : Int × Int) => Sum.inl (t.1, t.2)) (Sum.elim (fun (t : Bool) => Sum.inr (Sum.inl t)) (fun (t : Int) => Sum.inr (Sum.inr t)))) (by
  rintro (t | t | t)
  · kernel_rfl
  · kernel_rfl
  · kernel_rfl)) (x5199, 0))

theorem spec_TreeOk_n8_l (x5097 : List Int) (x5102 : Int) (x5198 : Int) (x5170 : Int) (x5199 : Int) : Link spec_TreeOk_ctx LL (Code.snd (Code.fst (Code.snd (Code.snd (Code.snd (Code.fst (Code.fst (Code.snd (Code.fst (Code.fst (Code.snd (Code.fst (Code.snd (Code.snd (Code.snd (Code.snd (bodyOf Tryd.f65))))))))))))))))) (Ann.snd (Ann.fst (Ann.snd (Ann.snd (Ann.snd (Ann.fst (Ann.fst (Ann.snd (Ann.fst (Ann.fst (Ann.snd (Ann.fst (Ann.snd (Ann.snd (Ann.snd (Ann.snd spec_TreeOk_an)))))))))))))))) (⟨mkE 65 0 [(0, .dat (.list (.int .i64)) x5097), (3, .dat (.int .i64) x5102), (4, .dat (.int .i64) x5198), (5, .dat (.int .i64) x5170), (6, .dat (.int .i64) x5199), (7, .dat (.int .i64) 0)], []⟩ : St) (spec_TreeOk_n8 x5097 x5102 x5199) (Sum.elim (fun (t : Int) => (Exit.normal, (⟨mkE 65 0 [(0, .dat (.list (.int .i64)) x5097), (3, .dat (.int .i64) x5102), (4, .dat (.int .i64) x5198), (5, .dat (.int .i64) x5170), (6, .dat (.int .i64) t)], []⟩ : St))) (fun (t : Bool) => (Exit.ret, (⟨mkE 65 0 [(2, .dat .bool t)], []⟩ : St)))) := by
  unfold spec_TreeOk_n8
  exact Link.cast (by kernel_rfl) (by kernel_rfl) (link_block (id := 2) (spec_TreeOk_n7_l x5097 x5102 x5198 x5170 x5199) (Sum.elim (fun (t : Bool) => (Sum.inr t)) (fun (t : Int) => (Sum.inl t))) (by
  rintro (t | t) K h
  · exact Eq.mp (by kernel_rfl) h
  · exact Eq.mp (by kernel_rfl) h))

theorem spec_TreeOk_n9_l (x5097 : List Int) (x5102 : Int) (x5198 : Int) (x5170 : Int) (x5199 : Int) : Link spec_TreeOk_ctx LL (Code.fst (Code.snd (Code.snd (Code.snd (Code.fst (Code.fst (Code.snd (Code.fst (Code.fst (Code.snd (Code.fst (Code.snd (Code.snd (Code.snd (Code.snd (bodyOf Tryd.f65)))))))))))))))) (Ann.fst (Ann.snd (Ann.snd (Ann.snd (Ann.fst (Ann.fst (Ann.snd (Ann.fst (Ann.fst (Ann.snd (Ann.fst (Ann.snd (Ann.snd (Ann.snd (Ann.snd spec_TreeOk_an))))))))))))))) (⟨mkE 65 0 [(0, .dat (.list (.int .i64)) x5097), (3, .dat (.int .i64) x5102), (4, .dat (.int .i64) x5198), (5, .dat (.int .i64) x5170), (6, .dat (.int .i64) x5199)], []⟩ : St) (spec_TreeOk_n9 x5097 x5102 x5199) (Sum.elim (fun (t : Int) => (Exit.normal, (⟨mkE 65 0 [(0, .dat (.list (.int .i64)) x5097), (3, .dat (.int .i64) x5102), (4, .dat (.int .i64) x5198), (5, .dat (.int .i64) x5170), (6, .dat (.int .i64) t)], []⟩ : St))) (fun (t : Bool) => (Exit.ret, (⟨mkE 65 0 [(2, .dat .bool t)], []⟩ : St)))) := by
  unfold spec_TreeOk_n9
  exact Link.cast (by kernel_rfl) (by kernel_rfl) (link_seq (b := (Code.snd (Code.fst (Code.snd (Code.snd (Code.snd (Code.fst (Code.fst (Code.snd (Code.fst (Code.fst (Code.snd (Code.fst (Code.snd (Code.snd (Code.snd (Code.snd (bodyOf Tryd.f65)))))))))))))))))) (y := (Ann.snd (Ann.fst (Ann.snd (Ann.snd (Ann.snd (Ann.fst (Ann.fst (Ann.snd (Ann.fst (Ann.fst (Ann.snd (Ann.fst (Ann.snd (Ann.snd (Ann.snd (Ann.snd spec_TreeOk_an))))))))))))))))) (spec_TreeOk_n5_l x5097 x5102 x5198 x5170 x5199) (fun (t : Unit) => (spec_TreeOk_n8_l x5097 x5102 x5198 x5170 x5199)))

theorem spec_TreeOk_n10_l (x5097 : List Int) (x5102 : Int) (x5198 : Int) (x5170 : Int) (x5215 : Int) : Link spec_TreeOk_ctx LL (Code.snd (Code.snd (Code.snd (Code.snd (Code.fst (Code.fst (Code.snd (Code.fst (Code.fst (Code.snd (Code.fst (Code.snd (Code.snd (Code.snd (Code.snd (bodyOf Tryd.f65)))))))))))))))) (Ann.snd (Ann.snd (Ann.snd (Ann.snd (Ann.fst (Ann.fst (Ann.snd (Ann.fst (Ann.fst (Ann.snd (Ann.fst (Ann.snd (Ann.snd (Ann.snd (Ann.snd spec_TreeOk_an))))))))))))))) (⟨mkE 65 0 [(0, .dat (.list (.int .i64)) x5097), (3, .dat (.int .i64) x5102), (4, .dat (.int .i64) x5198), (5, .dat (.int .i64) x5170), (6, .dat (.int .i64) x5215)], []⟩ : St) (spec_TreeOk_n10 x5215) (Sum.elim (fun (t : Unit) => (Exit.normal, (⟨mkE 65 0 [(0, .dat (.list (.int .i64)) x5097), (3, .dat (.int .i64) x5102), (4, .dat (.int .i64) x5198), (5, .dat (.int .i64) x5170)], []⟩ : St))) (fun (t : Bool) => (Exit.ret, (⟨mkE 65 0 [(2, .dat .bool t)], []⟩ : St)))) := by
  refine Link.of fun K h => ?_
  simp only [spec_TreeOk_n10, wpO_bind, wpO_cond, wpO_map, wpO_some] at h
  exact Awp.of (by kernel_rfl) h

theorem spec_TreeOk_n11_l (x5097 : List Int) (x5102 : Int) (x5198 : Int) (x5170 : Int) (x5199 : Int) : Link spec_TreeOk_ctx LL (Code.snd (Code.snd (Code.snd (Code.fst (Code.fst (Code.snd (Code.fst (Code.fst (Code.snd (Code.fst (Code.snd (Code.snd (Code.snd (Code.snd (bodyOf Tryd.f65))))))))))))))) (Ann.snd (Ann.snd (Ann.snd (Ann.fst (Ann.fst (Ann.snd (Ann.fst (Ann.fst (Ann.snd (Ann.fst (Ann.snd (Ann.snd (Ann.snd (Ann.snd spec_TreeOk_an)))))))))))))) (⟨mkE 65 0 [(0, .dat (.list (.int .i64)) x5097), (3, .dat (.int .i64) x5102), (4, .dat (.int .i64) x5198), (5, .dat (.int .i64) x5170), (6, .dat (.int .i64) x5199)], []⟩ : St) (spec_TreeOk_n11 x5097 x5102 x5199) (Sum.elim (fun (t : Unit) => (Exit.normal, (⟨mkE 65 0 [(0, .dat (.list (.int .i64)) x5097), (3, .dat (.int .i64) x5102), (4, .dat (.int .i64) x5198), (5, .dat (.int .i64) x5170)], []⟩ : St))) (fun (t : Bool) => (Exit.ret, (⟨mkE 65 0 [(2, .dat .bool t)], []⟩ : St)))) := by
  unfold spec_TreeOk_n11
  exact Link.cast (by kernel_rfl) (by kernel_rfl) (link_seq2 (b := (Code.snd (Code.snd (Code.snd (Code.snd (Code.fst (Code.fst (Code.snd (Code.fst (Code.fst (Code.snd (Code.fst (Code.snd (Code.snd (Code.snd (Code.snd (bodyOf Tryd.f65))))))))))))))))) (y := (Ann.snd (Ann.snd (Ann.snd (Ann.snd (Ann.fst (Ann.fst (Ann.snd (Ann.fst (Ann.fst (Ann.snd (Ann.fst (Ann.snd (Ann.snd (Ann.snd (Ann.snd spec_TreeOk_an)))))))))))))))) (spec_TreeOk_n9_l x5097 x5102 x5198 x5170 x5199) (fun (t : Int) => (spec_TreeOk_n10_l x5097 x5102 x5198 x5170 t)) (fun (t : Bool) => (Sum.inr t)) (by
  rintro t
  · kernel_rfl) (by
  rintro t f K h
  · exact h))

theorem spec_TreeOk_n12_l (x5097 : List Int) (x5102 : Int) (x5169 : Int) (x5170 : Int) : Link spec_TreeOk_ctx LL (Code.fst (Code.fst (Code.snd (Code.fst (Code.fst (Code.snd (Code.fst (Code.snd (Code.snd (Code.snd (Code.snd (bodyOf Tryd.f65)))))))))))) (Ann.fst (Ann.fst (Ann.snd (Ann.fst (Ann.fst (Ann.snd (Ann.fst (Ann.snd (Ann.snd (Ann.snd (Ann.snd spec_TreeOk_an))))))))))) (⟨mkE 65 0 [(0, .dat (.list (.int .i64)) x5097), (3, .dat (.int .i64) x5102), (4, .dat (.int .i64) x5169), (5, .dat (.int .i64) x5170)], []⟩ : St) (spec_TreeOk_n12 x5097 x5102 x5169 x5170) (Sum.elim (fun (t : Int) => (Exit.normal, (⟨mkE 65 0 [(0, .dat (.list (.int .i64)) x5097), (3, .dat (.int .i64) x5102), (4, .dat (.int .i64) t), (5, .dat (.int .i64) x5170)], []⟩ : St))) (fun (t : Bool) => (Exit.ret, (⟨mkE 65 0 [(2, .dat .bool t)], []⟩ : St)))) := by
  unfold spec_TreeOk_n12
  exact Link.cast (by kernel_rfl) (by kernel_rfl) (link_group (c := (Code.fst (Code.snd (Code.snd (Code.fst (Code.fst (Code.snd (Code.fst (Code.fst (Code.snd (Code.fst (Code.snd (Code.snd (Code.snd (Code.snd (bodyOf Tryd.f65)))))))))))))))) (a := (Ann.fst (Ann.snd (Ann.snd (Ann.fst (Ann.fst (Ann.snd (Ann.fst (Ann.fst (Ann.snd (Ann.fst (Ann.snd (Ann.snd (Ann.snd (Ann.snd spec_TreeOk_an))))))))))))))) [(Code.fst (Code.fst (Code.fst (Code.snd (Code.fst (Code.fst (Code.snd (Code.fst (Code.snd (Code.snd (Code.snd (Code.snd (bodyOf Tryd.f65))))))))))))), (Code.fst (Code.snd (Code.fst (Code.fst (Code.snd (Code.fst (Code.fst (Code.snd (Code.fst (Code.snd (Code.snd (Code.snd (Code.snd (bodyOf Tryd.f65))))))))))))))] [(Ann.fst (Ann.fst (Ann.fst (Ann.snd (Ann.fst (Ann.fst (Ann.snd (Ann.fst (Ann.snd (Ann.snd (Ann.snd (Ann.snd spec_TreeOk_an)))))))))))), (Ann.fst (Ann.snd (Ann.fst (Ann.fst (Ann.snd (Ann.fst (Ann.fst (Ann.snd (Ann.fst (Ann.snd (Ann.snd (Ann.snd (Ann.snd spec_TreeOk_an)))))))))))))] rfl (link_seq2 (b := (Code.snd (Code.snd (Code.snd (Code.fst (Code.fst (Code.snd (Code.fst (Code.fst (Code.snd (Code.fst (Code.snd (Code.snd (Code.snd (Code.snd (bodyOf Tryd.f65)))))))))))))))) (y := (Ann.snd (Ann.snd (Ann.snd (Ann.fst (Ann.fst (Ann.snd (Ann.fst (Ann.fst (Ann.snd (Ann.fst (Ann.snd (Ann.snd (Ann.snd (Ann.snd spec_TreeOk_an))))))))))))))) (spec_TreeOk_n4_l x5097 x5102 x5169 x5170) (fun (t : Int × Int) => (link_map (spec_TreeOk_n11_l x5097 x5102 t.1 x5170 t.2) (Sum.elim (fun (u : Unit) => (Sum.inl t.1)) (fun (u : Bool) => (Sum.inr u))) (by
  rintro (t | t)
  · kernel_rfl
  · kernel_rfl))) (fun (t : Bool) => (Sum.inr t)) (by
  rintro t
  · kernel_rfl) (by
  rintro t f K h
  · exact h)))

theorem spec_TreeOk_n13_l (x5097 : List Int) (x5102 : Int) (x5169 : Int) (x5170 : Int) : Link spec_TreeOk_ctx LL (Code.fst (Code.snd (Code.fst (Code.fst (Code.snd (Code.fst (Code.snd (Code.snd (Code.snd (Code.snd (bodyOf Tryd.f65))))))))))) (Ann.fst (Ann.snd (Ann.fst (Ann.fst (Ann.snd (Ann.fst (Ann.snd (Ann.snd (Ann.snd (Ann.snd spec_TreeOk_an)))))))))) (⟨mkE 65 0 [(0, .dat (.list (.int .i64)) x5097), (3, .dat (.int .i64) x5102), (4, .dat (.int .i64) x5169), (5, .dat (.int .i64) x5170)], []⟩ : St) (spec_TreeOk_n13 x5097 x5102 x5169 x5170) (Sum.elim (fun (t : Int) => (Exit.normal, (⟨mkE 65 0 [(0, .dat (.list (.int .i64)) x5097), (3, .dat (.int .i64) x5102), (4, .dat (.int .i64) t), (5, .dat (.int .i64) x5170)], []⟩ : St))) (fun (t : Bool) => (Exit.ret, (⟨mkE 65 0 [(2, .dat .bool t)], []⟩ : St)))) := by
  unfold spec_TreeOk_n13
  exact Link.cast (by kernel_rfl) (by kernel_rfl) (link_block (id := 1) (spec_TreeOk_n12_l x5097 x5102 x5169 x5170) (Sum.elim (fun (t : Int) => (Sum.inl t)) (fun (t : Bool) => (Sum.inr t))) (by
  rintro (t | t) K h
  · exact Eq.mp (by kernel_rfl) h
  · exact Eq.mp (by kernel_rfl) h))

theorem spec_TreeOk_n14_l (x5097 : List Int) (x5102 : Int) (x5198 : Int) (x5170 : Int) : Link spec_TreeOk_ctx LL (Code.snd (Code.snd (Code.fst (Code.fst (Code.snd (Code.fst (Code.snd (Code.snd (Code.snd (Code.snd (bodyOf Tryd.f65))))))))))) (Ann.snd (Ann.snd (Ann.fst (Ann.fst (Ann.snd (Ann.fst (Ann.snd (Ann.snd (Ann.snd (Ann.snd spec_TreeOk_an)))))))))) (⟨mkE 65 0 [(0, .dat (.list (.int .i64)) x5097), (3, .dat (.int .i64) x5102), (4, .dat (.int .i64) x5198), (5, .dat (.int .i64) x5170)], []⟩ : St) (spec_TreeOk_n14 x5170) (fun (t : Int) => (Exit.normal, (⟨mkE 65 0 [(0, .dat (.list (.int .i64)) x5097), (3, .dat (.int .i64) x5102), (4, .dat (.int .i64) x5198), (5, .dat (.int .i64) t)], []⟩ : St))) := by
  refine Link.of fun K h => ?_
  simp only [spec_TreeOk_n14, wpO_bind, wpO_cond, wpO_map, wpO_some] at h
  exact Awp.of (by kernel_rfl) h

theorem spec_TreeOk_n15_l (x5097 : List Int) (x5102 : Int) (x5169 : Int) (x5170 : Int) : Link spec_TreeOk_ctx LL (Code.snd (Code.fst (Code.fst (Code.snd (Code.fst (Code.snd (Code.snd (Code.snd (Code.snd (bodyOf Tryd.f65)))))))))) (Ann.snd (Ann.fst (Ann.fst (Ann.snd (Ann.fst (Ann.snd (Ann.snd (Ann.snd (Ann.snd spec_TreeOk_an))))))))) (⟨mkE 65 0 [(0, .dat (.list (.int .i64)) x5097), (3, .dat (.int .i64) x5102), (4, .dat (.int .i64) x5169), (5, .dat (.int .i64) x5170)], []⟩ : St) (spec_TreeOk_n15 x5097 x5102 x5169 x5170) (Sum.elim (fun (t : Int × Int) => (Exit.normal, (⟨mkE 65 0 [(0, .dat (.list (.int .i64)) x5097), (3, .dat (.int .i64) x5102), (4, .dat (.int .i64) t.1), (5, .dat (.int .i64) t.2)], []⟩ : St))) (fun (t : Bool) => (Exit.ret, (⟨mkE 65 0 [(2, .dat .bool t)], []⟩ : St)))) := by
  unfold spec_TreeOk_n15
  exact Link.cast (by kernel_rfl) (by kernel_rfl) (link_seq2 (b := (Code.snd (Code.snd (Code.fst (Code.fst (Code.snd (Code.fst (Code.snd (Code.snd (Code.snd (Code.snd (bodyOf Tryd.f65)))))))))))) (y := (Ann.snd (Ann.snd (Ann.fst (Ann.fst (Ann.snd (Ann.fst (Ann.snd (Ann.snd (Ann.snd (Ann.snd spec_TreeOk_an))))))))))) (spec_TreeOk_n13_l x5097 x5102 x5169 x5170) (fun (t : Int) => (link_map (spec_TreeOk_n14_l x5097 x5102 t x5170) (fun (u : Int) => (Sum.inl (t, u))) (by
  rintro t
  · kernel_rfl))) (fun (t : Bool) => (Sum.inr t)) (by
  rintro t
  · kernel_rfl) (by
  rintro t f K h
  · exact h))

theorem spec_TreeOk_n16_l (x5097 : List Int) (x5102 : Int) (x5169 : Int) (x5170 : Int) : Link spec_TreeOk_ctx LL (Code.fst (Code.fst (Code.snd (Code.fst (Code.snd (Code.snd (Code.snd (Code.snd (bodyOf Tryd.f65))))))))) (Ann.fst (Ann.fst (Ann.snd (Ann.fst (Ann.snd (Ann.snd (Ann.snd (Ann.snd spec_TreeOk_an)))))))) (⟨mkE 65 0 [(0, .dat (.list (.int .i64)) x5097), (3, .dat (.int .i64) x5102), (4, .dat (.int .i64) x5169), (5, .dat (.int .i64) x5170)], []⟩ : St) (spec_TreeOk_n16 x5097 x5102 x5169 x5170) (Sum.elim (fun (t : Int × Int) => (Exit.normal, (⟨mkE 65 0 [(0, .dat (.list (.int .i64)) x5097), (3, .dat (.int .i64) x5102), (4, .dat (.int .i64) t.1), (5, .dat (.int .i64) t.2)], []⟩ : St))) (Sum.elim (fun (t : Bool) => (Exit.ret, (⟨mkE 65 0 [(2, .dat .bool t)], []⟩ : St))) (fun (t : Int) => ((Exit.exit 0), (⟨mkE 65 0 [(4, .dat (.int .i64) t)], []⟩ : St))))) := by
  unfold spec_TreeOk_n16
  exact Link.cast (by kernel_rfl) (by kernel_rfl) (link_seq2 (b := (Code.snd (Code.fst (Code.fst (Code.snd (Code.fst (Code.snd (Code.snd (Code.snd (Code.snd (bodyOf Tryd.f65))))))))))) (y := (Ann.snd (Ann.fst (Ann.fst (Ann.snd (Ann.fst (Ann.snd (Ann.snd (Ann.snd (Ann.snd spec_TreeOk_an)))))))))) (spec_TreeOk_n3_l x5097 x5102 x5169 x5170) (fun (t : Unit) => (link_map (spec_TreeOk_n15_l x5097 x5102 x5169 x5170) (Sum.elim (fun (t : Int × Int) => (Sum.inl (t.1, t.2))) (fun (t : Bool) => (Sum.inr (Sum.inl t)))) (by
  rintro (t | t)
  · kernel_rfl
  · kernel_rfl))) (fun (t : Int) => (Sum.inr (Sum.inr t))) (by
  rintro t
  · kernel_rfl) (by
  rintro t f K h
  · exact h))

theorem spec_TreeOk_n17_l (x5097 : List Int) (x5102 : Int) : Link spec_TreeOk_ctx LL (Code.fst (Code.snd (Code.fst (Code.snd (Code.snd (Code.snd (Code.snd (bodyOf Tryd.f65)))))))) (Ann.fst (Ann.snd (Ann.fst (Ann.snd (Ann.snd (Ann.snd (Ann.snd spec_TreeOk_an))))))) (⟨mkE 65 0 [(0, .dat (.list (.int .i64)) x5097), (3, .dat (.int .i64) x5102), (4, .dat (.int .i64) 0), (5, .dat (.int .i64) 0)], []⟩ : St) (spec_TreeOk_n17 x5097 x5102) (Sum.elim (fun (t : Bool) => (Exit.ret, (⟨mkE 65 0 [(2, .dat .bool t)], []⟩ : St))) (fun (t : Int) => ((Exit.exit 0), (⟨mkE 65 0 [(4, .dat (.int .i64) t)], []⟩ : St)))) := by
  unfold spec_TreeOk_n17
  exact Link.cast (by kernel_rfl) (by kernel_rfl) (link_loop (mk := fun (s : Int × Int) => (⟨mkE 65 0 [(0, .dat (.list (.int .i64)) x5097), (3, .dat (.int .i64) x5102), (4, .dat (.int .i64) s.1), (5, .dat (.int .i64) s.2)], []⟩ : St)) (fin := (Sum.elim (fun (t : Bool) => (Exit.ret, (⟨mkE 65 0 [(2, .dat .bool t)], []⟩ : St))) (fun (t : Int) => ((Exit.exit 0), (⟨mkE 65 0 [(4, .dat (.int .i64) t)], []⟩ : St))))) (by
  rintro (t | t) f K h
  · exact h
  · exact h) (fun s => link_map (spec_TreeOk_n16_l x5097 x5102 s.1 s.2) (Sum.elim (fun (t : Int × Int) => Sum.inl (t.1, t.2)) (Sum.elim (fun (t : Bool) => Sum.inr (Sum.inl t)) (fun (t : Int) => Sum.inr (Sum.inr t)))) (by
  rintro (t | t | t)
  · kernel_rfl
  · kernel_rfl
  · kernel_rfl)) (0, 0))

theorem spec_TreeOk_n18_l (x5097 : List Int) (x5102 : Int) : Link spec_TreeOk_ctx LL (Code.snd (Code.fst (Code.snd (Code.snd (Code.snd (Code.snd (bodyOf Tryd.f65))))))) (Ann.snd (Ann.fst (Ann.snd (Ann.snd (Ann.snd (Ann.snd spec_TreeOk_an)))))) (⟨mkE 65 0 [(0, .dat (.list (.int .i64)) x5097), (3, .dat (.int .i64) x5102), (4, .dat (.int .i64) 0), (5, .dat (.int .i64) 0)], []⟩ : St) (spec_TreeOk_n18 x5097 x5102) (Sum.elim (fun (t : Int) => (Exit.normal, (⟨mkE 65 0 [(4, .dat (.int .i64) t)], []⟩ : St))) (fun (t : Bool) => (Exit.ret, (⟨mkE 65 0 [(2, .dat .bool t)], []⟩ : St)))) := by
  unfold spec_TreeOk_n18
  exact Link.cast (by kernel_rfl) (by kernel_rfl) (link_block (id := 0) (spec_TreeOk_n17_l x5097 x5102) (Sum.elim (fun (t : Bool) => (Sum.inr t)) (fun (t : Int) => (Sum.inl t))) (by
  rintro (t | t) K h
  · exact Eq.mp (by kernel_rfl) h
  · exact Eq.mp (by kernel_rfl) h))

theorem spec_TreeOk_n19_l (x5097 : List Int) (x5102 : Int) : Link spec_TreeOk_ctx LL (Code.fst (Code.snd (Code.snd (Code.snd (Code.snd (bodyOf Tryd.f65)))))) (Ann.fst (Ann.snd (Ann.snd (Ann.snd (Ann.snd spec_TreeOk_an))))) (⟨mkE 65 0 [(0, .dat (.list (.int .i64)) x5097), (3, .dat (.int .i64) x5102), (4, .dat (.int .i64) 0)], []⟩ : St) (spec_TreeOk_n19 x5097 x5102) (Sum.elim (fun (t : Int) => (Exit.normal, (⟨mkE 65 0 [(4, .dat (.int .i64) t)], []⟩ : St))) (fun (t : Bool) => (Exit.ret, (⟨mkE 65 0 [(2, .dat .bool t)], []⟩ : St)))) := by
  unfold spec_TreeOk_n19
  exact Link.cast (by kernel_rfl) (by kernel_rfl) (link_seq (b := (Code.snd (Code.fst (Code.snd (Code.snd (Code.snd (Code.snd (bodyOf Tryd.f65)))))))) (y := (Ann.snd (Ann.fst (Ann.snd (Ann.snd (Ann.snd (Ann.snd spec_TreeOk_an))))))) (spec_TreeOk_n2_l x5097 x5102) (fun (t : Unit) => (spec_TreeOk_n18_l x5097 x5102)))

theorem spec_TreeOk_n20_l (x5169 : Int) : Link spec_TreeOk_ctx LL (Code.snd (Code.snd (Code.snd (Code.snd (Code.snd (bodyOf Tryd.f65)))))) (Ann.snd (Ann.snd (Ann.snd (Ann.snd (Ann.snd spec_TreeOk_an))))) (⟨mkE 65 0 [(4, .dat (.int .i64) x5169)], []⟩ : St) (spec_TreeOk_n20 x5169) (fun (t : Bool) => (Exit.ret, (⟨mkE 65 0 [(2, .dat .bool t)], []⟩ : St))) := by
  refine Link.of fun K h => ?_
  simp only [spec_TreeOk_n20, wpO_bind, wpO_cond, wpO_map, wpO_some] at h
  exact Awp.of (by kernel_rfl) h

theorem spec_TreeOk_n21_l (x5097 : List Int) (x5102 : Int) : Link spec_TreeOk_ctx LL (Code.snd (Code.snd (Code.snd (Code.snd (bodyOf Tryd.f65))))) (Ann.snd (Ann.snd (Ann.snd (Ann.snd spec_TreeOk_an)))) (⟨mkE 65 0 [(0, .dat (.list (.int .i64)) x5097), (3, .dat (.int .i64) x5102), (4, .dat (.int .i64) 0)], []⟩ : St) (spec_TreeOk_n21 x5097 x5102) (fun (t : Bool) => (Exit.ret, (⟨mkE 65 0 [(2, .dat .bool t)], []⟩ : St))) := by
  unfold spec_TreeOk_n21
  exact Link.cast (by kernel_rfl) (by kernel_rfl) (link_seq2 (b := (Code.snd (Code.snd (Code.snd (Code.snd (Code.snd (bodyOf Tryd.f65))))))) (y := (Ann.snd (Ann.snd (Ann.snd (Ann.snd (Ann.snd spec_TreeOk_an)))))) (spec_TreeOk_n19_l x5097 x5102) (fun (t : Int) => (spec_TreeOk_n20_l t)) (fun (t : Bool) => t) (by
  rintro t
  · kernel_rfl) (by
  rintro t f K h
  · exact h))

theorem spec_TreeOk_n22_l (x5097 : List Int) : Link spec_TreeOk_ctx LL (bodyOf Tryd.f65) spec_TreeOk_an (⟨mkE 65 0 [(0, .dat (.list (.int .i64)) x5097)], []⟩ : St) (spec_TreeOk_n22 x5097) (fun (t : Bool) => (Exit.ret, (⟨mkE 65 0 [(2, .dat .bool t)], []⟩ : St))) := by
  unfold spec_TreeOk_n22
  exact Link.cast (by kernel_rfl) (by kernel_rfl) (link_group (c := (Code.fst (Code.snd (Code.snd (Code.snd (bodyOf Tryd.f65)))))) (a := (Ann.fst (Ann.snd (Ann.snd (Ann.snd spec_TreeOk_an))))) [(Code.fst (bodyOf Tryd.f65)), (Code.fst (Code.snd (bodyOf Tryd.f65))), (Code.fst (Code.snd (Code.snd (bodyOf Tryd.f65))))] [(Ann.fst spec_TreeOk_an), (Ann.fst (Ann.snd spec_TreeOk_an)), (Ann.fst (Ann.snd (Ann.snd spec_TreeOk_an)))] rfl (link_seq2 (b := (Code.snd (Code.snd (Code.snd (Code.snd (bodyOf Tryd.f65)))))) (y := (Ann.snd (Ann.snd (Ann.snd (Ann.snd spec_TreeOk_an))))) (spec_TreeOk_n1_l x5097) (fun (t : Int) => (spec_TreeOk_n21_l x5097 t)) (fun (t : Bool) => t) (by
  rintro t
  · kernel_rfl) (by
  rintro t f K h
  · exact h)))

theorem spec_TreeOk_e (x5097 : List Int) {r : AV} {H' : Heap} (h : (Ans.mk _ (spec_TreeOk x5097) (fun (t : Bool) => (.dat .bool t, [])) [] none).run = some (r, H')) : Awp spec_TreeOk_ctx LL (bodyOf Tryd.f65) spec_TreeOk_an (⟨mkE 65 0 [(0, .dat (.list (.int .i64)) x5097)], []⟩ : St) (Ret (tlook tys) Tryd.f65.results.toList r H') :=
  ret_of' (spec_TreeOk_n22_l x5097) (by unfold spec_TreeOk; kernel_rfl) (by
  intro t
  exact ret_mk [.dat .bool t] (by kernel_rfl) (by kernel_rfl) (by kernel_rfl) (by kernel_rfl)) h

def F_spec_TreeOk : Fun := fun avs H =>
  match avs, H with
  | [.dat (.list (.int .i64)) x5097], [] => ⟨_, spec_TreeOk x5097, fun (t : Bool) => (.dat .bool t, []), [], none⟩
  | _, _ => Ans.no

theorem spec_TreeOk_sound : Sound Tryd.prog 65 F_spec_TreeOk := by
  refine fn_sound' (C := spec_TreeOk_ctx) (c := bodyOf Tryd.f65) (cok_of tys_ok (List.forall_mem_cons.2 ⟨spec_l1In_sound, by simp⟩) (List.forall_mem_cons.2 ⟨Tryd.call30, by simp⟩) (by kernel_rfl)) Tryd.func65 (by kernel_rfl) LL spec_TreeOk_an ?_
  intro avs H r H' h
  unfold F_spec_TreeOk at h
  split at h
  · refine Awp.cast ?_ ?_ ?_ (spec_TreeOk_e _ h) <;> kernel_rfl
  · simp [Ans.no, Ans.run] at h


/-! loop.example/headtrees/spec.l2Yield -/

def spec_l2Yield_an : Ann := (.seq (.leaf [0, 1]) (.seq (.leaf [0, 1, 5]) (.seq (.seq (.leaf [0, 1, 5, 6]) (.block (.loop (.seq (.seq (.leaf [0, 1, 5, 6, 13]) (.cond (.leaf [0, 1, 5, 6]) (.leaf [5]))) (.seq (.block (.seq (.leaf [0, 1, 5, 6, 21]) (.cond (.leaf [0, 1, 5, 6]) (.leaf [0, 1, 5, 6])))) (.leaf [0, 1, 5, 6])))))) (.seq (.leaf [4]) (.leaf [4])))))

def F_spec_l2Yield_fuel (n : Nat) : Fun := fun avs H =>
  match avs, H with
  | [.dat (.list (.int .i64)) x5242, .dat (.int .i64) x5243], [] => ⟨_, spec_l2Yield_fuel n x5242 x5243, fun (t : Int) => (.dat (.int .i64) t, []), [], none⟩
  | _, _ => Ans.no

noncomputable def spec_l2Yield_ctx (n : Nat) : Ctx := ⟨tlook tys, olook [(67, F_spec_l2Yield_fuel n)], ioF, 0, false, []⟩

theorem spec_l2Yield_n1_l (n : Nat) (x5242 : List Int) (x5243 : Int) : Link (spec_l2Yield_ctx n) LL (Code.seq (Code.fst (bodyOf Tryd.f67)) (Code.fst (Code.snd (bodyOf Tryd.f67)))) (Ann.seq (Ann.fst spec_l2Yield_an) (Ann.fst (Ann.snd spec_l2Yield_an))) (⟨mkE 29 0 [(0, .dat (.list (.int .i64)) x5242), (1, .dat (.int .i64) x5243)], []⟩ : St) (spec_l2Yield_n1 (spec_l2Yield_fuel n) x5243) (fun (t : Int) => (Exit.normal, (⟨mkE 29 0 [(0, .dat (.list (.int .i64)) x5242), (1, .dat (.int .i64) x5243), (5, .dat (.int .i64) t)], []⟩ : St))) := by
  refine Link.of fun K h => ?_
  simp only [spec_l2Yield_n1, wpO_bind, wpO_cond, wpO_map, wpO_some] at h
  exact Awp.of (by kernel_rfl) h

theorem spec_l2Yield_n2_l (n : Nat) (x5242 : List Int) (x5243 : Int) (x5274 : Int) : Link (spec_l2Yield_ctx n) LL (Code.fst (Code.fst (Code.snd (Code.snd (bodyOf Tryd.f67))))) (Ann.fst (Ann.fst (Ann.snd (Ann.snd spec_l2Yield_an)))) (⟨mkE 29 0 [(0, .dat (.list (.int .i64)) x5242), (1, .dat (.int .i64) x5243), (5, .dat (.int .i64) x5274)], []⟩ : St) (spec_l2Yield_n2 (spec_l2Yield_fuel n)) (fun (t : Unit) => (Exit.normal, (⟨mkE 29 0 [(0, .dat (.list (.int .i64)) x5242), (1, .dat (.int .i64) x5243), (5, .dat (.int .i64) x5274), (6, .dat (.int .i64) 0)], []⟩ : St))) := by
  refine Link.of fun K h => ?_
  simp only [spec_l2Yield_n2, wpO_bind, wpO_cond, wpO_map, wpO_some] at h
  exact Awp.of (by kernel_rfl) h

theorem spec_l2Yield_n3_l (n : Nat) (x5242 : List Int) (x5243 : Int) (x5295 : Int) (x5296 : Int) : Link (spec_l2Yield_ctx n) LL (Code.fst (Code.fst (Code.snd (Code.fst (Code.snd (Code.snd (bodyOf Tryd.f67))))))) (Ann.fst (Ann.fst (Ann.snd (Ann.fst (Ann.snd (Ann.snd spec_l2Yield_an)))))) (⟨mkE 29 0 [(0, .dat (.list (.int .i64)) x5242), (1, .dat (.int .i64) x5243), (5, .dat (.int .i64) x5295), (6, .dat (.int .i64) x5296)], []⟩ : St) (spec_l2Yield_n3 (spec_l2Yield_fuel n) x5242 x5243 x5295 x5296) (Sum.elim (fun (t : Int × Int) => (Exit.normal, (⟨mkE 29 0 [(0, .dat (.list (.int .i64)) x5242), (1, .dat (.int .i64) x5243), (5, .dat (.int .i64) t.1), (6, .dat (.int .i64) t.2)], []⟩ : St))) (fun (t : Int) => ((Exit.exit 0), (⟨mkE 29 0 [(5, .dat (.int .i64) t)], []⟩ : St)))) := by
  refine Link.of fun K h => ?_
  simp only [spec_l2Yield_n3, wpO_bind, wpO_cond, wpO_map, wpO_some] at h
  exact Awp.of (by kernel_rfl) h

theorem spec_l2Yield_n4_l (n : Nat) (x5242 : List Int) (x5243 : Int) (x5274 : Int) : Link (spec_l2Yield_ctx n) LL (Code.fst (Code.snd (Code.fst (Code.snd (Code.snd (bodyOf Tryd.f67)))))) (Ann.fst (Ann.snd (Ann.fst (Ann.snd (Ann.snd spec_l2Yield_an))))) (⟨mkE 29 0 [(0, .dat (.list (.int .i64)) x5242), (1, .dat (.int .i64) x5243), (5, .dat (.int .i64) x5274), (6, .dat (.int .i64) 0)], []⟩ : St) (spec_l2Yield_n4 (spec_l2Yield_fuel n) x5242 x5243 x5274) (fun (t : Int) => ((Exit.exit 0), (⟨mkE 29 0 [(5, .dat (.int .i64) t)], []⟩ : St))) := by
  unfold spec_l2Yield_n4
  exact Link.cast (by kernel_rfl) (by kernel_rfl) (link_loop (mk := fun (s : Int × Int) => (⟨mkE 29 0 [(0, .dat (.list (.int .i64)) x5242), (1, .dat (.int .i64) x5243), (5, .dat (.int .i64) s.1), (6, .dat (.int .i64) s.2)], []⟩ : St)) (fin := (fun (t : Int) => ((Exit.exit 0), (⟨mkE 29 0 [(5, .dat (.int .i64) t)], []⟩ : St)))) (by
  rintro t f K h
  · exact h) (fun s => link_map (spec_l2Yield_n3_l n x5242 x5243 s.1 s.2) (Sum.elim (fun (t : Int × Int) => Sum.inl (t.1, t.2)) (fun (t : Int) => Sum.inr t)) (by
  rintro (t | t)
  · kernel_rfl
  · kernel_rfl)) (x5274, 0))

theorem spec_l2Yield_n5_l (n : Nat) (x5242 : List Int) (x5243 : Int) (x5274 : Int) : Link (spec_l2Yield_ctx n) LL (Code.snd (Code.fst (Code.snd (Code.snd (bodyOf Tryd.f67))))) (Ann.snd (Ann.fst (Ann.snd (Ann.snd spec_l2Yield_an)))) (⟨mkE 29 0 [(0, .dat (.list (.int .i64)) x5242), (1, .dat (.int .i64) x5243), (5, .dat (.int .i64) x5274), (6, .dat (.int .i64) 0)], []⟩ : St) (spec_l2Yield_n5 (spec_l2Yield_fuel n) x5242 x5243 x5274) (fun (t : Int) => (Exit.normal, (⟨mkE 29 0 [(5, .dat (.int .i64) t)], []⟩ : St))) := by
  unfold spec_l2Yield_n5
  exact Link.cast (by kernel_rfl) (by kernel_rfl) (link_block (id := 0) (spec_l2Yield_n4_l n x5242 x5243 x5274) (fun (t : Int) => t) (by
  rintro t K h
  · exact Eq.mp (by kernel_rfl) h))

theorem spec_l2Yield_n6_l (n : Nat) (x5242 : List Int) (x5243 : Int) (x5274 : Int) : Link (spec_l2Yield_ctx n) LL (Code.fst (Code.snd (Code.snd (bodyOf Tryd.f67)))) (Ann.fst (Ann.snd (Ann.snd spec_l2Yield_an))) (⟨mkE 29 0 [(0, .dat (.list (.int .i64)) x5242), (1, .dat (.int .i64) x5243), (5, .dat (.int .i64) x5274)], []⟩ : St) (spec_l2Yield_n6 (spec_l2Yield_fuel n) x5242 x5243 x5274) (fun (t : Int) => (Exit.normal, (⟨mkE 29 0 [(5, .dat (.int .i64) t)], []⟩ : St))) := by
  unfold spec_l2Yield_n6
  exact Link.cast (by kernel_rfl) (by kernel_rfl) (link_seq (b := (Code.snd (Code.fst (Code.snd (Code.snd (bodyOf Tryd.f67)))))) (y := (Ann.snd (Ann.fst (Ann.snd (Ann.snd spec_l2Yield_an))))) (spec_l2Yield_n2_l n x5242 x5243 x5274) (fun (t : Unit) => (spec_l2Yield_n5_l n x5242 x5243 x5274)))

theorem spec_l2Yield_n7_l (n : Nat) (x5295 : Int) : Link (spec_l2Yield_ctx n) LL (Code.snd (Code.snd (Code.snd (bodyOf Tryd.f67)))) (Ann.snd (Ann.snd (Ann.snd spec_l2Yield_an))) (⟨mkE 29 0 [(5, .dat (.int .i64) x5295)], []⟩ : St) (spec_l2Yield_n7 (spec_l2Yield_fuel n) x5295) (fun (t : Int) => (Exit.ret, (⟨mkE 29 0 [(4, .dat (.int .i64) t)], []⟩ : St))) := by
  refine Link.of fun K h => ?_
  simp only [spec_l2Yield_n7, wpO_bind, wpO_cond, wpO_map, wpO_some] at h
  exact Awp.of (by kernel_rfl) h

theorem spec_l2Yield_n8_l (n : Nat) (x5242 : List Int) (x5243 : Int) (x5274 : Int) : Link (spec_l2Yield_ctx n) LL (Code.snd (Code.snd (bodyOf Tryd.f67))) (Ann.snd (Ann.snd spec_l2Yield_an)) (⟨mkE 29 0 [(0, .dat (.list (.int .i64)) x5242), (1, .dat (.int .i64) x5243), (5, .dat (.int .i64) x5274)], []⟩ : St) (spec_l2Yield_n8 (spec_l2Yield_fuel n) x5242 x5243 x5274) (fun (t : Int) => (Exit.ret, (⟨mkE 29 0 [(4, .dat (.int .i64) t)], []⟩ : St))) := by
  unfold spec_l2Yield_n8
  exact Link.cast (by kernel_rfl) (by kernel_rfl) (link_seq (b := (Code.snd (Code.snd (Code.snd (bodyOf Tryd.f67))))) (y := (Ann.snd (Ann.snd (Ann.snd spec_l2Yield_an)))) (spec_l2Yield_n6_l n x5242 x5243 x5274) (fun (t : Int) => (spec_l2Yield_n7_l n t)))

theorem spec_l2Yield_n9_l (n : Nat) (x5242 : List Int) (x5243 : Int) : Link (spec_l2Yield_ctx n) LL (bodyOf Tryd.f67) spec_l2Yield_an (⟨mkE 29 0 [(0, .dat (.list (.int .i64)) x5242), (1, .dat (.int .i64) x5243)], []⟩ : St) (spec_l2Yield_n9 (spec_l2Yield_fuel n) x5242 x5243) (fun (t : Int) => (Exit.ret, (⟨mkE 29 0 [(4, .dat (.int .i64) t)], []⟩ : St))) := by
  unfold spec_l2Yield_n9
  exact Link.cast (by kernel_rfl) (by kernel_rfl) (link_group (c := (Code.fst (Code.snd (bodyOf Tryd.f67)))) (a := (Ann.fst (Ann.snd spec_l2Yield_an))) [(Code.fst (bodyOf Tryd.f67))] [(Ann.fst spec_l2Yield_an)] rfl (link_seq (b := (Code.snd (Code.snd (bodyOf Tryd.f67)))) (y := (Ann.snd (Ann.snd spec_l2Yield_an))) (spec_l2Yield_n1_l n x5242 x5243) (fun (t : Int) => (spec_l2Yield_n8_l n x5242 x5243 t))))

theorem spec_l2Yield_e (n : Nat) (x5242 : List Int) (x5243 : Int) {r : AV} {H' : Heap} (h : (Ans.mk _ (spec_l2Yield_fuel (n + 1) x5242 x5243) (fun (t : Int) => (.dat (.int .i64) t, [])) [] none).run = some (r, H')) : Awp (spec_l2Yield_ctx n) LL (bodyOf Tryd.f67) spec_l2Yield_an (⟨mkE 29 0 [(0, .dat (.list (.int .i64)) x5242), (1, .dat (.int .i64) x5243)], []⟩ : St) (Ret (tlook tys) Tryd.f67.results.toList r H') :=
  ret_of' (spec_l2Yield_n9_l n x5242 x5243) (by (show _ = _); kernel_rfl) (by
  intro t
  exact ret_mk [.dat (.int .i64) t] (by kernel_rfl) (by kernel_rfl) (by kernel_rfl) (by kernel_rfl)) h

theorem spec_l2Yield_step (n : Nat) (h67 : Sound Tryd.prog 67 (F_spec_l2Yield_fuel n)) : Sound Tryd.prog 67 (F_spec_l2Yield_fuel (n + 1)) := by
  refine fn_sound' (C := spec_l2Yield_ctx n) (c := bodyOf Tryd.f67) (cok_of tys_ok (List.forall_mem_cons.2 ⟨h67, by simp⟩) (List.forall_mem_cons.2 ⟨Tryd.call67, by simp⟩) (by kernel_rfl)) Tryd.func67 (by kernel_rfl) LL spec_l2Yield_an ?_
  intro avs H r H' h
  unfold F_spec_l2Yield_fuel at h
  split at h
  · refine Awp.cast ?_ ?_ ?_ (spec_l2Yield_e n _ _ h) <;> kernel_rfl
  · simp [Ans.no, Ans.run] at h

theorem spec_l2Yield_null : Sound Tryd.prog 67 (F_spec_l2Yield_fuel 0) := by
  intro avs H r H' h
  unfold F_spec_l2Yield_fuel at h
  split at h
  · simp [spec_l2Yield_fuel, spec_l2Yield_knot, Ans.run] at h
  · simp [Ans.no, Ans.run] at h

theorem spec_l2Yield_knot_all : ∀ n, Sound Tryd.prog 67 (F_spec_l2Yield_fuel n)
  | 0 => spec_l2Yield_null
  | n + 1 => by
    have h67 := spec_l2Yield_knot_all n
    exact spec_l2Yield_step n h67

def F_spec_l2Yield : Fun := fun avs H =>
  match avs, H with
  | [.dat (.list (.int .i64)) x5242, .dat (.int .i64) x5243], [] => ⟨_, spec_l2Yield x5242 x5243, fun (t : Int) => (.dat (.int .i64) t, []), [], none⟩
  | _, _ => Ans.no

theorem spec_l2Yield_sound : Sound Tryd.prog 67 F_spec_l2Yield := by
  have e : F_spec_l2Yield = F_spec_l2Yield_fuel RR := by
    funext avs H
    unfold F_spec_l2Yield F_spec_l2Yield_fuel
    split <;> first | rfl | (simp only [spec_l2Yield])
  rw [e]
  exact (spec_l2Yield_knot_all RR)


/-! loop.example/headtrees/spec.l3Row -/

def spec_l3Row_an : Ann := (.seq (.leaf [0]) (.seq (.block (.loop (.seq (.seq (.leaf [0, 5]) (.cond (.leaf [0]) (.leaf [0]))) (.block (.leaf [0]))))) (.seq (.leaf [2]) (.leaf [2]))))

noncomputable def spec_l3Row_ctx : Ctx := ⟨tlook tys, olook [], ioF, 0, false, []⟩

theorem spec_l3Row_n1_l (x5318 : Int) : Link spec_l3Row_ctx LL (Code.fst (bodyOf Tryd.f66)) (Ann.fst spec_l3Row_an) (⟨mkE 13 0 [(0, .dat (.int .i64) x5318)], []⟩ : St) (spec_l3Row_n1) (fun (t : Unit) => (Exit.normal, (⟨mkE 13 0 [(0, .dat (.int .i64) x5318)], []⟩ : St))) := by
  refine Link.of fun K h => ?_
  simp only [spec_l3Row_n1, wpO_bind, wpO_cond, wpO_map, wpO_some] at h
  exact Awp.of (by kernel_rfl) h

theorem spec_l3Row_n2_l (x5324 : Int) : Link spec_l3Row_ctx LL (Code.fst (Code.fst (Code.fst (Code.snd (bodyOf Tryd.f66))))) (Ann.fst (Ann.fst (Ann.fst (Ann.snd spec_l3Row_an)))) (⟨mkE 13 0 [(0, .dat (.int .i64) x5324)], []⟩ : St) (spec_l3Row_n2 x5324) (Sum.elim (fun (t : Int) => (Exit.normal, (⟨mkE 13 0 [(0, .dat (.int .i64) t)], []⟩ : St))) (fun (t : Int) => ((Exit.exit 0), (⟨mkE 13 0 [(0, .dat (.int .i64) t)], []⟩ : St)))) := by
  refine Link.of fun K h => ?_
  simp only [spec_l3Row_n2, wpO_bind, wpO_cond, wpO_map, wpO_some] at h
  exact Awp.of (by kernel_rfl) h

theorem spec_l3Row_n3_l (x5318 : Int) : Link spec_l3Row_ctx LL (Code.fst (Code.fst (Code.snd (bodyOf Tryd.f66)))) (Ann.fst (Ann.fst (Ann.snd spec_l3Row_an))) (⟨mkE 13 0 [(0, .dat (.int .i64) x5318)], []⟩ : St) (spec_l3Row_n3 x5318) (fun (t : Int) => ((Exit.exit 0), (⟨mkE 13 0 [(0, .dat (.int .i64) t)], []⟩ : St))) := by
  unfold spec_l3Row_n3
  exact Link.cast (by kernel_rfl) (by kernel_rfl) (link_loop (mk := fun (s : Int) => (⟨mkE 13 0 [(0, .dat (.int .i64) s)], []⟩ : St)) (fin := (fun (t : Int) => ((Exit.exit 0), (⟨mkE 13 0 [(0, .dat (.int .i64) t)], []⟩ : St)))) (by
  rintro t f K h
  · exact h) (fun s => link_map (spec_l3Row_n2_l s) (Sum.elim (fun (t : Int) => Sum.inl t) (fun (t : Int) => Sum.inr t)) (by
  rintro (t | t)
  · kernel_rfl
  · kernel_rfl)) x5318)

theorem spec_l3Row_n4_l (x5318 : Int) : Link spec_l3Row_ctx LL (Code.fst (Code.snd (bodyOf Tryd.f66))) (Ann.fst (Ann.snd spec_l3Row_an)) (⟨mkE 13 0 [(0, .dat (.int .i64) x5318)], []⟩ : St) (spec_l3Row_n4 x5318) (fun (t : Int) => (Exit.normal, (⟨mkE 13 0 [(0, .dat (.int .i64) t)], []⟩ : St))) := by
  unfold spec_l3Row_n4
  exact Link.cast (by kernel_rfl) (by kernel_rfl) (link_block (id := 0) (spec_l3Row_n3_l x5318) (fun (t : Int) => t) (by
  rintro t K h
  · exact Eq.mp (by kernel_rfl) h))

theorem spec_l3Row_n5_l (x5324 : Int) : Link spec_l3Row_ctx LL (Code.snd (Code.snd (bodyOf Tryd.f66))) (Ann.snd (Ann.snd spec_l3Row_an)) (⟨mkE 13 0 [(0, .dat (.int .i64) x5324)], []⟩ : St) (spec_l3Row_n5 x5324) (fun (t : Bool) => (Exit.ret, (⟨mkE 13 0 [(2, .dat .bool t)], []⟩ : St))) := by
  refine Link.of fun K h => ?_
  simp only [spec_l3Row_n5, wpO_bind, wpO_cond, wpO_map, wpO_some] at h
  exact Awp.of (by kernel_rfl) h

theorem spec_l3Row_n6_l (x5318 : Int) : Link spec_l3Row_ctx LL (Code.snd (bodyOf Tryd.f66)) (Ann.snd spec_l3Row_an) (⟨mkE 13 0 [(0, .dat (.int .i64) x5318)], []⟩ : St) (spec_l3Row_n6 x5318) (fun (t : Bool) => (Exit.ret, (⟨mkE 13 0 [(2, .dat .bool t)], []⟩ : St))) := by
  unfold spec_l3Row_n6
  exact Link.cast (by kernel_rfl) (by kernel_rfl) (link_seq (b := (Code.snd (Code.snd (bodyOf Tryd.f66)))) (y := (Ann.snd (Ann.snd spec_l3Row_an))) (spec_l3Row_n4_l x5318) (fun (t : Int) => (spec_l3Row_n5_l t)))

theorem spec_l3Row_n7_l (x5318 : Int) : Link spec_l3Row_ctx LL (bodyOf Tryd.f66) spec_l3Row_an (⟨mkE 13 0 [(0, .dat (.int .i64) x5318)], []⟩ : St) (spec_l3Row_n7 x5318) (fun (t : Bool) => (Exit.ret, (⟨mkE 13 0 [(2, .dat .bool t)], []⟩ : St))) := by
  unfold spec_l3Row_n7
  exact Link.cast (by kernel_rfl) (by kernel_rfl) (link_seq (b := (Code.snd (bodyOf Tryd.f66))) (y := (Ann.snd spec_l3Row_an)) (spec_l3Row_n1_l x5318) (fun (t : Unit) => (spec_l3Row_n6_l x5318)))

theorem spec_l3Row_e (x5318 : Int) {r : AV} {H' : Heap} (h : (Ans.mk _ (spec_l3Row x5318) (fun (t : Bool) => (.dat .bool t, [])) [] none).run = some (r, H')) : Awp spec_l3Row_ctx LL (bodyOf Tryd.f66) spec_l3Row_an (⟨mkE 13 0 [(0, .dat (.int .i64) x5318)], []⟩ : St) (Ret (tlook tys) Tryd.f66.results.toList r H') :=
  ret_of' (spec_l3Row_n7_l x5318) (by unfold spec_l3Row; kernel_rfl) (by
  intro t
  exact ret_mk [.dat .bool t] (by kernel_rfl) (by kernel_rfl) (by kernel_rfl) (by kernel_rfl)) h

def F_spec_l3Row : Fun := fun avs H =>
  match avs, H with
  | [.dat (.int .i64) x5318], [] => ⟨_, spec_l3Row x5318, fun (t : Bool) => (.dat .bool t, []), [], none⟩
  | _, _ => Ans.no

theorem spec_l3Row_sound : Sound Tryd.prog 66 F_spec_l3Row := by
  refine fn_sound' (C := spec_l3Row_ctx) (c := bodyOf Tryd.f66) (cok_of tys_ok (by simp) (by simp) (by kernel_rfl)) Tryd.func66 (by kernel_rfl) LL spec_l3Row_an ?_
  intro avs H r H' h
  unfold F_spec_l3Row at h
  split at h
  · refine Awp.cast ?_ ?_ ?_ (spec_l3Row_e _ h) <;> kernel_rfl
  · simp [Ans.no, Ans.run] at h


/-! loop.example/headtrees/spec.FlatOk -/

def spec_FlatOk_an : Ann := (.seq (.leaf [0]) (.seq (.seq (.leaf [0, 3]) (.block (.loop (.seq (.seq (.leaf [0, 3, 11]) (.cond (.leaf [0, 3]) (.leaf [0]))) (.seq (.block (.seq (.leaf [0, 3, 18]) (.cond (.seq (.leaf [2]) (.leaf [2])) (.leaf [0, 3])))) (.leaf [0, 3])))))) (.seq (.leaf [2]) (.leaf [2]))))

noncomputable def spec_FlatOk_ctx : Ctx := ⟨tlook tys, olook [(65, F_spec_TreeOk), (67, F_spec_l2Yield), (66, F_spec_l3Row)], ioF, 0, false, []⟩

theorem spec_FlatOk_n1_l (x5094 : List Int) : Link spec_FlatOk_ctx LL (Code.fst (bodyOf Tryd.f39)) (Ann.fst spec_FlatOk_an) (⟨mkE 21 0 [(0, .dat (.list (.int .i64)) x5094)], []⟩ : St) (spec_FlatOk_n1) (fun (t : Unit) => (Exit.normal, (⟨mkE 21 0 [(0, .dat (.list (.int .i64)) x5094)], []⟩ : St))) := by
  refine Link.of fun K h => ?_
  simp only [spec_FlatOk_n1, wpO_bind, wpO_cond, wpO_map, wpO_some] at h
  exact Awp.of (by kernel_rfl) h

theorem spec_FlatOk_n2_l (x5094 : List Int) : Link spec_FlatOk_ctx LL (Code.fst (Code.fst (Code.snd (bodyOf Tryd.f39)))) (Ann.fst (Ann.fst (Ann.snd spec_FlatOk_an))) (⟨mkE 21 0 [(0, .dat (.list (.int .i64)) x5094)], []⟩ : St) (spec_FlatOk_n2) (fun (t : Unit) => (Exit.normal, (⟨mkE 21 0 [(0, .dat (.list (.int .i64)) x5094), (3, .dat (.int .i64) 1)], []⟩ : St))) := by
  refine Link.of fun K h => ?_
  simp only [spec_FlatOk_n2, wpO_bind, wpO_cond, wpO_map, wpO_some] at h
  exact Awp.of (by kernel_rfl) h

theorem spec_FlatOk_n3_l (x5094 : List Int) (x5345 : Int) : Link spec_FlatOk_ctx LL (Code.fst (Code.fst (Code.snd (Code.fst (Code.snd (bodyOf Tryd.f39)))))) (Ann.fst (Ann.fst (Ann.snd (Ann.fst (Ann.snd spec_FlatOk_an))))) (⟨mkE 21 0 [(0, .dat (.list (.int .i64)) x5094), (3, .dat (.int .i64) x5345)], []⟩ : St) (spec_FlatOk_n3 x5094 x5345) (Sum.elim (fun (t : Int) => (Exit.normal, (⟨mkE 21 0 [(0, .dat (.list (.int .i64)) x5094), (3, .dat (.int .i64) t)], []⟩ : St))) (Sum.elim (fun (t : Bool) => (Exit.ret, (⟨mkE 21 0 [(2, .dat .bool t)], []⟩ : St))) (fun (t : Unit) => ((Exit.exit 0), (⟨mkE 21 0 [(0, .dat (.list (.int .i64)) x5094)], []⟩ : St))))) := by
  refine Link.of fun K h => ?_
  simp only [spec_FlatOk_n3, wpO_bind, wpO_cond, wpO_map, wpO_some] at h
  exact Awp.of (by kernel_rfl) h

theorem spec_FlatOk_n4_l (x5094 : List Int) : Link spec_FlatOk_ctx LL (Code.fst (Code.snd (Code.fst (Code.snd (bodyOf Tryd.f39))))) (Ann.fst (Ann.snd (Ann.fst (Ann.snd spec_FlatOk_an)))) (⟨mkE 21 0 [(0, .dat (.list (.int .i64)) x5094), (3, .dat (.int .i64) 1)], []⟩ : St) (spec_FlatOk_n4 x5094) (Sum.elim (fun (t : Bool) => (Exit.ret, (⟨mkE 21 0 [(2, .dat .bool t)], []⟩ : St))) (fun (t : Unit) => ((Exit.exit 0), (⟨mkE 21 0 [(0, .dat (.list (.int .i64)) x5094)], []⟩ : St)))) := by
  unfold spec_FlatOk_n4
  exact Link.cast (by kernel_rfl) (by kernel_rfl) (link_loop (mk := fun (s : Int) => (⟨mkE 21 0 [(0, .dat (.list (.int .i64)) x5094), (3, .dat (.int .i64) s)], []⟩ : St)) (fin := (Sum.elim (fun (t : Bool) => (Exit.ret, (⟨mkE 21 0 [(2, .dat .bool t)], []⟩ : St))) (fun (t : Unit) => ((Exit.exit 0), (⟨mkE 21 0 [(0, .dat (.list (.int .i64)) x5094)], []⟩ : St))))) (by
  rintro (t | t) f K h
  · exact h
  · exact h) (fun s => link_map (spec_FlatOk_n3_l x5094 s) (Sum.elim (fun (t : Int) => Sum.inl t) (Sum.elim (fun (t : Bool) => Sum.inr (Sum.inl t)) (fun (t : Unit) => Sum.inr (Sum.inr t)))) (by
  rintro (t | t | t)
  · kernel_rfl
  · kernel_rfl
  · kernel_rfl)) 1)

theorem spec_FlatOk_n5_l (x5094 : List Int) : Link spec_FlatOk_ctx LL (Code.snd (Code.fst (Code.snd (bodyOf Tryd.f39)))) (Ann.snd (Ann.fst (Ann.snd spec_FlatOk_an))) (⟨mkE 21 0 [(0, .dat (.list (.int .i64)) x5094), (3, .dat (.int .i64) 1)], []⟩ : St) (spec_FlatOk_n5 x5094) (Sum.elim (fun (t : Unit) => (Exit.normal, (⟨mkE 21 0 [(0, .dat (.list (.int .i64)) x5094)], []⟩ : St))) (fun (t : Bool) => (Exit.ret, (⟨mkE 21 0 [(2, .dat .bool t)], []⟩ : St)))) := by
  unfold spec_FlatOk_n5
  exact Link.cast (by kernel_rfl) (by kernel_rfl) (link_block (id := 0) (spec_FlatOk_n4_l x5094) (Sum.elim (fun (t : Bool) => (Sum.inr t)) (fun (t : Unit) => (Sum.inl ()))) (by
  rintro (t | t) K h
  · exact Eq.mp (by kernel_rfl) h
  · exact Eq.mp (by kernel_rfl) h))

theorem spec_FlatOk_n6_l (x5094 : List Int) : Link spec_FlatOk_ctx LL (Code.fst (Code.snd (bodyOf Tryd.f39))) (Ann.fst (Ann.snd spec_FlatOk_an)) (⟨mkE 21 0 [(0, .dat (.list (.int .i64)) x5094)], []⟩ : St) (spec_FlatOk_n6 x5094) (Sum.elim (fun (t : Unit) => (Exit.normal, (⟨mkE 21 0 [(0, .dat (.list (.int .i64)) x5094)], []⟩ : St))) (fun (t : Bool) => (Exit.ret, (⟨mkE 21 0 [(2, .dat .bool t)], []⟩ : St)))) := by
  unfold spec_FlatOk_n6
  exact Link.cast (by kernel_rfl) (by kernel_rfl) (link_seq (b := (Code.snd (Code.fst (Code.snd (bodyOf Tryd.f39))))) (y := (Ann.snd (Ann.fst (Ann.snd spec_FlatOk_an)))) (spec_FlatOk_n2_l x5094) (fun (t : Unit) => (spec_FlatOk_n5_l x5094)))

theorem spec_FlatOk_n7_l (x5094 : List Int) : Link spec_FlatOk_ctx LL (Code.snd (Code.snd (bodyOf Tryd.f39))) (Ann.snd (Ann.snd spec_FlatOk_an)) (⟨mkE 21 0 [(0, .dat (.list (.int .i64)) x5094)], []⟩ : St) (spec_FlatOk_n7 x5094) (fun (t : Bool) => (Exit.ret, (⟨mkE 21 0 [(2, .dat .bool t)], []⟩ : St))) := by
  refine Link.of fun K h => ?_
  simp only [spec_FlatOk_n7, wpO_bind, wpO_cond, wpO_map, wpO_some] at h
  exact Awp.of (by kernel_rfl) h

theorem spec_FlatOk_n8_l (x5094 : List Int) : Link spec_FlatOk_ctx LL (Code.snd (bodyOf Tryd.f39)) (Ann.snd spec_FlatOk_an) (⟨mkE 21 0 [(0, .dat (.list (.int .i64)) x5094)], []⟩ : St) (spec_FlatOk_n8 x5094) (fun (t : Bool) => (Exit.ret, (⟨mkE 21 0 [(2, .dat .bool t)], []⟩ : St))) := by
  unfold spec_FlatOk_n8
  exact Link.cast (by kernel_rfl) (by kernel_rfl) (link_seq2 (b := (Code.snd (Code.snd (bodyOf Tryd.f39)))) (y := (Ann.snd (Ann.snd spec_FlatOk_an))) (spec_FlatOk_n6_l x5094) (fun (t : Unit) => (spec_FlatOk_n7_l x5094)) (fun (t : Bool) => t) (by
  rintro t
  · kernel_rfl) (by
  rintro t f K h
  · exact h))

theorem spec_FlatOk_n9_l (x5094 : List Int) : Link spec_FlatOk_ctx LL (bodyOf Tryd.f39) spec_FlatOk_an (⟨mkE 21 0 [(0, .dat (.list (.int .i64)) x5094)], []⟩ : St) (spec_FlatOk_n9 x5094) (fun (t : Bool) => (Exit.ret, (⟨mkE 21 0 [(2, .dat .bool t)], []⟩ : St))) := by
  unfold spec_FlatOk_n9
  exact Link.cast (by kernel_rfl) (by kernel_rfl) (link_seq (b := (Code.snd (bodyOf Tryd.f39))) (y := (Ann.snd spec_FlatOk_an)) (spec_FlatOk_n1_l x5094) (fun (t : Unit) => (spec_FlatOk_n8_l x5094)))

theorem spec_FlatOk_e (x5094 : List Int) {r : AV} {H' : Heap} (h : (Ans.mk _ (spec_FlatOk x5094) (fun (t : Bool) => (.dat .bool t, [])) [] none).run = some (r, H')) : Awp spec_FlatOk_ctx LL (bodyOf Tryd.f39) spec_FlatOk_an (⟨mkE 21 0 [(0, .dat (.list (.int .i64)) x5094)], []⟩ : St) (Ret (tlook tys) Tryd.f39.results.toList r H') :=
  ret_of' (spec_FlatOk_n9_l x5094) (by unfold spec_FlatOk; kernel_rfl) (by
  intro t
  exact ret_mk [.dat .bool t] (by kernel_rfl) (by kernel_rfl) (by kernel_rfl) (by kernel_rfl)) h

def F_spec_FlatOk : Fun := fun avs H =>
  match avs, H with
  | [.dat (.list (.int .i64)) x5094], [] => ⟨_, spec_FlatOk x5094, fun (t : Bool) => (.dat .bool t, []), [], none⟩
  | _, _ => Ans.no

theorem spec_FlatOk_sound : Sound Tryd.prog 39 F_spec_FlatOk := by
  refine fn_sound' (C := spec_FlatOk_ctx) (c := bodyOf Tryd.f39) (cok_of tys_ok (List.forall_mem_cons.2 ⟨spec_TreeOk_sound, List.forall_mem_cons.2 ⟨spec_l2Yield_sound, List.forall_mem_cons.2 ⟨spec_l3Row_sound, by simp⟩⟩⟩) (List.forall_mem_cons.2 ⟨Tryd.call65, List.forall_mem_cons.2 ⟨Tryd.call67, List.forall_mem_cons.2 ⟨Tryd.call66, by simp⟩⟩⟩) (by kernel_rfl)) Tryd.func39 (by kernel_rfl) LL spec_FlatOk_an ?_
  intro avs H r H' h
  unfold F_spec_FlatOk at h
  split at h
  · refine Awp.cast ?_ ?_ ?_ (spec_FlatOk_e _ h) <;> kernel_rfl
  · simp [Ans.no, Ans.run] at h


/-! loop.example/headtrees/spec.l6Free -/

def spec_l6Free_an : Ann := (.seq (.leaf [0, 1, 2]) (.seq (.seq (.leaf [0, 1, 2, 7]) (.block (.loop (.seq (.seq (.leaf [0, 1, 2, 7, 11]) (.cond (.leaf [0, 1, 2, 7]) (.leaf []))) (.seq (.block (.seq (.leaf [0, 1, 2, 7, 26]) (.cond (.seq (.leaf [6]) (.leaf [6])) (.leaf [0, 1, 2, 7])))) (.leaf [0, 1, 2, 7])))))) (.seq (.leaf [6]) (.leaf [6]))))

noncomputable def spec_l6Free_ctx : Ctx := ⟨tlook tys, olook [], ioF, 0, false, []⟩

theorem spec_l6Free_n1_l (x5407 : List Int) (x5408 : Int) (x5409 : List Bool) : Link spec_l6Free_ctx LL (Code.fst (bodyOf Tryd.f40)) (Ann.fst spec_l6Free_an) (⟨mkE 27 0 [(0, .dat (.list (.int .i64)) x5407), (1, .dat (.int .i64) x5408), (2, .dat (.list .bool) x5409)], []⟩ : St) (spec_l6Free_n1) (fun (t : Unit) => (Exit.normal, (⟨mkE 27 0 [(0, .dat (.list (.int .i64)) x5407), (1, .dat (.int .i64) x5408), (2, .dat (.list .bool) x5409)], []⟩ : St))) := by
  refine Link.of fun K h => ?_
  simp only [spec_l6Free_n1, wpO_bind, wpO_cond, wpO_map, wpO_some] at h
  exact Awp.of (by kernel_rfl) h

theorem spec_l6Free_n2_l (x5407 : List Int) (x5408 : Int) (x5409 : List Bool) : Link spec_l6Free_ctx LL (Code.fst (Code.fst (Code.snd (bodyOf Tryd.f40)))) (Ann.fst (Ann.fst (Ann.snd spec_l6Free_an))) (⟨mkE 27 0 [(0, .dat (.list (.int .i64)) x5407), (1, .dat (.int .i64) x5408), (2, .dat (.list .bool) x5409)], []⟩ : St) (spec_l6Free_n2) (fun (t : Unit) => (Exit.normal, (⟨mkE 27 0 [(0, .dat (.list (.int .i64)) x5407), (1, .dat (.int .i64) x5408), (2, .dat (.list .bool) x5409), (7, .dat (.int .i64) 0)], []⟩ : St))) := by
  refine Link.of fun K h => ?_
  simp only [spec_l6Free_n2, wpO_bind, wpO_cond, wpO_map, wpO_some] at h
  exact Awp.of (by kernel_rfl) h

theorem spec_l6Free_n3_l (x5407 : List Int) (x5408 : Int) (x5409 : List Bool) (x5427 : Int) : Link spec_l6Free_ctx LL (Code.fst (Code.fst (Code.snd (Code.fst (Code.snd (bodyOf Tryd.f40)))))) (Ann.fst (Ann.fst (Ann.snd (Ann.fst (Ann.snd spec_l6Free_an))))) (⟨mkE 27 0 [(0, .dat (.list (.int .i64)) x5407), (1, .dat (.int .i64) x5408), (2, .dat (.list .bool) x5409), (7, .dat (.int .i64) x5427)], []⟩ : St) (spec_l6Free_n3 x5407 x5408 x5409 x5427) (Sum.elim (fun (t : Int) => (Exit.normal, (⟨mkE 27 0 [(0, .dat (.list (.int .i64)) x5407), (1, .dat (.int .i64) x5408), (2, .dat (.list .bool) x5409), (7, .dat (.int .i64) t)], []⟩ : St))) (Sum.elim (fun (t : Bool) => (Exit.ret, (⟨mkE 27 0 [(6, .dat .bool t)], []⟩ : St))) (fun (t : Unit) => ((Exit.exit 0), (⟨mkE 27 0 [], []⟩ : St))))) := by
  refine Link.of fun K h => ?_
  simp only [spec_l6Free_n3, wpO_bind, wpO_cond, wpO_map, wpO_some] at h
  exact Awp.of (by kernel_rfl) h

theorem spec_l6Free_n4_l (x5407 : List Int) (x5408 : Int) (x5409 : List Bool) : Link spec_l6Free_ctx LL (Code.fst (Code.snd (Code.fst (Code.snd (bodyOf Tryd.f40))))) (Ann.fst (Ann.snd (Ann.fst (Ann.snd spec_l6Free_an)))) (⟨mkE 27 0 [(0, .dat (.list (.int .i64)) x5407), (1, .dat (.int .i64) x5408), (2, .dat (.list .bool) x5409), (7, .dat (.int .i64) 0)], []⟩ : St) (spec_l6Free_n4 x5407 x5408 x5409) (Sum.elim (fun (t : Bool) => (Exit.ret, (⟨mkE 27 0 [(6, .dat .bool t)], []⟩ : St))) (fun (t : Unit) => ((Exit.exit 0), (⟨mkE 27 0 [], []⟩ : St)))) := by
  unfold spec_l6Free_n4
  exact Link.cast (by kernel_rfl) (by kernel_rfl) (link_loop (mk := fun (s : Int) => (⟨mkE 27 0 [(0, .dat (.list (.int .i64)) x5407), (1, .dat (.int .i64) x5408), (2, .dat (.list .bool) x5409), (7, .dat (.int .i64) s)], []⟩ : St)) (fin := (Sum.elim (fun (t : Bool) => (Exit.ret, (⟨mkE 27 0 [(6, .dat .bool t)], []⟩ : St))) (fun (t : Unit) => ((Exit.exit 0), (⟨mkE 27 0 [], []⟩ : St))))) (by
  rintro (t | t) f K h
  · exact h
  · exact h) (fun s => link_map (spec_l6Free_n3_l x5407 x5408 x5409 s) (Sum.elim (fun (t : Int) => Sum.inl t) (Sum.elim (fun (t : Bool) => Sum.inr (Sum.inl t)) (fun (t : Unit) => Sum.inr (Sum.inr t)))) (by
  rintro (t | t | t)
  · kernel_rfl
  · kernel_rfl
  · kernel_rfl)) 0)

theorem spec_l6Free_n5_l (x5407 : List Int) (x5408 : Int) (x5409 : List Bool) : Link spec_l6Free_ctx LL (Code.snd (Code.fst (Code.snd (bodyOf Tryd.f40)))) (Ann.snd (Ann.fst (Ann.snd spec_l6Free_an))) (⟨mkE 27 0 [(0, .dat (.list (.int .i64)) x5407), (1, .dat (.int .i64) x5408), (2, .dat (.list .bool) x5409), (7, .dat (.int .i64) 0)], []⟩ : St) (spec_l6Free_n5 x5407 x5408 x5409) (Sum.elim (fun (t : Unit) => (Exit.normal, (⟨mkE 27 0 [], []⟩ : St))) (fun (t : Bool) => (Exit.ret, (⟨mkE 27 0 [(6, .dat .bool t)], []⟩ : St)))) := by
  unfold spec_l6Free_n5
  exact Link.cast (by kernel_rfl) (by kernel_rfl) (link_block (id := 0) (spec_l6Free_n4_l x5407 x5408 x5409) (Sum.elim (fun (t : Bool) => (Sum.inr t)) (fun (t : Unit) => (Sum.inl ()))) (by
  rintro (t | t) K h
  · exact Eq.mp (by kernel_rfl) h
  · exact Eq.mp (by kernel_rfl) h))

theorem spec_l6Free_n6_l (x5407 : List Int) (x5408 : Int) (x5409 : List Bool) : Link spec_l6Free_ctx LL (Code.fst (Code.snd (bodyOf Tryd.f40))) (Ann.fst (Ann.snd spec_l6Free_an)) (⟨mkE 27 0 [(0, .dat (.list (.int .i64)) x5407), (1, .dat (.int .i64) x5408), (2, .dat (.list .bool) x5409)], []⟩ : St) (spec_l6Free_n6 x5407 x5408 x5409) (Sum.elim (fun (t : Unit) => (Exit.normal, (⟨mkE 27 0 [], []⟩ : St))) (fun (t : Bool) => (Exit.ret, (⟨mkE 27 0 [(6, .dat .bool t)], []⟩ : St)))) := by
  unfold spec_l6Free_n6
  exact Link.cast (by kernel_rfl) (by kernel_rfl) (link_seq (b := (Code.snd (Code.fst (Code.snd (bodyOf Tryd.f40))))) (y := (Ann.snd (Ann.fst (Ann.snd spec_l6Free_an)))) (spec_l6Free_n2_l x5407 x5408 x5409) (fun (t : Unit) => (spec_l6Free_n5_l x5407 x5408 x5409)))

theorem spec_l6Free_n7_l : Link spec_l6Free_ctx LL (Code.snd (Code.snd (bodyOf Tryd.f40))) (Ann.snd (Ann.snd spec_l6Free_an)) (⟨mkE 27 0 [], []⟩ : St) (spec_l6Free_n7) (fun (t : Bool) => (Exit.ret, (⟨mkE 27 0 [(6, .dat .bool t)], []⟩ : St))) := by
  refine Link.of fun K h => ?_
  simp only [spec_l6Free_n7, wpO_bind, wpO_cond, wpO_map, wpO_some] at h
  exact Awp.of (by kernel_rfl) h

theorem spec_l6Free_n8_l (x5407 : List Int) (x5408 : Int) (x5409 : List Bool) : Link spec_l6Free_ctx LL (Code.snd (bodyOf Tryd.f40)) (Ann.snd spec_l6Free_an) (⟨mkE 27 0 [(0, .dat (.list (.int .i64)) x5407), (1, .dat (.int .i64) x5408), (2, .dat (.list .bool) x5409)], []⟩ : St) (spec_l6Free_n8 x5407 x5408 x5409) (fun (t : Bool) => (Exit.ret, (⟨mkE 27 0 [(6, .dat .bool t)], []⟩ : St))) := by
  unfold spec_l6Free_n8
  exact Link.cast (by kernel_rfl) (by kernel_rfl) (link_seq2 (b := (Code.snd (Code.snd (bodyOf Tryd.f40)))) (y := (Ann.snd (Ann.snd spec_l6Free_an))) (spec_l6Free_n6_l x5407 x5408 x5409) (fun (t : Unit) => (spec_l6Free_n7_l)) (fun (t : Bool) => t) (by
  rintro t
  · kernel_rfl) (by
  rintro t f K h
  · exact h))

theorem spec_l6Free_n9_l (x5407 : List Int) (x5408 : Int) (x5409 : List Bool) : Link spec_l6Free_ctx LL (bodyOf Tryd.f40) spec_l6Free_an (⟨mkE 27 0 [(0, .dat (.list (.int .i64)) x5407), (1, .dat (.int .i64) x5408), (2, .dat (.list .bool) x5409)], []⟩ : St) (spec_l6Free_n9 x5407 x5408 x5409) (fun (t : Bool) => (Exit.ret, (⟨mkE 27 0 [(6, .dat .bool t)], []⟩ : St))) := by
  unfold spec_l6Free_n9
  exact Link.cast (by kernel_rfl) (by kernel_rfl) (link_seq (b := (Code.snd (bodyOf Tryd.f40))) (y := (Ann.snd spec_l6Free_an)) (spec_l6Free_n1_l x5407 x5408 x5409) (fun (t : Unit) => (spec_l6Free_n8_l x5407 x5408 x5409)))

theorem spec_l6Free_e (x5407 : List Int) (x5408 : Int) (x5409 : List Bool) {r : AV} {H' : Heap} (h : (Ans.mk _ (spec_l6Free x5407 x5408 x5409) (fun (t : Bool) => (.dat .bool t, [])) [] none).run = some (r, H')) : Awp spec_l6Free_ctx LL (bodyOf Tryd.f40) spec_l6Free_an (⟨mkE 27 0 [(0, .dat (.list (.int .i64)) x5407), (1, .dat (.int .i64) x5408), (2, .dat (.list .bool) x5409)], []⟩ : St) (Ret (tlook tys) Tryd.f40.results.toList r H') :=
  ret_of' (spec_l6Free_n9_l x5407 x5408 x5409) (by unfold spec_l6Free; kernel_rfl) (by
  intro t
  exact ret_mk [.dat .bool t] (by kernel_rfl) (by kernel_rfl) (by kernel_rfl) (by kernel_rfl)) h

def F_spec_l6Free : Fun := fun avs H =>
  match avs, H with
  | [.dat (.list (.int .i64)) x5407, .dat (.int .i64) x5408, .dat (.list .bool) x5409], [] => ⟨_, spec_l6Free x5407 x5408 x5409, fun (t : Bool) => (.dat .bool t, []), [], none⟩
  | _, _ => Ans.no

theorem spec_l6Free_sound : Sound Tryd.prog 40 F_spec_l6Free := by
  refine fn_sound' (C := spec_l6Free_ctx) (c := bodyOf Tryd.f40) (cok_of tys_ok (by simp) (by simp) (by kernel_rfl)) Tryd.func40 (by kernel_rfl) LL spec_l6Free_an ?_
  intro avs H r H' h
  unfold F_spec_l6Free at h
  split at h
  · refine Awp.cast ?_ ?_ ?_ (spec_l6Free_e _ _ _ h) <;> kernel_rfl
  · simp [Ans.no, Ans.run] at h


/-! loop.example/headtrees/spec.MovesFor -/

def spec_MovesFor_an : Ann := (.seq (.leaf [0]) (.seq (.seq (.leaf [0, 11]) (.cond (.seq (.leaf [2, 3]) (.leaf [2, 3])) (.leaf [0]))) (.seq (.leaf [0, 4]) (.seq (.leaf [0, 4, 5]) (.seq (.leaf [0, 4, 5, 6]) (.seq (.leaf [0, 4, 5, 6, 7]) (.seq (.block (.loop (.seq (.seq (.leaf [0, 4, 5, 6, 7, 24]) (.cond (.leaf [0, 4, 5, 6, 7]) (.leaf [6]))) (.block (.seq (.leaf [0, 4, 5, 6, 7, 8]) (.block (.seq (.draw [26] [0, 1, 2, 3, 4, 5, 6, 7, 8, 9, 10, 11, 12, 13, 14, 15, 16, 17, 18, 19, 20, 21, 22, 23, 24, 25, 26, 27, 28] [] [0, 4, 5, 6, 7, 8, 36]) (.cond (.seq (.leaf [0, 4, 5, 6, 7, 8]) (.seq (.leaf [0, 4, 5, 6, 7, 8]) (.draw [5, 0, 10] [0, 1, 2, 3, 4, 6, 7, 8, 9, 10, 5, 11, 12] [] [0, 4, 5, 6, 7]))) (.seq (.draw [25] [0, 1, 2, 3, 4, 5, 6, 7, 8, 9, 10, 11, 12, 13, 14, 15, 16, 17, 18, 19, 20, 21, 22, 23, 24, 25, 26, 27] [] [0, 4, 5, 6, 7, 8, 87]) (.cond (.seq (.leaf [0, 4, 5, 6, 7, 8]) (.seq (.leaf [0, 4, 5, 6, 7, 8]) (.leaf [0, 4, 5, 6, 7]))) (.seq (.leaf [0, 4, 5, 6, 7]) (.seq (.leaf [0, 4, 5, 6, 7]) (.leaf [0, 4, 5, 6, 7]))))))))))))) (.seq (.leaf [2, 3]) (.leaf [2, 3])))))))))

noncomputable def spec_MovesFor_ctx : Ctx := ⟨tlook tys, olook [(39, F_spec_FlatOk), (40, F_spec_l6Free)], ioF, 0, false, []⟩

theorem spec_MovesFor_n1_l (x5093 : List Int) : Link spec_MovesFor_ctx LL (Code.seq (Code.fst (bodyOf Tryd.f17)) (Code.seq (Code.fst (Code.snd (bodyOf Tryd.f17))) (Code.seq (Code.fst (Code.snd (Code.snd (bodyOf Tryd.f17)))) (Code.seq (Code.fst (Code.snd (Code.snd (Code.snd (bodyOf Tryd.f17))))) (Code.seq (Code.fst (Code.snd (Code.snd (Code.snd (Code.snd (bodyOf Tryd.f17)))))) (Code.fst (Code.snd (Code.snd (Code.snd (Code.snd (Code.snd (bodyOf Tryd.f17)))))))))))) (Ann.seq (Ann.fst spec_MovesFor_an) (Ann.seq (Ann.fst (Ann.snd spec_MovesFor_an)) (Ann.seq (Ann.fst (Ann.snd (Ann.snd spec_MovesFor_an))) (Ann.seq (Ann.fst (Ann.snd (Ann.snd (Ann.snd spec_MovesFor_an)))) (Ann.seq (Ann.fst (Ann.snd (Ann.snd (Ann.snd (Ann.snd spec_MovesFor_an))))) (Ann.fst (Ann.snd (Ann.snd (Ann.snd (Ann.snd (Ann.snd spec_MovesFor_an))))))))))) (⟨mkE 130 0 [(0, .dat (.list (.int .i64)) x5093)], []⟩ : St) (spec_MovesFor_n1 x5093) (Sum.elim (fun (t : (List Bool)) => (Exit.normal, (⟨mkE 130 0 [(0, .dat (.list (.int .i64)) x5093), (4, .slc 0), (5, .slc 1), (6, .dat .str ByteArray.empty), (7, .dat (.int .i64) 1)], [some (.seq .bool t), some (.seq (.int .i64) ([] : List Int))]⟩ : St))) (fun (t : ByteArray × Bool) => (Exit.ret, (⟨mkE 130 0 [(2, .dat .str t.1), (3, .dat .bool t.2)], []⟩ : St)))) := by
  refine Link.of fun K h => ?_
  simp only [spec_MovesFor_n1, wpO_bind, wpO_cond, wpO_map, wpO_some] at h
  exact Awp.of (by kernel_rfl) h

theorem spec_MovesFor_n2_l (x5093 : List Int) (x5927 : ByteArray) (x5928 : Int) (x5929 : List Bool) (x5930 : List Int) : Link spec_MovesFor_ctx LL (Code.fst (Code.fst (Code.fst (Code.fst (Code.snd (Code.snd (Code.snd (Code.snd (Code.snd (Code.snd (bodyOf Tryd.f17))))))))))) (Ann.fst (Ann.fst (Ann.fst (Ann.fst (Ann.snd (Ann.snd (Ann.snd (Ann.snd (Ann.snd (Ann.snd spec_MovesFor_an)))))))))) (⟨mkE 130 0 [(0, .dat (.list (.int .i64)) x5093), (4, .slc 0), (5, .slc 1), (6, .dat .str x5927), (7, .dat (.int .i64) x5928)], [some (.seq .bool x5929), some (.seq (.int .i64) x5930)]⟩ : St) (spec_MovesFor_n2 x5093 x5927 x5928 x5930) (Sum.elim (fun (t : Unit) => (Exit.normal, (⟨mkE 130 0 [(0, .dat (.list (.int .i64)) x5093), (4, .slc 0), (5, .slc 1), (6, .dat .str x5927), (7, .dat (.int .i64) x5928)], [some (.seq .bool x5929), some (.seq (.int .i64) x5930)]⟩ : St))) (fun (t : ByteArray) => ((Exit.exit 0), (⟨mkE 130 0 [(6, .dat .str t)], []⟩ : St)))) := by
  refine Link.of fun K h => ?_
  simp only [spec_MovesFor_n2, wpO_bind, wpO_cond, wpO_map, wpO_some] at h
  exact Awp.of (by kernel_rfl) h

theorem spec_MovesFor_n3_l (x5093 : List Int) (x5927 : ByteArray) (x5928 : Int) (x5929 : List Bool) (x5930 : List Int) : Link spec_MovesFor_ctx LL (Code.snd (Code.fst (Code.fst (Code.fst (Code.snd (Code.snd (Code.snd (Code.snd (Code.snd (Code.snd (bodyOf Tryd.f17))))))))))) (Ann.snd (Ann.fst (Ann.fst (Ann.fst (Ann.snd (Ann.snd (Ann.snd (Ann.snd (Ann.snd (Ann.snd spec_MovesFor_an)))))))))) (⟨mkE 130 0 [(0, .dat (.list (.int .i64)) x5093), (4, .slc 0), (5, .slc 1), (6, .dat .str x5927), (7, .dat (.int .i64) x5928)], [some (.seq .bool x5929), some (.seq (.int .i64) x5930)]⟩ : St) (spec_MovesFor_n3 x5093 x5927 x5928 x5929 x5930) (fun (t : ByteArray × Int × (List Bool) × (List Int)) => (Exit.normal, (⟨mkE 130 0 [(0, .dat (.list (.int .i64)) x5093), (4, .slc 0), (5, .slc 1), (6, .dat .str t.1), (7, .dat (.int .i64) t.2.1)], [some (.seq .bool t.2.2.1), some (.seq (.int .i64) t.2.2.2)]⟩ : St))) := by
  refine Link.of fun K h => ?_
  simp only [spec_MovesFor_n3, wpO_bind, wpO_cond, wpO_map, wpO_some] at h
  exact Awp.of (by kernel_rfl) h

theorem spec_MovesFor_n4_l (x5093 : List Int) (x5927 : ByteArray) (x5928 : Int) (x5929 : List Bool) (x5930 : List Int) : Link spec_MovesFor_ctx LL (Code.fst (Code.fst (Code.fst (Code.snd (Code.snd (Code.snd (Code.snd (Code.snd (Code.snd (bodyOf Tryd.f17)))))))))) (Ann.fst (Ann.fst (Ann.fst (Ann.snd (Ann.snd (Ann.snd (Ann.snd (Ann.snd (Ann.snd spec_MovesFor_an))))))))) (⟨mkE 130 0 [(0, .dat (.list (.int .i64)) x5093), (4, .slc 0), (5, .slc 1), (6, .dat .str x5927), (7, .dat (.int .i64) x5928)], [some (.seq .bool x5929), some (.seq (.int .i64) x5930)]⟩ : St) (spec_MovesFor_n4 x5093 x5927 x5928 x5929 x5930) (Sum.elim (fun (t : ByteArray × Int × (List Bool) × (List Int)) => (Exit.normal, (⟨mkE 130 0 [(0, .dat (.list (.int .i64)) x5093), (4, .slc 0), (5, .slc 1), (6, .dat .str t.1), (7, .dat (.int .i64) t.2.1)], [some (.seq .bool t.2.2.1), some (.seq (.int .i64) t.2.2.2)]⟩ : St))) (fun (t : ByteArray) => ((Exit.exit 0), (⟨mkE 130 0 [(6, .dat .str t)], []⟩ : St)))) := by
  unfold spec_MovesFor_n4
  exact Link.cast (by kernel_rfl) (by kernel_rfl) (link_seq2 (b := (Code.snd (Code.fst (Code.fst (Code.fst (Code.snd (Code.snd (Code.snd (Code.snd (Code.snd (Code.snd (bodyOf Tryd.f17)))))))))))) (y := (Ann.snd (Ann.fst (Ann.fst (Ann.fst (Ann.snd (Ann.snd (Ann.snd (Ann.snd (Ann.snd (Ann.snd spec_MovesFor_an))))))))))) (spec_MovesFor_n2_l x5093 x5927 x5928 x5929 x5930) (fun (t : Unit) => (link_map (spec_MovesFor_n3_l x5093 x5927 x5928 x5929 x5930) (fun (t : ByteArray × Int × (List Bool) × (List Int)) => (Sum.inl (t.1, t.2.1, t.2.2.1, t.2.2.2))) (by
  rintro t
  · kernel_rfl))) (fun (t : ByteArray) => (Sum.inr t)) (by
  rintro t
  · kernel_rfl) (by
  rintro t f K h
  · exact h))

theorem spec_MovesFor_n5_l (x5093 : List Int) (x5529 : List Bool) : Link spec_MovesFor_ctx LL (Code.fst (Code.fst (Code.snd (Code.snd (Code.snd (Code.snd (Code.snd (Code.snd (bodyOf Tryd.f17))))))))) (Ann.fst (Ann.fst (Ann.snd (Ann.snd (Ann.snd (Ann.snd (Ann.snd (Ann.snd spec_MovesFor_an)))))))) (⟨mkE 130 0 [(0, .dat (.list (.int .i64)) x5093), (4, .slc 0), (5, .slc 1), (6, .dat .str ByteArray.empty), (7, .dat (.int .i64) 1)], [some (.seq .bool x5529), some (.seq (.int .i64) ([] : List Int))]⟩ : St) (spec_MovesFor_n5 x5093 x5529) (fun (t : ByteArray) => ((Exit.exit 0), (⟨mkE 130 0 [(6, .dat .str t)], []⟩ : St))) := by
  unfold spec_MovesFor_n5
  exact Link.cast (by kernel_rfl) (by kernel_rfl) (link_loop (mk := fun (s : ByteArray × Int × (List Bool) × (List Int)) => (⟨mkE 130 0 [(0, .dat (.list (.int .i64)) x5093), (4, .slc 0), (5, .slc 1), (6, .dat .str s.1), (7, .dat (.int .i64) s.2.1)], [some (.seq .bool s.2.2.1), some (.seq (.int .i64) s.2.2.2)]⟩ : St)) (fin := (fun (t : ByteArray) => ((Exit.exit 0), (⟨mkE 130 0 [(6, .dat .str t)], []⟩ : St)))) (by
  rintro t f K h
  · exact h) (fun s => link_map (spec_MovesFor_n4_l x5093 s.1 s.2.1 s.2.2.1 s.2.2.2) (Sum.elim (fun (t : ByteArray × Int × (List Bool) × (List Int)) => Sum.inl (t.1, t.2.1, t.2.2.1, t.2.2.2)) (fun (t : ByteArray) => Sum.inr t)) (by
  rintro (t | t)
  · kernel_rfl
  · kernel_rfl)) (ByteArray.empty, 1, x5529, ([] : List Int)))

theorem spec_MovesFor_n6_l (x5093 : List Int) (x5529 : List Bool) : Link spec_MovesFor_ctx LL (Code.fst (Code.snd (Code.snd (Code.snd (Code.snd (Code.snd (Code.snd (bodyOf Tryd.f17)))))))) (Ann.fst (Ann.snd (Ann.snd (Ann.snd (Ann.snd (Ann.snd (Ann.snd spec_MovesFor_an))))))) (⟨mkE 130 0 [(0, .dat (.list (.int .i64)) x5093), (4, .slc 0), (5, .slc 1), (6, .dat .str ByteArray.empty), (7, .dat (.int .i64) 1)], [some (.seq .bool x5529), some (.seq (.int .i64) ([] : List Int))]⟩ : St) (spec_MovesFor_n6 x5093 x5529) (fun (t : ByteArray) => (Exit.normal, (⟨mkE 130 0 [(6, .dat .str t)], []⟩ : St))) := by
  unfold spec_MovesFor_n6
  exact Link.cast (by kernel_rfl) (by kernel_rfl) (link_block (id := 0) (spec_MovesFor_n5_l x5093 x5529) (fun (t : ByteArray) => t) (by
  rintro t K h
  · exact Eq.mp (by kernel_rfl) h))

theorem spec_MovesFor_n7_l (x5927 : ByteArray) : Link spec_MovesFor_ctx LL (Code.snd (Code.snd (Code.snd (Code.snd (Code.snd (Code.snd (Code.snd (bodyOf Tryd.f17)))))))) (Ann.snd (Ann.snd (Ann.snd (Ann.snd (Ann.snd (Ann.snd (Ann.snd spec_MovesFor_an))))))) (⟨mkE 130 0 [(6, .dat .str x5927)], []⟩ : St) (spec_MovesFor_n7 x5927) (fun (t : ByteArray × Bool) => (Exit.ret, (⟨mkE 130 0 [(2, .dat .str t.1), (3, .dat .bool t.2)], []⟩ : St))) := by
  refine Link.of fun K h => ?_
  simp only [spec_MovesFor_n7, wpO_bind, wpO_cond, wpO_map, wpO_some] at h
  exact Awp.of (by kernel_rfl) h

theorem spec_MovesFor_n8_l (x5093 : List Int) (x5529 : List Bool) : Link spec_MovesFor_ctx LL (Code.snd (Code.snd (Code.snd (Code.snd (Code.snd (Code.snd (bodyOf Tryd.f17))))))) (Ann.snd (Ann.snd (Ann.snd (Ann.snd (Ann.snd (Ann.snd spec_MovesFor_an)))))) (⟨mkE 130 0 [(0, .dat (.list (.int .i64)) x5093), (4, .slc 0), (5, .slc 1), (6, .dat .str ByteArray.empty), (7, .dat (.int .i64) 1)], [some (.seq .bool x5529), some (.seq (.int .i64) ([] : List Int))]⟩ : St) (spec_MovesFor_n8 x5093 x5529) (fun (t : ByteArray × Bool) => (Exit.ret, (⟨mkE 130 0 [(2, .dat .str t.1), (3, .dat .bool t.2)], []⟩ : St))) := by
  unfold spec_MovesFor_n8
  exact Link.cast (by kernel_rfl) (by kernel_rfl) (link_seq (b := (Code.snd (Code.snd (Code.snd (Code.snd (Code.snd (Code.snd (Code.snd (bodyOf Tryd.f17))))))))) (y := (Ann.snd (Ann.snd (Ann.snd (Ann.snd (Ann.snd (Ann.snd (Ann.snd spec_MovesFor_an)))))))) (spec_MovesFor_n6_l x5093 x5529) (fun (t : ByteArray) => (spec_MovesFor_n7_l t)))

theorem spec_MovesFor_n9_l (x5093 : List Int) : Link spec_MovesFor_ctx LL (bodyOf Tryd.f17) spec_MovesFor_an (⟨mkE 130 0 [(0, .dat (.list (.int .i64)) x5093)], []⟩ : St) (spec_MovesFor_n9 x5093) (fun (t : ByteArray × Bool) => (Exit.ret, (⟨mkE 130 0 [(2, .dat .str t.1), (3, .dat .bool t.2)], []⟩ : St))) := by
  unfold spec_MovesFor_n9
  exact Link.cast (by kernel_rfl) (by kernel_rfl) (link_group (c := (Code.fst (Code.snd (Code.snd (Code.snd (Code.snd (Code.snd (bodyOf Tryd.f17)))))))) (a := (Ann.fst (Ann.snd (Ann.snd (Ann.snd (Ann.snd (Ann.snd spec_MovesFor_an))))))) [(Code.fst (bodyOf Tryd.f17)), (Code.fst (Code.snd (bodyOf Tryd.f17))), (Code.fst (Code.snd (Code.snd (bodyOf Tryd.f17)))), (Code.fst (Code.snd (Code.snd (Code.snd (bodyOf Tryd.f17))))), (Code.fst (Code.snd (Code.snd (Code.snd (Code.snd (bodyOf Tryd.f17))))))] [(Ann.fst spec_MovesFor_an), (Ann.fst (Ann.snd spec_MovesFor_an)), (Ann.fst (Ann.snd (Ann.snd spec_MovesFor_an))), (Ann.fst (Ann.snd (Ann.snd (Ann.snd spec_MovesFor_an)))), (Ann.fst (Ann.snd (Ann.snd (Ann.snd (Ann.snd spec_MovesFor_an)))))] rfl (link_seq2 (b := (Code.snd (Code.snd (Code.snd (Code.snd (Code.snd (Code.snd (bodyOf Tryd.f17)))))))) (y := (Ann.snd (Ann.snd (Ann.snd (Ann.snd (Ann.snd (Ann.snd spec_MovesFor_an))))))) (spec_MovesFor_n1_l x5093) (fun (t : (List Bool)) => (spec_MovesFor_n8_l x5093 t)) (fun (t : ByteArray × Bool) => t) (by
  rintro t
  · kernel_rfl) (by
  rintro t f K h
  · exact h)))

theorem spec_MovesFor_e (x5093 : List Int) {r : AV} {H' : Heap} (h : (Ans.mk _ (spec_MovesFor x5093) (fun (t : ByteArray × Bool) => (.tup [.dat .str t.1, .dat .bool t.2], [])) [] none).run = some (r, H')) : Awp spec_MovesFor_ctx LL (bodyOf Tryd.f17) spec_MovesFor_an (⟨mkE 130 0 [(0, .dat (.list (.int .i64)) x5093)], []⟩ : St) (Ret (tlook tys) Tryd.f17.results.toList r H') :=
  ret_of' (spec_MovesFor_n9_l x5093) (by unfold spec_MovesFor; kernel_rfl) (by
  intro t
  exact ret_mk [.dat .str t.1, .dat .bool t.2] (by kernel_rfl) (by kernel_rfl) (by kernel_rfl) (by kernel_rfl)) h

def F_spec_MovesFor : Fun := fun avs H =>
  match avs, H with
  | [.dat (.list (.int .i64)) x5093], [] => ⟨_, spec_MovesFor x5093, fun (t : ByteArray × Bool) => (.tup [.dat .str t.1, .dat .bool t.2], []), [], none⟩
  | _, _ => Ans.no

theorem spec_MovesFor_sound : Sound Tryd.prog 17 F_spec_MovesFor := by
  refine fn_sound' (C := spec_MovesFor_ctx) (c := bodyOf Tryd.f17) (cok_of tys_ok (List.forall_mem_cons.2 ⟨spec_FlatOk_sound, List.forall_mem_cons.2 ⟨spec_l6Free_sound, by simp⟩⟩) (List.forall_mem_cons.2 ⟨Tryd.call39, List.forall_mem_cons.2 ⟨Tryd.call40, by simp⟩⟩) (by kernel_rfl)) Tryd.func17 (by kernel_rfl) LL spec_MovesFor_an ?_
  intro avs H r H' h
  unfold F_spec_MovesFor at h
  split at h
  · refine Awp.cast ?_ ?_ ?_ (spec_MovesFor_e _ h) <;> kernel_rfl
  · simp [Ans.no, Ans.run] at h


/-! loop.example/headtrees/laws.toIntS -/

def laws_toIntS_an : Ann := (.seq (.leaf [0]) (.seq (.leaf [0, 3]) (.seq (.seq (.leaf [0, 3, 4]) (.block (.loop (.seq (.seq (.leaf [0, 3, 4, 11]) (.cond (.leaf [0, 3, 4]) (.leaf [3]))) (.seq (.block (.leaf [0, 3, 4])) (.leaf [0, 3, 4])))))) (.seq (.leaf [2]) (.leaf [2])))))

noncomputable def laws_toIntS_ctx : Ctx := ⟨tlook tys, olook [], ioF, 0, false, []⟩

theorem laws_toIntS_n1_l (x14389 : List Int) : Link laws_toIntS_ctx LL (Code.seq (Code.fst (bodyOf Tryd.f24)) (Code.fst (Code.snd (bodyOf Tryd.f24)))) (Ann.seq (Ann.fst laws_toIntS_an) (Ann.fst (Ann.snd laws_toIntS_an))) (⟨mkE 22 0 [(0, .dat (.list (.int .i64)) x14389)], []⟩ : St) (laws_toIntS_n1 x14389) (fun (t : (List Int)) => (Exit.normal, (⟨mkE 22 0 [(0, .dat (.list (.int .i64)) x14389), (3, .slc 0)], [some (.seq (.int .i64) t)]⟩ : St))) := by
  refine Link.of fun K h => ?_
  simp only [laws_toIntS_n1, wpO_bind, wpO_cond, wpO_map, wpO_some] at h
  exact Awp.of (by kernel_rfl) h

theorem laws_toIntS_n2_l (x14389 : List Int) (x14392 : List Int) : Link laws_toIntS_ctx LL (Code.fst (Code.fst (Code.snd (Code.snd (bodyOf Tryd.f24))))) (Ann.fst (Ann.fst (Ann.snd (Ann.snd laws_toIntS_an)))) (⟨mkE 22 0 [(0, .dat (.list (.int .i64)) x14389), (3, .slc 0)], [some (.seq (.int .i64) x14392)]⟩ : St) (laws_toIntS_n2) (fun (t : Unit) => (Exit.normal, (⟨mkE 22 0 [(0, .dat (.list (.int .i64)) x14389), (3, .slc 0), (4, .dat (.int .i64) 0)], [some (.seq (.int .i64) x14392)]⟩ : St))) := by
  refine Link.of fun K h => ?_
  simp only [laws_toIntS_n2, wpO_bind, wpO_cond, wpO_map, wpO_some] at h
  exact Awp.of (by kernel_rfl) h

theorem laws_toIntS_n3_l (x14389 : List Int) (x14406 : Int) (x14407 : List Int) : Link laws_toIntS_ctx LL (Code.fst (Code.fst (Code.snd (Code.fst (Code.snd (Code.snd (bodyOf Tryd.f24))))))) (Ann.fst (Ann.fst (Ann.snd (Ann.fst (Ann.snd (Ann.snd laws_toIntS_an)))))) (⟨mkE 22 0 [(0, .dat (.list (.int .i64)) x14389), (3, .slc 0), (4, .dat (.int .i64) x14406)], [some (.seq (.int .i64) x14407)]⟩ : St) (laws_toIntS_n3 x14389 x14406 x14407) (Sum.elim (fun (t : Int × (List Int)) => (Exit.normal, (⟨mkE 22 0 [(0, .dat (.list (.int .i64)) x14389), (3, .slc 0), (4, .dat (.int .i64) t.1)], [some (.seq (.int .i64) t.2)]⟩ : St))) (fun (t : (List Int)) => ((Exit.exit 0), (⟨mkE 22 0 [(3, .slc 0)], [some (.seq (.int .i64) t)]⟩ : St)))) := by
  refine Link.of fun K h => ?_
  simp only [laws_toIntS_n3, wpO_bind, wpO_cond, wpO_map, wpO_some] at h
  exact Awp.of (by kernel_rfl) h

theorem laws_toIntS_n4_l (x14389 : List Int) (x14392 : List Int) : Link laws_toIntS_ctx LL (Code.fst (Code.snd (Code.fst (Code.snd (Code.snd (bodyOf Tryd.f24)))))) (Ann.fst (Ann.snd (Ann.fst (Ann.snd (Ann.snd laws_toIntS_an))))) (⟨mkE 22 0 [(0, .dat (.list (.int .i64)) x14389), (3, .slc 0), (4, .dat (.int .i64) 0)], [some (.seq (.int .i64) x14392)]⟩ : St) (laws_toIntS_n4 x14389 x14392) (fun (t : (List Int)) => ((Exit.exit 0), (⟨mkE 22 0 [(3, .slc 0)], [some (.seq (.int .i64) t)]⟩ : St))) := by
  unfold laws_toIntS_n4
  exact Link.cast (by kernel_rfl) (by kernel_rfl) (link_loop (mk := fun (s : Int × (List Int)) => (⟨mkE 22 0 [(0, .dat (.list (.int .i64)) x14389), (3, .slc 0), (4, .dat (.int .i64) s.1)], [some (.seq (.int .i64) s.2)]⟩ : St)) (fin := (fun (t : (List Int)) => ((Exit.exit 0), (⟨mkE 22 0 [(3, .slc 0)], [some (.seq (.int .i64) t)]⟩ : St)))) (by
  rintro t f K h
  · exact h) (fun s => link_map (laws_toIntS_n3_l x14389 s.1 s.2) (Sum.elim (fun (t : Int × (List Int)) => Sum.inl (t.1, t.2)) (fun (t : (List Int)) => Sum.inr t)) (by
  rintro (t | t)
  · kernel_rfl
  · kernel_rfl)) (0, x14392))

theorem laws_toIntS_n5_l (x14389 : List Int) (x14392 : List Int) : Link laws_toIntS_ctx LL (Code.snd (Code.fst (Code.snd (Code.snd (bodyOf Tryd.f24))))) (Ann.snd (Ann.fst (Ann.snd (Ann.snd laws_toIntS_an)))) (⟨mkE 22 0 [(0, .dat (.list (.int .i64)) x14389), (3, .slc 0), (4, .dat (.int .i64) 0)], [some (.seq (.int .i64) x14392)]⟩ : St) (laws_toIntS_n5 x14389 x14392) (fun (t : (List Int)) => (Exit.normal, (⟨mkE 22 0 [(3, .slc 0)], [some (.seq (.int .i64) t)]⟩ : St))) := by
  unfold laws_toIntS_n5
  exact Link.cast (by kernel_rfl) (by kernel_rfl) (link_block (id := 0) (laws_toIntS_n4_l x14389 x14392) (fun (t : (List Int)) => t) (by
  rintro t K h
  · exact Eq.mp (by kernel_rfl) h))

theorem laws_toIntS_n6_l (x14389 : List Int) (x14392 : List Int) : Link laws_toIntS_ctx LL (Code.fst (Code.snd (Code.snd (bodyOf Tryd.f24)))) (Ann.fst (Ann.snd (Ann.snd laws_toIntS_an))) (⟨mkE 22 0 [(0, .dat (.list (.int .i64)) x14389), (3, .slc 0)], [some (.seq (.int .i64) x14392)]⟩ : St) (laws_toIntS_n6 x14389 x14392) (fun (t : (List Int)) => (Exit.normal, (⟨mkE 22 0 [(3, .slc 0)], [some (.seq (.int .i64) t)]⟩ : St))) := by
  unfold laws_toIntS_n6
  exact Link.cast (by kernel_rfl) (by kernel_rfl) (link_seq (b := (Code.snd (Code.fst (Code.snd (Code.snd (bodyOf Tryd.f24)))))) (y := (Ann.snd (Ann.fst (Ann.snd (Ann.snd laws_toIntS_an))))) (laws_toIntS_n2_l x14389 x14392) (fun (t : Unit) => (laws_toIntS_n5_l x14389 x14392)))

theorem laws_toIntS_n7_l (x14407 : List Int) : Link laws_toIntS_ctx LL (Code.snd (Code.snd (Code.snd (bodyOf Tryd.f24)))) (Ann.snd (Ann.snd (Ann.snd laws_toIntS_an))) (⟨mkE 22 0 [(3, .slc 0)], [some (.seq (.int .i64) x14407)]⟩ : St) (laws_toIntS_n7 x14407) (fun (t : (List Int)) => (Exit.ret, (⟨mkE 22 0 [(2, .slc 0)], [some (.seq (.int .i64) t)]⟩ : St))) := by
  refine Link.of fun K h => ?_
  simp only [laws_toIntS_n7, wpO_bind, wpO_cond, wpO_map, wpO_some] at h
  exact Awp.of (by kernel_rfl) h

theorem laws_toIntS_n8_l (x14389 : List Int) (x14392 : List Int) : Link laws_toIntS_ctx LL (Code.snd (Code.snd (bodyOf Tryd.f24))) (Ann.snd (Ann.snd laws_toIntS_an)) (⟨mkE 22 0 [(0, .dat (.list (.int .i64)) x14389), (3, .slc 0)], [some (.seq (.int .i64) x14392)]⟩ : St) (laws_toIntS_n8 x14389 x14392) (fun (t : (List Int)) => (Exit.ret, (⟨mkE 22 0 [(2, .slc 0)], [some (.seq (.int .i64) t)]⟩ : St))) := by
  unfold laws_toIntS_n8
  exact Link.cast (by kernel_rfl) (by kernel_rfl) (link_seq (b := (Code.snd (Code.snd (Code.snd (bodyOf Tryd.f24))))) (y := (Ann.snd (Ann.snd (Ann.snd laws_toIntS_an)))) (laws_toIntS_n6_l x14389 x14392) (fun (t : (List Int)) => (laws_toIntS_n7_l t)))

theorem laws_toIntS_n9_l (x14389 : List Int) : Link laws_toIntS_ctx LL (bodyOf Tryd.f24) laws_toIntS_an (⟨mkE 22 0 [(0, .dat (.list (.int .i64)) x14389)], []⟩ : St) (laws_toIntS_n9 x14389) (fun (t : (List Int)) => (Exit.ret, (⟨mkE 22 0 [(2, .slc 0)], [some (.seq (.int .i64) t)]⟩ : St))) := by
  unfold laws_toIntS_n9
  exact Link.cast (by kernel_rfl) (by kernel_rfl) (link_group (c := (Code.fst (Code.snd (bodyOf Tryd.f24)))) (a := (Ann.fst (Ann.snd laws_toIntS_an))) [(Code.fst (bodyOf Tryd.f24))] [(Ann.fst laws_toIntS_an)] rfl (link_seq (b := (Code.snd (Code.snd (bodyOf Tryd.f24)))) (y := (Ann.snd (Ann.snd laws_toIntS_an))) (laws_toIntS_n1_l x14389) (fun (t : (List Int)) => (laws_toIntS_n8_l x14389 t))))

theorem laws_toIntS_e (x14389 : List Int) {r : AV} {H' : Heap} (h : (Ans.mk _ (laws_toIntS x14389) (fun (t : (List Int)) => (.slc 0, [some (.seq (.int .i64) t)])) [] none).run = some (r, H')) : Awp laws_toIntS_ctx LL (bodyOf Tryd.f24) laws_toIntS_an (⟨mkE 22 0 [(0, .dat (.list (.int .i64)) x14389)], []⟩ : St) (Ret (tlook tys) Tryd.f24.results.toList r H') :=
  ret_of' (laws_toIntS_n9_l x14389) (by unfold laws_toIntS; kernel_rfl) (by
  intro t
  exact ret_mk [.slc 0] (by kernel_rfl) (by kernel_rfl) (by kernel_rfl) (by kernel_rfl)) h

def F_laws_toIntS : Fun := fun avs H =>
  match avs, H with
  | [.dat (.list (.int .i64)) x14389], [] => ⟨_, laws_toIntS x14389, fun (t : (List Int)) => (.slc 0, [some (.seq (.int .i64) t)]), [], none⟩
  | _, _ => Ans.no

theorem laws_toIntS_sound : Sound Tryd.prog 24 F_laws_toIntS := by
  refine fn_sound' (C := laws_toIntS_ctx) (c := bodyOf Tryd.f24) (cok_of tys_ok (by simp) (by simp) (by kernel_rfl)) Tryd.func24 (by kernel_rfl) LL laws_toIntS_an ?_
  intro avs H r H' h
  unfold F_laws_toIntS at h
  split at h
  · refine Awp.cast ?_ ?_ ?_ (laws_toIntS_e _ h) <;> kernel_rfl
  · simp [Ans.no, Ans.run] at h


/-! loop.example/headtrees/laws.eqIntS -/

def laws_eqIntS_an : Ann := (.seq (.leaf [0, 1]) (.seq (.seq (.leaf [0, 1, 10]) (.cond (.seq (.leaf [4]) (.leaf [4])) (.leaf [0, 1]))) (.seq (.seq (.leaf [0, 1, 5]) (.block (.loop (.seq (.seq (.leaf [0, 1, 5, 14]) (.cond (.leaf [0, 1, 5]) (.leaf []))) (.seq (.block (.seq (.draw [] [0, 1, 2, 3, 4, 5, 6, 7, 8] [] [0, 1, 5, 25]) (.cond (.seq (.leaf [4]) (.leaf [4])) (.leaf [0, 1, 5])))) (.leaf [0, 1, 5])))))) (.seq (.leaf [4]) (.leaf [4])))))

noncomputable def laws_eqIntS_ctx : Ctx := ⟨tlook tys, olook [], ioF, 0, false, []⟩

theorem laws_eqIntS_n1_l (x14467 : List Int) (x14468 : List Int) : Link laws_eqIntS_ctx LL (Code.seq (Code.fst (bodyOf Tryd.f25)) (Code.fst (Code.snd (bodyOf Tryd.f25)))) (Ann.seq (Ann.fst laws_eqIntS_an) (Ann.fst (Ann.snd laws_eqIntS_an))) (⟨mkE 26 0 [(0, .dat (.list (.int .i64)) x14467), (1, .dat (.list (.int .i64)) x14468)], []⟩ : St) (laws_eqIntS_n1 x14467 x14468) (Sum.elim (fun (t : Unit) => (Exit.normal, (⟨mkE 26 0 [(0, .dat (.list (.int .i64)) x14467), (1, .dat (.list (.int .i64)) x14468)], []⟩ : St))) (fun (t : Bool) => (Exit.ret, (⟨mkE 26 0 [(4, .dat .bool t)], []⟩ : St)))) := by
  refine Link.of fun K h => ?_
  simp only [laws_eqIntS_n1, wpO_bind, wpO_cond, wpO_map, wpO_some] at h
  exact Awp.of (by kernel_rfl) h

theorem laws_eqIntS_n2_l (x14467 : List Int) (x14468 : List Int) : Link laws_eqIntS_ctx LL (Code.fst (Code.fst (Code.snd (Code.snd (bodyOf Tryd.f25))))) (Ann.fst (Ann.fst (Ann.snd (Ann.snd laws_eqIntS_an)))) (⟨mkE 26 0 [(0, .dat (.list (.int .i64)) x14467), (1, .dat (.list (.int .i64)) x14468)], []⟩ : St) (laws_eqIntS_n2) (fun (t : Unit) => (Exit.normal, (⟨mkE 26 0 [(0, .dat (.list (.int .i64)) x14467), (1, .dat (.list (.int .i64)) x14468), (5, .dat (.int .i64) 0)], []⟩ : St))) := by
  refine Link.of fun K h => ?_
  simp only [laws_eqIntS_n2, wpO_bind, wpO_cond, wpO_map, wpO_some] at h
  exact Awp.of (by kernel_rfl) h

theorem laws_eqIntS_n3_l (x14467 : List Int) (x14468 : List Int) (x14485 : Int) : Link laws_eqIntS_ctx LL (Code.fst (Code.fst (Code.snd (Code.fst (Code.snd (Code.snd (bodyOf Tryd.f25))))))) (Ann.fst (Ann.fst (Ann.snd (Ann.fst (Ann.snd (Ann.snd laws_eqIntS_an)))))) (⟨mkE 26 0 [(0, .dat (.list (.int .i64)) x14467), (1, .dat (.list (.int .i64)) x14468), (5, .dat (.int .i64) x14485)], []⟩ : St) (laws_eqIntS_n3 x14467 x14468 x14485) (Sum.elim (fun (t : Int) => (Exit.normal, (⟨mkE 26 0 [(0, .dat (.list (.int .i64)) x14467), (1, .dat (.list (.int .i64)) x14468), (5, .dat (.int .i64) t)], []⟩ : St))) (Sum.elim (fun (t : Bool) => (Exit.ret, (⟨mkE 26 0 [(4, .dat .bool t)], []⟩ : St))) (fun (t : Unit) => ((Exit.exit 0), (⟨mkE 26 0 [], []⟩ : St))))) := by
  refine Link.of fun K h => ?_
  simp only [laws_eqIntS_n3, wpO_bind, wpO_cond, wpO_map, wpO_some] at h
  exact Awp.of (by kernel_rfl) h

theorem laws_eqIntS_n4_l (x14467 : List Int) (x14468 : List Int) : Link laws_eqIntS_ctx LL (Code.fst (Code.snd (Code.fst (Code.snd (Code.snd (bodyOf Tryd.f25)))))) (Ann.fst (Ann.snd (Ann.fst (Ann.snd (Ann.snd laws_eqIntS_an))))) (⟨mkE 26 0 [(0, .dat (.list (.int .i64)) x14467), (1, .dat (.list (.int .i64)) x14468), (5, .dat (.int .i64) 0)], []⟩ : St) (laws_eqIntS_n4 x14467 x14468) (Sum.elim (fun (t : Bool) => (Exit.ret, (⟨mkE 26 0 [(4, .dat .bool t)], []⟩ : St))) (fun (t : Unit) => ((Exit.exit 0), (⟨mkE 26 0 [], []⟩ : St)))) := by
  unfold laws_eqIntS_n4
  exact Link.cast (by kernel_rfl) (by kernel_rfl) (link_loop (mk := fun (s : Int) => (⟨mkE 26 0 [(0, .dat (.list (.int .i64)) x14467), (1, .dat (.list (.int .i64)) x14468), (5, .dat (.int .i64) s)], []⟩ : St)) (fin := (Sum.elim (fun (t : Bool) => (Exit.ret, (⟨mkE 26 0 [(4, .dat .bool t)], []⟩ : St))) (fun (t : Unit) => ((Exit.exit 0), (⟨mkE 26 0 [], []⟩ : St))))) (by
  rintro (t | t) f K h
  · exact h
  · exact h) (fun s => link_map (laws_eqIntS_n3_l x14467 x14468 s) (Sum.elim (fun (t : Int) => Sum.inl t) (Sum.elim (fun (t : Bool) => Sum.inr (Sum.inl t)) (fun (t : Unit) => Sum.inr (Sum.inr t)))) (by
  rintro (t | t | t)
  · kernel_rfl
  · kernel_rfl
  · kernel_rfl)) 0)

theorem laws_eqIntS_n5_l (x14467 : List Int) (x14468 : List Int) : Link laws_eqIntS_ctx LL (Code.snd (Code.fst (Code.snd (Code.snd (bodyOf Tryd.f25))))) (Ann.snd (Ann.fst (Ann.snd (Ann.snd laws_eqIntS_an)))) (⟨mkE 26 0 [(0, .dat (.list (.int .i64)) x14467), (1, .dat (.list (.int .i64)) x14468), (5, .dat (.int .i64) 0)], []⟩ : St) (laws_eqIntS_n5 x14467 x14468) (Sum.elim (fun (t : Unit) => (Exit.normal, (⟨mkE 26 0 [], []⟩ : St))) (fun (t : Bool) => (Exit.ret, (⟨mkE 26 0 [(4, .dat .bool t)], []⟩ : St)))) := by
  unfold laws_eqIntS_n5
  exact Link.cast (by kernel_rfl) (by kernel_rfl) (link_block (id := 0) (laws_eqIntS_n4_l x14467 x14468) (Sum.elim (fun (t : Bool) => (Sum.inr t)) (fun (t : Unit) => (Sum.inl ()))) (by
  rintro (t | t) K h
  · exact Eq.mp (by kernel_rfl) h
  · exact Eq.mp (by kernel_rfl) h))

theorem laws_eqIntS_n6_l (x14467 : List Int) (x14468 : List Int) : Link laws_eqIntS_ctx LL (Code.fst (Code.snd (Code.snd (bodyOf Tryd.f25)))) (Ann.fst (Ann.snd (Ann.snd laws_eqIntS_an))) (⟨mkE 26 0 [(0, .dat (.list (.int .i64)) x14467), (1, .dat (.list (.int .i64)) x14468)], []⟩ : St) (laws_eqIntS_n6 x14467 x14468) (Sum.elim (fun (t : Unit) => (Exit.normal, (⟨mkE 26 0 [], []⟩ : St))) (fun (t : Bool) => (Exit.ret, (⟨mkE 26 0 [(4, .dat .bool t)], []⟩ : St)))) := by
  unfold laws_eqIntS_n6
  exact Link.cast (by kernel_rfl) (by kernel_rfl) (link_seq (b := (Code.snd (Code.fst (Code.snd (Code.snd (bodyOf Tryd.f25)))))) (y := (Ann.snd (Ann.fst (Ann.snd (Ann.snd laws_eqIntS_an))))) (laws_eqIntS_n2_l x14467 x14468) (fun (t : Unit) => (laws_eqIntS_n5_l x14467 x14468)))

theorem laws_eqIntS_n7_l : Link laws_eqIntS_ctx LL (Code.snd (Code.snd (Code.snd (bodyOf Tryd.f25)))) (Ann.snd (Ann.snd (Ann.snd laws_eqIntS_an))) (⟨mkE 26 0 [], []⟩ : St) (laws_eqIntS_n7) (fun (t : Bool) => (Exit.ret, (⟨mkE 26 0 [(4, .dat .bool t)], []⟩ : St))) := by
  refine Link.of fun K h => ?_
  simp only [laws_eqIntS_n7, wpO_bind, wpO_cond, wpO_map, wpO_some] at h
  exact Awp.of (by kernel_rfl) h

theorem laws_eqIntS_n8_l (x14467 : List Int) (x14468 : List Int) : Link laws_eqIntS_ctx LL (Code.snd (Code.snd (bodyOf Tryd.f25))) (Ann.snd (Ann.snd laws_eqIntS_an)) (⟨mkE 26 0 [(0, .dat (.list (.int .i64)) x14467), (1, .dat (.list (.int .i64)) x14468)], []⟩ : St) (laws_eqIntS_n8 x14467 x14468) (fun (t : Bool) => (Exit.ret, (⟨mkE 26 0 [(4, .dat .bool t)], []⟩ : St))) := by
  unfold laws_eqIntS_n8
  exact Link.cast (by kernel_rfl) (by kernel_rfl) (link_seq2 (b := (Code.snd (Code.snd (Code.snd (bodyOf Tryd.f25))))) (y := (Ann.snd (Ann.snd (Ann.snd laws_eqIntS_an)))) (laws_eqIntS_n6_l x14467 x14468) (fun (t : Unit) => (laws_eqIntS_n7_l)) (fun (t : Bool) => t) (by
  rintro t
  · kernel_rfl) (by
  rintro t f K h
  · exact h))

theorem laws_eqIntS_n9_l (x14467 : List Int) (x14468 : List Int) : Link laws_eqIntS_ctx LL (bodyOf Tryd.f25) laws_eqIntS_an (⟨mkE 26 0 [(0, .dat (.list (.int .i64)) x14467), (1, .dat (.list (.int .i64)) x14468)], []⟩ : St) (laws_eqIntS_n9 x14467 x14468) (fun (t : Bool) => (Exit.ret, (⟨mkE 26 0 [(4, .dat .bool t)], []⟩ : St))) := by
  unfold laws_eqIntS_n9
  exact Link.cast (by kernel_rfl) (by kernel_rfl) (link_group (c := (Code.fst (Code.snd (bodyOf Tryd.f25)))) (a := (Ann.fst (Ann.snd laws_eqIntS_an))) [(Code.fst (bodyOf Tryd.f25))] [(Ann.fst laws_eqIntS_an)] rfl (link_seq2 (b := (Code.snd (Code.snd (bodyOf Tryd.f25)))) (y := (Ann.snd (Ann.snd laws_eqIntS_an))) (laws_eqIntS_n1_l x14467 x14468) (fun (t : Unit) => (laws_eqIntS_n8_l x14467 x14468)) (fun (t : Bool) => t) (by
  rintro t
  · kernel_rfl) (by
  rintro t f K h
  · exact h)))

theorem laws_eqIntS_e (x14467 : List Int) (x14468 : List Int) {r : AV} {H' : Heap} (h : (Ans.mk _ (laws_eqIntS x14467 x14468) (fun (t : Bool) => (.dat .bool t, [])) [] none).run = some (r, H')) : Awp laws_eqIntS_ctx LL (bodyOf Tryd.f25) laws_eqIntS_an (⟨mkE 26 0 [(0, .dat (.list (.int .i64)) x14467), (1, .dat (.list (.int .i64)) x14468)], []⟩ : St) (Ret (tlook tys) Tryd.f25.results.toList r H') :=
  ret_of' (laws_eqIntS_n9_l x14467 x14468) (by unfold laws_eqIntS; kernel_rfl) (by
  intro t
  exact ret_mk [.dat .bool t] (by kernel_rfl) (by kernel_rfl) (by kernel_rfl) (by kernel_rfl)) h

def F_laws_eqIntS : Fun := fun avs H =>
  match avs, H with
  | [.dat (.list (.int .i64)) x14467, .dat (.list (.int .i64)) x14468], [] => ⟨_, laws_eqIntS x14467 x14468, fun (t : Bool) => (.dat .bool t, []), [], none⟩
  | _, _ => Ans.no

theorem laws_eqIntS_sound : Sound Tryd.prog 25 F_laws_eqIntS := by
  refine fn_sound' (C := laws_eqIntS_ctx) (c := bodyOf Tryd.f25) (cok_of tys_ok (by simp) (by simp) (by kernel_rfl)) Tryd.func25 (by kernel_rfl) LL laws_eqIntS_an ?_
  intro avs H r H' h
  unfold F_laws_eqIntS at h
  split at h
  · refine Awp.cast ?_ ?_ ?_ (laws_eqIntS_e _ _ h) <;> kernel_rfl
  · simp [Ans.no, Ans.run] at h


/-! loop.example/headtrees/laws.FnExactMovesFor -/

def laws_FnExactMovesFor_an : Ann := (.seq (.leaf [0]) (.seq (.seq (.leaf [0, 10]) (.cond (.seq (.leaf [2]) (.leaf [2])) (.leaf [0]))) (.seq (.leaf [0, 3, 4]) (.seq (.leaf [0, 3, 4, 5]) (.seq (.leaf [0, 3, 4, 5, 6, 7]) (.seq (.seq (.leaf [0, 5, 31]) (.cond (.seq (.leaf [2]) (.leaf [2])) (.leaf [0, 5]))) (.seq (.seq (.leaf [36]) (.cond (.seq (.leaf [2]) (.leaf [2])) (.leaf []))) (.seq (.leaf [2]) (.leaf [2])))))))))

noncomputable def laws_FnExactMovesFor_ctx : Ctx := ⟨tlook tys, olook [(24, F_laws_toIntS), (17, F_spec_MovesFor), (14, F_impl_MovesFor), (25, F_laws_eqIntS)], ioF, 0, false, []⟩

theorem laws_FnExactMovesFor_n1_l (x14384 : List Int) : Link laws_FnExactMovesFor_ctx LL (bodyOf Tryd.f7) laws_FnExactMovesFor_an (⟨mkE 37 0 [(0, .dat (.list (.int .i64)) x14384)], []⟩ : St) (laws_FnExactMovesFor_n1 x14384) (fun (t : Bool) => (Exit.ret, (⟨mkE 37 0 [(2, .dat .bool t)], []⟩ : St))) := by
  refine Link.of fun K h => ?_
  simp only [laws_FnExactMovesFor_n1, wpO_bind, wpO_cond, wpO_map, wpO_some] at h
  exact Awp.of (by kernel_rfl) h

theorem laws_FnExactMovesFor_e (x14384 : List Int) {r : AV} {H' : Heap} (h : (Ans.mk _ (laws_FnExactMovesFor x14384) (fun (t : Bool) => (.dat .bool t, [])) [] none).run = some (r, H')) : Awp laws_FnExactMovesFor_ctx LL (bodyOf Tryd.f7) laws_FnExactMovesFor_an (⟨mkE 37 0 [(0, .dat (.list (.int .i64)) x14384)], []⟩ : St) (Ret (tlook tys) Tryd.f7.results.toList r H') :=
  ret_of' (laws_FnExactMovesFor_n1_l x14384) (by unfold laws_FnExactMovesFor; kernel_rfl) (by
  intro t
  exact ret_mk [.dat .bool t] (by kernel_rfl) (by kernel_rfl) (by kernel_rfl) (by kernel_rfl)) h

def F_laws_FnExactMovesFor : Fun := fun avs H =>
  match avs, H with
  | [.dat (.list (.int .i64)) x14384], [] => ⟨_, laws_FnExactMovesFor x14384, fun (t : Bool) => (.dat .bool t, []), [], none⟩
  | _, _ => Ans.no

theorem laws_FnExactMovesFor_sound : Sound Tryd.prog 7 F_laws_FnExactMovesFor := by
  refine fn_sound' (C := laws_FnExactMovesFor_ctx) (c := bodyOf Tryd.f7) (cok_of tys_ok (List.forall_mem_cons.2 ⟨laws_toIntS_sound, List.forall_mem_cons.2 ⟨spec_MovesFor_sound, List.forall_mem_cons.2 ⟨impl_MovesFor_sound, List.forall_mem_cons.2 ⟨laws_eqIntS_sound, by simp⟩⟩⟩⟩) (List.forall_mem_cons.2 ⟨Tryd.call24, List.forall_mem_cons.2 ⟨Tryd.call17, List.forall_mem_cons.2 ⟨Tryd.call14, List.forall_mem_cons.2 ⟨Tryd.call25, by simp⟩⟩⟩⟩) (by kernel_rfl)) Tryd.func7 (by kernel_rfl) LL laws_FnExactMovesFor_an ?_
  intro avs H r H' h
  unfold F_laws_FnExactMovesFor at h
  split at h
  · refine Awp.cast ?_ ?_ ?_ (laws_FnExactMovesFor_e _ h) <;> kernel_rfl
  · simp [Ans.no, Ans.run] at h


end Go.Rv
