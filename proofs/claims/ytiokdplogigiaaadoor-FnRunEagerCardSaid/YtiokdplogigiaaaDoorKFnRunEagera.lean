/-
  The checked code answers as the plain functions do; written by program. Conditions: none.
-/
import Derived.Test.YtiokdplogigiaaaDoorGFnRunEager
import Derived.Test.YtiokdplogigiaaaDoorProg
set_option linter.unusedVariables false
set_option linter.unusedSimpArgs false
set_option linter.defProp false
set_option maxRecDepth 100000
namespace Go.Rv
open Go.Proofs
theorem ty3 : TIOk Tryd.prog 3 ⟨.int .i64, 1, 8, some (.int .i64), [.int .i64 0]⟩ := ⟨⟨infoOf (Tryd.prog.info? 3), by kernel_rfl, by kernel_rfl, by kernel_rfl, .int .i64 0, by kernel_rfl, by kernel_rfl⟩, (by kernel_rfl : Tryd.prog.underlying 3 = some (.int .i64))⟩
theorem ty4 : TIOk Tryd.prog 4 ⟨.bool, 1, 1, some .bool, [.bool false]⟩ := ⟨⟨infoOf (Tryd.prog.info? 4), by kernel_rfl, by kernel_rfl, by kernel_rfl, .bool false, by kernel_rfl, by kernel_rfl⟩, (by kernel_rfl : Tryd.prog.underlying 4 = some .bool)⟩
theorem ty5 : TIOk Tryd.prog 5 ⟨.int .u8, 1, 1, some (.int .u8), [.int .u8 0]⟩ := ⟨⟨infoOf (Tryd.prog.info? 5), by kernel_rfl, by kernel_rfl, by kernel_rfl, .int .u8 0, by kernel_rfl, by kernel_rfl⟩, (by kernel_rfl : Tryd.prog.underlying 5 = some (.int .u8))⟩
theorem ty9 : TIOk Tryd.prog 9 ⟨.str, 1, 16, some .str, [.string ByteArray.empty]⟩ := ⟨⟨infoOf (Tryd.prog.info? 9), by kernel_rfl, by kernel_rfl, by kernel_rfl, .string ByteArray.empty, by kernel_rfl, by kernel_rfl⟩, (by kernel_rfl : Tryd.prog.underlying 9 = some .string)⟩
theorem ty22 : TIOk Tryd.prog 22 ⟨.slice 5, 1, 24, some (.list (.int .u8)), [.slice none 0 0]⟩ := ⟨⟨infoOf (Tryd.prog.info? 22), by kernel_rfl, by kernel_rfl, by kernel_rfl, .slice none 0 0, by kernel_rfl, by kernel_rfl⟩, (by kernel_rfl : Tryd.prog.underlying 22 = some (.slice 5))⟩
theorem ty25 : TIOk Tryd.prog 25 ⟨.slice 3, 1, 24, some (.list (.int .i64)), [.slice none 0 0]⟩ := ⟨⟨infoOf (Tryd.prog.info? 25), by kernel_rfl, by kernel_rfl, by kernel_rfl, .slice none 0 0, by kernel_rfl, by kernel_rfl⟩, (by kernel_rfl : Tryd.prog.underlying 25 = some (.slice 3))⟩
theorem ty40 : TIOk Tryd.prog 40 ⟨.scalar, 1, 8, none, [.pointer none]⟩ := ⟨⟨infoOf (Tryd.prog.info? 40), by kernel_rfl, by kernel_rfl, by kernel_rfl, .pointer none, by kernel_rfl, by kernel_rfl⟩, ⟨descOf (Tryd.prog.underlying 40), by kernel_rfl, by kernel_rfl⟩⟩
theorem ty44 : TIOk Tryd.prog 44 ⟨.strct [(0, 25), (1, 25), (2, 3), (3, 3)], 4, 64, some (.pair (.list (.int .i64)) (.pair (.list (.int .i64)) (.pair (.int .i64) (.pair (.int .i64) .unit)))), [.slice none 0 0, .slice none 0 0, .int .i64 0, .int .i64 0]⟩ := ⟨⟨infoOf (Tryd.prog.info? 44), by kernel_rfl, by kernel_rfl, by kernel_rfl, .agg #[.slice none 0 0, .slice none 0 0, .int .i64 0, .int .i64 0], by kernel_rfl, by kernel_rfl⟩, ⟨fieldsOf (Tryd.prog.underlying 44), by kernel_rfl, by kernel_rfl⟩⟩
theorem ty47 : TIOk Tryd.prog 47 ⟨.map 5 51, 1, 8, none, [.map none]⟩ := ⟨⟨infoOf (Tryd.prog.info? 47), by kernel_rfl, by kernel_rfl, by kernel_rfl, .map none, by kernel_rfl, by kernel_rfl⟩, (by kernel_rfl : Tryd.prog.underlying 47 = some (.map 5 51))⟩
theorem ty51 : TIOk Tryd.prog 51 ⟨.scalar, 1, 8, none, [.nilFunc]⟩ := ⟨⟨infoOf (Tryd.prog.info? 51), by kernel_rfl, by kernel_rfl, by kernel_rfl, .nilFunc, by kernel_rfl, by kernel_rfl⟩, ⟨descOf (Tryd.prog.underlying 51), by kernel_rfl, by kernel_rfl⟩⟩
theorem ty52 : TIOk Tryd.prog 52 ⟨.slice 55, 1, 24, some (.list (.int .u64)), [.slice none 0 0]⟩ := ⟨⟨infoOf (Tryd.prog.info? 52), by kernel_rfl, by kernel_rfl, by kernel_rfl, .slice none 0 0, by kernel_rfl, by kernel_rfl⟩, (by kernel_rfl : Tryd.prog.underlying 52 = some (.slice 55))⟩
theorem ty55 : TIOk Tryd.prog 55 ⟨.int .u64, 1, 8, some (.int .u64), [.int .u64 0]⟩ := ⟨⟨infoOf (Tryd.prog.info? 55), by kernel_rfl, by kernel_rfl, by kernel_rfl, .int .u64 0, by kernel_rfl, by kernel_rfl⟩, (by kernel_rfl : Tryd.prog.underlying 55 = some (.int .u64))⟩
theorem ty57 : TIOk Tryd.prog 57 ⟨.slice 4, 1, 24, some (.list .bool), [.slice none 0 0]⟩ := ⟨⟨infoOf (Tryd.prog.info? 57), by kernel_rfl, by kernel_rfl, by kernel_rfl, .slice none 0 0, by kernel_rfl, by kernel_rfl⟩, (by kernel_rfl : Tryd.prog.underlying 57 = some (.slice 4))⟩
theorem ty59 : TIOk Tryd.prog 59 ⟨.meths [("loop.example/headtrees/impl.putNext", 54)], 1, 8, none, [.pointer none]⟩ := ⟨⟨infoOf (Tryd.prog.info? 59), by kernel_rfl, by kernel_rfl, by kernel_rfl, .pointer none, by kernel_rfl, by kernel_rfl⟩, ⟨⟨65, by kernel_rfl⟩, by kernel_rfl⟩⟩
theorem ty62 : TIOk Tryd.prog 62 ⟨.map 5 69, 1, 8, none, [.map none]⟩ := ⟨⟨infoOf (Tryd.prog.info? 62), by kernel_rfl, by kernel_rfl, by kernel_rfl, .map none, by kernel_rfl, by kernel_rfl⟩, (by kernel_rfl : Tryd.prog.underlying 62 = some (.map 5 69))⟩
theorem ty65 : TIOk Tryd.prog 65 ⟨.strct [(0, 44), (4, 55)], 5, 72, some (.pair (.pair (.list (.int .i64)) (.pair (.list (.int .i64)) (.pair (.int .i64) (.pair (.int .i64) .unit)))) (.pair (.int .u64) .unit)), [.slice none 0 0, .slice none 0 0, .int .i64 0, .int .i64 0, .int .u64 0]⟩ := ⟨⟨infoOf (Tryd.prog.info? 65), by kernel_rfl, by kernel_rfl, by kernel_rfl, .agg #[.slice none 0 0, .slice none 0 0, .int .i64 0, .int .i64 0, .int .u64 0], by kernel_rfl, by kernel_rfl⟩, ⟨fieldsOf (Tryd.prog.underlying 65), by kernel_rfl, by kernel_rfl⟩⟩
theorem ty69 : TIOk Tryd.prog 69 ⟨.scalar, 1, 8, none, [.nilFunc]⟩ := ⟨⟨infoOf (Tryd.prog.info? 69), by kernel_rfl, by kernel_rfl, by kernel_rfl, .nilFunc, by kernel_rfl, by kernel_rfl⟩, ⟨descOf (Tryd.prog.underlying 69), by kernel_rfl, by kernel_rfl⟩⟩
theorem ty72 : TIOk Tryd.prog 72 ⟨.strct [(0, 22), (1, 3)], 2, 32, some (.pair (.list (.int .u8)) (.pair (.int .i64) .unit)), [.slice none 0 0, .int .i64 0]⟩ := ⟨⟨infoOf (Tryd.prog.info? 72), by kernel_rfl, by kernel_rfl, by kernel_rfl, .agg #[.slice none 0 0, .int .i64 0], by kernel_rfl, by kernel_rfl⟩, ⟨fieldsOf (Tryd.prog.underlying 72), by kernel_rfl, by kernel_rfl⟩⟩
theorem ty73 : TIOk Tryd.prog 73 ⟨.slice 9, 1, 24, some (.list .str), [.slice none 0 0]⟩ := ⟨⟨infoOf (Tryd.prog.info? 73), by kernel_rfl, by kernel_rfl, by kernel_rfl, .slice none 0 0, by kernel_rfl, by kernel_rfl⟩, (by kernel_rfl : Tryd.prog.underlying 73 = some (.slice 9))⟩
theorem ty79 : TIOk Tryd.prog 79 ⟨.scalar, 1, 8, none, [.nilFunc]⟩ := ⟨⟨infoOf (Tryd.prog.info? 79), by kernel_rfl, by kernel_rfl, by kernel_rfl, .nilFunc, by kernel_rfl, by kernel_rfl⟩, ⟨descOf (Tryd.prog.underlying 79), by kernel_rfl, by kernel_rfl⟩⟩
theorem ty91 : TIOk Tryd.prog 91 ⟨.strct [(0, 25), (1, 3), (2, 3)], 3, 40, some (.pair (.list (.int .i64)) (.pair (.int .i64) (.pair (.int .i64) .unit))), [.slice none 0 0, .int .i64 0, .int .i64 0]⟩ := ⟨⟨infoOf (Tryd.prog.info? 91), by kernel_rfl, by kernel_rfl, by kernel_rfl, .agg #[.slice none 0 0, .int .i64 0, .int .i64 0], by kernel_rfl, by kernel_rfl⟩, ⟨fieldsOf (Tryd.prog.underlying 91), by kernel_rfl, by kernel_rfl⟩⟩
theorem ty102 : TIOk Tryd.prog 102 ⟨.int .u64, 1, 8, some (.int .u64), [.int .u64 0]⟩ := ⟨⟨infoOf (Tryd.prog.info? 102), by kernel_rfl, by kernel_rfl, by kernel_rfl, .int .u64 0, by kernel_rfl, by kernel_rfl⟩, (by kernel_rfl : Tryd.prog.underlying 102 = some (.int .u64))⟩
theorem ty105 : TIOk Tryd.prog 105 ⟨.arr 64 5, 64, 64, none, [.int .u8 0, .int .u8 0, .int .u8 0, .int .u8 0, .int .u8 0, .int .u8 0, .int .u8 0, .int .u8 0, .int .u8 0, .int .u8 0, .int .u8 0, .int .u8 0, .int .u8 0, .int .u8 0, .int .u8 0, .int .u8 0, .int .u8 0, .int .u8 0, .int .u8 0, .int .u8 0, .int .u8 0, .int .u8 0, .int .u8 0, .int .u8 0, .int .u8 0, .int .u8 0, .int .u8 0, .int .u8 0, .int .u8 0, .int .u8 0, .int .u8 0, .int .u8 0, .int .u8 0, .int .u8 0, .int .u8 0, .int .u8 0, .int .u8 0, .int .u8 0, .int .u8 0, .int .u8 0, .int .u8 0, .int .u8 0, .int .u8 0, .int .u8 0, .int .u8 0, .int .u8 0, .int .u8 0, .int .u8 0, .int .u8 0, .int .u8 0, .int .u8 0, .int .u8 0, .int .u8 0, .int .u8 0, .int .u8 0, .int .u8 0, .int .u8 0, .int .u8 0, .int .u8 0, .int .u8 0, .int .u8 0, .int .u8 0, .int .u8 0, .int .u8 0]⟩ := ⟨⟨infoOf (Tryd.prog.info? 105), by kernel_rfl, by kernel_rfl, by kernel_rfl, .agg #[.int .u8 0, .int .u8 0, .int .u8 0, .int .u8 0, .int .u8 0, .int .u8 0, .int .u8 0, .int .u8 0, .int .u8 0, .int .u8 0, .int .u8 0, .int .u8 0, .int .u8 0, .int .u8 0, .int .u8 0, .int .u8 0, .int .u8 0, .int .u8 0, .int .u8 0, .int .u8 0, .int .u8 0, .int .u8 0, .int .u8 0, .int .u8 0, .int .u8 0, .int .u8 0, .int .u8 0, .int .u8 0, .int .u8 0, .int .u8 0, .int .u8 0, .int .u8 0, .int .u8 0, .int .u8 0, .int .u8 0, .int .u8 0, .int .u8 0, .int .u8 0, .int .u8 0, .int .u8 0, .int .u8 0, .int .u8 0, .int .u8 0, .int .u8 0, .int .u8 0, .int .u8 0, .int .u8 0, .int .u8 0, .int .u8 0, .int .u8 0, .int .u8 0, .int .u8 0, .int .u8 0, .int .u8 0, .int .u8 0, .int .u8 0, .int .u8 0, .int .u8 0, .int .u8 0, .int .u8 0, .int .u8 0, .int .u8 0, .int .u8 0, .int .u8 0], by kernel_rfl, by kernel_rfl⟩, (by kernel_rfl : Tryd.prog.underlying 105 = some (.array 64 5))⟩
def tys : List (TypeId × TI) := [(3, ⟨.int .i64, 1, 8, some (.int .i64), [.int .i64 0]⟩), (4, ⟨.bool, 1, 1, some .bool, [.bool false]⟩), (5, ⟨.int .u8, 1, 1, some (.int .u8), [.int .u8 0]⟩), (9, ⟨.str, 1, 16, some .str, [.string ByteArray.empty]⟩), (22, ⟨.slice 5, 1, 24, some (.list (.int .u8)), [.slice none 0 0]⟩), (25, ⟨.slice 3, 1, 24, some (.list (.int .i64)), [.slice none 0 0]⟩), (40, ⟨.scalar, 1, 8, none, [.pointer none]⟩), (44, ⟨.strct [(0, 25), (1, 25), (2, 3), (3, 3)], 4, 64, some (.pair (.list (.int .i64)) (.pair (.list (.int .i64)) (.pair (.int .i64) (.pair (.int .i64) .unit)))), [.slice none 0 0, .slice none 0 0, .int .i64 0, .int .i64 0]⟩), (47, ⟨.map 5 51, 1, 8, none, [.map none]⟩), (51, ⟨.scalar, 1, 8, none, [.nilFunc]⟩), (52, ⟨.slice 55, 1, 24, some (.list (.int .u64)), [.slice none 0 0]⟩), (55, ⟨.int .u64, 1, 8, some (.int .u64), [.int .u64 0]⟩), (57, ⟨.slice 4, 1, 24, some (.list .bool), [.slice none 0 0]⟩), (59, ⟨.meths [("loop.example/headtrees/impl.putNext", 54)], 1, 8, none, [.pointer none]⟩), (62, ⟨.map 5 69, 1, 8, none, [.map none]⟩), (65, ⟨.strct [(0, 44), (4, 55)], 5, 72, some (.pair (.pair (.list (.int .i64)) (.pair (.list (.int .i64)) (.pair (.int .i64) (.pair (.int .i64) .unit)))) (.pair (.int .u64) .unit)), [.slice none 0 0, .slice none 0 0, .int .i64 0, .int .i64 0, .int .u64 0]⟩), (69, ⟨.scalar, 1, 8, none, [.nilFunc]⟩), (72, ⟨.strct [(0, 22), (1, 3)], 2, 32, some (.pair (.list (.int .u8)) (.pair (.int .i64) .unit)), [.slice none 0 0, .int .i64 0]⟩), (73, ⟨.slice 9, 1, 24, some (.list .str), [.slice none 0 0]⟩), (79, ⟨.scalar, 1, 8, none, [.nilFunc]⟩), (91, ⟨.strct [(0, 25), (1, 3), (2, 3)], 3, 40, some (.pair (.list (.int .i64)) (.pair (.int .i64) (.pair (.int .i64) .unit))), [.slice none 0 0, .int .i64 0, .int .i64 0]⟩), (102, ⟨.int .u64, 1, 8, some (.int .u64), [.int .u64 0]⟩), (105, ⟨.arr 64 5, 64, 64, none, [.int .u8 0, .int .u8 0, .int .u8 0, .int .u8 0, .int .u8 0, .int .u8 0, .int .u8 0, .int .u8 0, .int .u8 0, .int .u8 0, .int .u8 0, .int .u8 0, .int .u8 0, .int .u8 0, .int .u8 0, .int .u8 0, .int .u8 0, .int .u8 0, .int .u8 0, .int .u8 0, .int .u8 0, .int .u8 0, .int .u8 0, .int .u8 0, .int .u8 0, .int .u8 0, .int .u8 0, .int .u8 0, .int .u8 0, .int .u8 0, .int .u8 0, .int .u8 0, .int .u8 0, .int .u8 0, .int .u8 0, .int .u8 0, .int .u8 0, .int .u8 0, .int .u8 0, .int .u8 0, .int .u8 0, .int .u8 0, .int .u8 0, .int .u8 0, .int .u8 0, .int .u8 0, .int .u8 0, .int .u8 0, .int .u8 0, .int .u8 0, .int .u8 0, .int .u8 0, .int .u8 0, .int .u8 0, .int .u8 0, .int .u8 0, .int .u8 0, .int .u8 0, .int .u8 0, .int .u8 0, .int .u8 0, .int .u8 0, .int .u8 0, .int .u8 0]⟩)]
theorem tys_ok : TOk Tryd.prog (tlook tys) := tok_of (allc ty3 (allc ty4 (allc ty5 (allc ty9 (allc ty22 (allc ty25 (allc ty40 (allc ty44 (allc ty47 (allc ty51 (allc ty52 (allc ty55 (allc ty57 (allc ty59 (allc ty62 (allc ty65 (allc ty69 (allc ty72 (allc ty73 (allc ty79 (allc ty91 (allc ty102 (allc ty105 alln)))))))))))))))))))))))
def ioF (f : FuncId) (i : Nat) : Bool := [(46, 0), (61, 0), (64, 1)].any fun (p : Nat × Nat) => Nat.beq p.1 f && Nat.beq p.2 i


/-! loop.example/headtrees/spec.l20Open -/

def spec_l20Open_an : Ann := (.seq (.leaf [0]) (.seq (.seq (.leaf [0, 5]) (.cond (.leaf [0]) (.leaf [0]))) (.seq (.leaf [2]) (.leaf [2]))))

noncomputable def spec_l20Open_ctx : Ctx := ⟨tlook tys, olook [], ioF, 0, false, []⟩

theorem spec_l20Open_n1_l (x13 : List Int) : Link spec_l20Open_ctx LL (bodyOf Tryd.f26) spec_l20Open_an ⟨mkE 11 0 [(0, dV x13)], []⟩ (spec_l20Open_n1 x13) (fun (t : (List Int)) => (Exit.ret, ⟨mkE 11 0 [(2, .ptr 0 0)], [some (.box [dV t, dI 0])]⟩)) := by
  refine Link.of fun K h => ?_
  simp only [spec_l20Open_n1, wpO_bind, wpO_cond, wpO_map, wpO_some] at h
  exact Awp.of (by kernel_rfl) h

theorem spec_l20Open_e (x13 : List Int) {r : AV} {H' : Heap} (h : (Ans.mk _ (spec_l20Open x13) (fun (t : (List Int)) => (.ptr 0 0, [some (.box [dV t, dI 0])])) [] none).run = some (r, H')) : Awp spec_l20Open_ctx LL (bodyOf Tryd.f26) spec_l20Open_an ⟨mkE 11 0 [(0, dV x13)], []⟩ (Ret (tlook tys) Tryd.f26.results.toList r H') :=
  ret_of' (spec_l20Open_n1_l x13) (by unfold spec_l20Open; kernel_rfl) (by
  intro t
  exact ret_mk [.ptr 0 0] (by kernel_rfl) (by kernel_rfl) (by kernel_rfl) (by kernel_rfl)) h

def F_spec_l20Open : Fun := fun avs H =>
  match avs, H with
  | [.dat (.list (.int .u8)) x13], [] => ⟨_, spec_l20Open x13, fun (t : (List Int)) => (.ptr 0 0, [some (.box [dV t, dI 0])]), [], none⟩
  | _, _ => Ans.no

theorem spec_l20Open_sound : Sound Tryd.prog 26 F_spec_l20Open := by
  refine fn_sound' (C := spec_l20Open_ctx) (c := bodyOf Tryd.f26) (cok_of tys_ok (alln) (alln) (by kernel_rfl)) Tryd.func26 (by kernel_rfl) LL spec_l20Open_an ?_
  intro avs H r H' h
  unfold F_spec_l20Open at h
  split at h
  · refine Awp.cast ?_ ?_ ?_ (spec_l20Open_e _ h) <;> kernel_rfl
  · simp [Ans.no, Ans.run] at h


/-! (*loop.example/headtrees/spec.l20Rd).pick -/

def spec_l20Rd_pick_an : Ann := (.seq (.leaf [0, 1]) (.seq (.leaf [0, 1]) (.seq (.seq (.leaf [0, 1, 24]) (.cond (.seq (.leaf [4]) (.leaf [4])) (.leaf [0, 1]))) (.seq (.leaf [0, 1, 5]) (.seq (.seq (.leaf [0, 1, 5, 36]) (.cond (.seq (.leaf [4]) (.leaf [4])) (.leaf [0, 1, 5]))) (.seq (.draw [] [0, 1, 2, 3, 4, 5, 6, 7, 8, 9, 10, 11, 12, 13, 14, 15, 16, 17, 18, 19, 20, 21, 22, 23, 24, 25, 26, 27, 28, 29, 30, 31, 32, 33, 34, 35, 36, 37, 38, 39, 40, 41, 42, 43, 44, 45] [] [1, 6]) (.seq (.leaf [1, 6]) (.seq (.leaf [4]) (.leaf [4])))))))))

noncomputable def spec_l20Rd_pick_ctx : Ctx := ⟨tlook tys, olook [], ioF, 1, false, []⟩

theorem spec_l20Rd_pick_n1_l (x35 : Int) (x36 : List Int) (x37 : Int) : Link spec_l20Rd_pick_ctx LL (bodyOf Tryd.f27) spec_l20Rd_pick_an ⟨mkE 99 0 [(0, .ptr 0 0), (1, dI x35)], [some (.box [dV x36, dI x37])]⟩ (spec_l20Rd_pick_n1 x35 x36 x37) (fun (t : Int × Int) => (Exit.ret, ⟨mkE 99 0 [(4, dI t.1)], [some (.box [dV x36, dI t.2])]⟩)) := by
  refine Link.of fun K h => ?_
  simp only [spec_l20Rd_pick_n1, wpO_bind, wpO_cond, wpO_map, wpO_some] at h
  exact Awp.of (by kernel_rfl) h

theorem spec_l20Rd_pick_e (x35 : Int) (x36 : List Int) (x37 : Int) {r : AV} {H' : Heap} (h : (Ans.mk _ (spec_l20Rd_pick x35 x36 x37) (fun (t : Int × Int) => (dI t.1, [some (.box [dV x36, dI t.2])])) [] none).run = some (r, H')) : Awp spec_l20Rd_pick_ctx LL (bodyOf Tryd.f27) spec_l20Rd_pick_an ⟨mkE 99 0 [(0, .ptr 0 0), (1, dI x35)], [some (.box [dV x36, dI x37])]⟩ (Ret (tlook tys) Tryd.f27.results.toList r H') :=
  ret_of' (spec_l20Rd_pick_n1_l x35 x36 x37) (by unfold spec_l20Rd_pick; kernel_rfl) (by
  intro t
  exact ret_mk [dI t.1] (by kernel_rfl) (by kernel_rfl) (by kernel_rfl) (by kernel_rfl)) h

def F_spec_l20Rd_pick : Fun := fun avs H =>
  match avs, H with
  | [.ptr 0 0, .dat (.int .i64) x35], [some (.box [.dat (.list (.int .u8)) x36, .dat (.int .i64) x37])] => ⟨_, spec_l20Rd_pick x35 x36 x37, fun (t : Int × Int) => (dI t.1, [some (.box [dV x36, dI t.2])]), [], none⟩
  | _, _ => Ans.no

theorem spec_l20Rd_pick_sound : Sound Tryd.prog 27 F_spec_l20Rd_pick := by
  refine fn_sound' (C := spec_l20Rd_pick_ctx) (c := bodyOf Tryd.f27) (cok_of tys_ok (alln) (alln) (by kernel_rfl)) Tryd.func27 (by kernel_rfl) LL spec_l20Rd_pick_an ?_
  intro avs H r H' h
  unfold F_spec_l20Rd_pick at h
  split at h
  · refine Awp.cast ?_ ?_ ?_ (spec_l20Rd_pick_e _ _ _ h) <;> kernel_rfl
  · simp [Ans.no, Ans.run] at h


/-! (*loop.example/headtrees/spec.l20Rd).odd -/

def spec_l20Rd_odd_an : Ann := (.seq (.leaf [0, 1]) (.seq (.leaf [4]) (.leaf [4])))

noncomputable def spec_l20Rd_odd_ctx : Ctx := ⟨tlook tys, olook [(27, F_spec_l20Rd_pick)], ioF, 1, false, []⟩

theorem spec_l20Rd_odd_n1_l (x352 : Int) (x353 : List Int) (x354 : Int) : Link spec_l20Rd_odd_ctx LL (bodyOf Tryd.f49) spec_l20Rd_odd_an ⟨mkE 15 0 [(0, .ptr 0 0), (1, dI x352)], [some (.box [dV x353, dI x354])]⟩ (spec_l20Rd_odd_n1 x352 x353 x354) (fun (t : Bool × Int) => (Exit.ret, ⟨mkE 15 0 [(4, dB t.1)], [some (.box [dV x353, dI t.2])]⟩)) := by
  refine Link.of fun K h => ?_
  simp only [spec_l20Rd_odd_n1, wpO_bind, wpO_cond, wpO_map, wpO_some] at h
  exact Awp.of (by kernel_rfl) h

theorem spec_l20Rd_odd_e (x352 : Int) (x353 : List Int) (x354 : Int) {r : AV} {H' : Heap} (h : (Ans.mk _ (spec_l20Rd_odd x352 x353 x354) (fun (t : Bool × Int) => (dB t.1, [some (.box [dV x353, dI t.2])])) [] none).run = some (r, H')) : Awp spec_l20Rd_odd_ctx LL (bodyOf Tryd.f49) spec_l20Rd_odd_an ⟨mkE 15 0 [(0, .ptr 0 0), (1, dI x352)], [some (.box [dV x353, dI x354])]⟩ (Ret (tlook tys) Tryd.f49.results.toList r H') :=
  ret_of' (spec_l20Rd_odd_n1_l x352 x353 x354) (by unfold spec_l20Rd_odd; kernel_rfl) (by
  intro t
  exact ret_mk [dB t.1] (by kernel_rfl) (by kernel_rfl) (by kernel_rfl) (by kernel_rfl)) h

def F_spec_l20Rd_odd : Fun := fun avs H =>
  match avs, H with
  | [.ptr 0 0, .dat (.int .i64) x352], [some (.box [.dat (.list (.int .u8)) x353, .dat (.int .i64) x354])] => ⟨_, spec_l20Rd_odd x352 x353 x354, fun (t : Bool × Int) => (dB t.1, [some (.box [dV x353, dI t.2])]), [], none⟩
  | _, _ => Ans.no

theorem spec_l20Rd_odd_sound : Sound Tryd.prog 49 F_spec_l20Rd_odd := by
  refine fn_sound' (C := spec_l20Rd_odd_ctx) (c := bodyOf Tryd.f49) (cok_of tys_ok (allc spec_l20Rd_pick_sound alln) (allc Tryd.call27 alln) (by kernel_rfl)) Tryd.func49 (by kernel_rfl) LL spec_l20Rd_odd_an ?_
  intro avs H r H' h
  unfold F_spec_l20Rd_odd at h
  split at h
  · refine Awp.cast ?_ ?_ ?_ (spec_l20Rd_odd_e _ _ _ h) <;> kernel_rfl
  · simp [Ans.no, Ans.run] at h


/-! loop.example/headtrees/impl.newStackMachine -/

def impl_newStackMachine_an : Ann := (.seq (.leaf [0]) (.seq (.leaf [2]) (.leaf [2])))

noncomputable def impl_newStackMachine_ctx : Ctx := ⟨tlook tys, olook [], ioF, 0, false, []⟩

theorem impl_newStackMachine_n1_l (x911 : Int) : Link impl_newStackMachine_ctx LL (bodyOf Tryd.f33) impl_newStackMachine_an ⟨mkE 7 0 [(0, dI x911)], []⟩ (impl_newStackMachine_n1 x911) (fun (t : (List Int)) => (Exit.ret, ⟨mkE 7 0 [(2, .ptr 0 0)], [some (.box [.slc 1, .nils, dI 0, dI 0]), some (sI t)]⟩)) := by
  refine Link.of fun K h => ?_
  simp only [impl_newStackMachine_n1, wpO_bind, wpO_cond, wpO_map, wpO_some] at h
  exact Awp.of (by kernel_rfl) h

theorem impl_newStackMachine_e (x911 : Int) {r : AV} {H' : Heap} (h : (Ans.mk _ (impl_newStackMachine x911) (fun (t : (List Int)) => (.ptr 0 0, [some (.box [.slc 1, .nils, dI 0, dI 0]), some (sI t)])) [] none).run = some (r, H')) : Awp impl_newStackMachine_ctx LL (bodyOf Tryd.f33) impl_newStackMachine_an ⟨mkE 7 0 [(0, dI x911)], []⟩ (Ret (tlook tys) Tryd.f33.results.toList r H') :=
  ret_of' (impl_newStackMachine_n1_l x911) (by unfold impl_newStackMachine; kernel_rfl) (by
  intro t
  exact ret_mk [.ptr 0 0] (by kernel_rfl) (by kernel_rfl) (by kernel_rfl) (by kernel_rfl)) h

def F_impl_newStackMachine : Fun := fun avs H =>
  match avs, H with
  | [.dat (.int .i64) x911], [] => ⟨_, impl_newStackMachine x911, fun (t : (List Int)) => (.ptr 0 0, [some (.box [.slc 1, .nils, dI 0, dI 0]), some (sI t)]), [], none⟩
  | _, _ => Ans.no

theorem impl_newStackMachine_sound : Sound Tryd.prog 33 F_impl_newStackMachine := by
  refine fn_sound' (C := impl_newStackMachine_ctx) (c := bodyOf Tryd.f33) (cok_of tys_ok (alln) (alln) (by kernel_rfl)) Tryd.func33 (by kernel_rfl) LL impl_newStackMachine_an ?_
  intro avs H r H' h
  unfold F_impl_newStackMachine at h
  split at h
  · refine Awp.cast ?_ ?_ ?_ (impl_newStackMachine_e _ h) <;> kernel_rfl
  · simp [Ans.no, Ans.run] at h


/-! loop.example/headtrees/impl.stackMoves -/

def F_impl_stackMoves : Fun := F_map [(.int .u8 83, .func 54), (.int .u8 76, .func 55), (.int .u8 82, .func 56)]

theorem impl_stackMoves_sound : Sound Tryd.prog 34 F_impl_stackMoves :=
  mapfn_sound (mt := 47) (kt := 5) (et := 51) (d := .int .u8) Tryd.func34 (by kernel_rfl) (by kernel_rfl) (by kernel_rfl) (by kernel_rfl) (by kernel_rfl)


/-! (*loop.example/headtrees/impl.stackMachine).putNext -/

def impl_stackMachine_putNext_an : Ann := (.seq (.leaf [0]) (.seq (.seq (.draw [] [0, 1, 2, 3, 4, 5, 6, 7, 8, 9] [] [0, 12]) (.cond (.seq (.leaf [2]) (.leaf [2])) (.leaf [0]))) (.seq (.leaf [0]) (.seq (.draw [] [0, 1, 2, 3, 4, 5, 6, 7, 8, 9, 10, 11, 12, 13] [] [0]) (.seq (.draw [] [0, 1, 2, 3, 4, 5, 6, 7, 8, 9, 10, 11, 12, 13] [] []) (.seq (.leaf [2]) (.leaf [2])))))))

noncomputable def impl_stackMachine_putNext_ctx : Ctx := ⟨tlook tys, olook [], ioF, 3, false, [2]⟩

theorem impl_stackMachine_putNext_n1_l (x1204 : Int) (x1205 : Int) (x1206 : List Int) (x1207 : List Int) : Link impl_stackMachine_putNext_ctx LL (bodyOf Tryd.f54) impl_stackMachine_putNext_an ⟨mkE 46 0 [(0, .ptr 0 0)], [some (.box [.slc 1, .slc 2, dI x1204, dI x1205]), some (sI x1206), some (sI x1207)]⟩ (impl_stackMachine_putNext_n1 x1204 x1205 x1206 x1207) (fun (t : Bool × Int × Int × (List Int)) => (Exit.ret, ⟨mkE 46 0 [(2, dB t.1)], [some (.box [.slc 1, .slc 2, dI t.2.1, dI t.2.2.1]), some (sI x1206), some (sI t.2.2.2)]⟩)) := by
  refine Link.of fun K h => ?_
  simp only [impl_stackMachine_putNext_n1, wpO_bind, wpO_cond, wpO_map, wpO_some] at h
  exact Awp.of (by kernel_rfl) h

theorem impl_stackMachine_putNext_e (x1204 : Int) (x1205 : Int) (x1206 : List Int) (x1207 : List Int) {r : AV} {H' : Heap} (h : (Ans.mk _ (impl_stackMachine_putNext x1204 x1205 x1206 x1207) (fun (t : Bool × Int × Int × (List Int)) => (dB t.1, [some (.box [.slc 1, .slc 2, dI t.2.1, dI t.2.2.1]), some (sI x1206), some (sI t.2.2.2)])) [2] none).run = some (r, H')) : Awp impl_stackMachine_putNext_ctx LL (bodyOf Tryd.f54) impl_stackMachine_putNext_an ⟨mkE 46 0 [(0, .ptr 0 0)], [some (.box [.slc 1, .slc 2, dI x1204, dI x1205]), some (sI x1206), some (sI x1207)]⟩ (Ret (tlook tys) Tryd.f54.results.toList r H') :=
  ret_of' (impl_stackMachine_putNext_n1_l x1204 x1205 x1206 x1207) (by unfold impl_stackMachine_putNext; kernel_rfl) (by
  intro t
  exact ret_mk [dB t.1] (by kernel_rfl) (by kernel_rfl) (by kernel_rfl) (by kernel_rfl)) h

def F_impl_stackMachine_putNext : Fun := fun avs H =>
  match avs, H with
  | [.ptr 0 0], [some (.box [.slc 1, .slc 2, .dat (.int .i64) x1204, .dat (.int .i64) x1205]), some (.seq (.int .i64) x1206), some (.seq (.int .i64) x1207)] => ⟨_, impl_stackMachine_putNext x1204 x1205 x1206 x1207, fun (t : Bool × Int × Int × (List Int)) => (dB t.1, [some (.box [.slc 1, .slc 2, dI t.2.1, dI t.2.2.1]), some (sI x1206), some (sI t.2.2.2)]), [2], none⟩
  | _, _ => Ans.no

theorem impl_stackMachine_putNext_sound : Sound Tryd.prog 54 F_impl_stackMachine_putNext := by
  refine fn_sound' (C := impl_stackMachine_putNext_ctx) (c := bodyOf Tryd.f54) (cok_of tys_ok (alln) (alln) (by kernel_rfl)) Tryd.func54 (by kernel_rfl) LL impl_stackMachine_putNext_an ?_
  intro avs H r H' h
  unfold F_impl_stackMachine_putNext at h
  split at h
  · refine Awp.cast ?_ ?_ ?_ (impl_stackMachine_putNext_e _ _ _ _ h) <;> kernel_rfl
  · simp [Ans.no, Ans.run] at h


/-! (*loop.example/headtrees/impl.stackMachine).upperTwo -/

def impl_stackMachine_upperTwo_an : Ann := (.seq (.leaf [0]) (.seq (.leaf [0, 5]) (.seq (.seq (.leaf [0, 5, 12]) (.cond (.seq (.leaf [2, 3, 4]) (.leaf [2, 3, 4])) (.leaf [0, 5]))) (.seq (.draw [] [0, 1, 2, 3, 4, 5, 6, 7, 8, 9, 10, 11, 12, 13, 14, 15, 16, 17, 18] [] [2, 3, 4]) (.leaf [2, 3, 4])))))

noncomputable def impl_stackMachine_upperTwo_ctx : Ctx := ⟨tlook tys, olook [], ioF, 3, false, []⟩

theorem impl_stackMachine_upperTwo_n1_l (x1048 : Int) (x1049 : Int) (x1050 : List Int) (x1051 : List Int) : Link impl_stackMachine_upperTwo_ctx LL (bodyOf Tryd.f60) impl_stackMachine_upperTwo_an ⟨mkE 29 0 [(0, .ptr 0 0)], [some (.box [.slc 1, .slc 2, dI x1048, dI x1049]), some (sI x1050), some (sI x1051)]⟩ (impl_stackMachine_upperTwo_n1 x1051) (fun (t : Int × Int × Bool) => (Exit.ret, ⟨mkE 29 0 [(2, dI t.1), (3, dI t.2.1), (4, dB t.2.2)], [some (.box [.slc 1, .slc 2, dI x1048, dI x1049]), some (sI x1050), some (sI x1051)]⟩)) := by
  refine Link.of fun K h => ?_
  simp only [impl_stackMachine_upperTwo_n1, wpO_bind, wpO_cond, wpO_map, wpO_some] at h
  exact Awp.of (by kernel_rfl) h

theorem impl_stackMachine_upperTwo_e (x1048 : Int) (x1049 : Int) (x1050 : List Int) (x1051 : List Int) {r : AV} {H' : Heap} (h : (Ans.mk _ (impl_stackMachine_upperTwo x1048 x1049 x1050 x1051) (fun (t : Int × Int × Bool) => (.tup [dI t.1, dI t.2.1, dB t.2.2], [some (.box [.slc 1, .slc 2, dI x1048, dI x1049]), some (sI x1050), some (sI x1051)])) [] none).run = some (r, H')) : Awp impl_stackMachine_upperTwo_ctx LL (bodyOf Tryd.f60) impl_stackMachine_upperTwo_an ⟨mkE 29 0 [(0, .ptr 0 0)], [some (.box [.slc 1, .slc 2, dI x1048, dI x1049]), some (sI x1050), some (sI x1051)]⟩ (Ret (tlook tys) Tryd.f60.results.toList r H') :=
  ret_of' (impl_stackMachine_upperTwo_n1_l x1048 x1049 x1050 x1051) (by unfold impl_stackMachine_upperTwo; kernel_rfl) (by
  intro t
  exact ret_mk [dI t.1, dI t.2.1, dB t.2.2] (by kernel_rfl) (by kernel_rfl) (by kernel_rfl) (by kernel_rfl)) h

def F_impl_stackMachine_upperTwo : Fun := fun avs H =>
  match avs, H with
  | [.ptr 0 0], [some (.box [.slc 1, .slc 2, .dat (.int .i64) x1048, .dat (.int .i64) x1049]), some (.seq (.int .i64) x1050), some (.seq (.int .i64) x1051)] => ⟨_, impl_stackMachine_upperTwo x1048 x1049 x1050 x1051, fun (t : Int × Int × Bool) => (.tup [dI t.1, dI t.2.1, dB t.2.2], [some (.box [.slc 1, .slc 2, dI x1048, dI x1049]), some (sI x1050), some (sI x1051)]), [], none⟩
  | _, _ => Ans.no

theorem impl_stackMachine_upperTwo_sound : Sound Tryd.prog 60 F_impl_stackMachine_upperTwo := by
  refine fn_sound' (C := impl_stackMachine_upperTwo_ctx) (c := bodyOf Tryd.f60) (cok_of tys_ok (alln) (alln) (by kernel_rfl)) Tryd.func60 (by kernel_rfl) LL impl_stackMachine_upperTwo_an ?_
  intro avs H r H' h
  unfold F_impl_stackMachine_upperTwo at h
  split at h
  · refine Awp.cast ?_ ?_ ?_ (impl_stackMachine_upperTwo_e _ _ _ _ h) <;> kernel_rfl
  · simp [Ans.no, Ans.run] at h


/-! (*loop.example/headtrees/impl.stackMachine).join -/

def impl_stackMachine_join_an : Ann := (.seq (.leaf [0, 2]) (.draw [] [0, 1, 2, 3, 4, 5, 6, 7, 8, 9, 10, 11, 12, 13, 14, 15, 16, 17] [] []))

noncomputable def impl_stackMachine_join_ctx : Ctx := ⟨tlook tys, olook [], ioF, 3, false, [2]⟩

theorem impl_stackMachine_join_n1_l (x1082 : Int) (x1083 : Int) (x1084 : Int) (x1085 : Int) (x1086 : List Int) (x1087 : List Int) : Link impl_stackMachine_join_ctx LL (bodyOf Tryd.f75) impl_stackMachine_join_an ⟨mkE 31 0 [(0, .ptr 0 0), (1, dI x1082), (2, dI x1083)], [some (.box [.slc 1, .slc 2, dI x1084, dI x1085]), some (sI x1086), some (sI x1087)]⟩ (impl_stackMachine_join_n1 x1082 x1083 x1086 x1087) (fun (t : (List Int) × (List Int)) => (Exit.normal, ⟨mkE 31 0 [], [some (.box [.slc 1, .slc 2, dI x1084, dI x1085]), some (sI t.1), some (sI t.2)]⟩)) := by
  refine Link.of fun K h => ?_
  simp only [impl_stackMachine_join_n1, wpO_bind, wpO_cond, wpO_map, wpO_some] at h
  exact Awp.of (by kernel_rfl) h

theorem impl_stackMachine_join_e (x1082 : Int) (x1083 : Int) (x1084 : Int) (x1085 : Int) (x1086 : List Int) (x1087 : List Int) {r : AV} {H' : Heap} (h : (Ans.mk _ (impl_stackMachine_join x1082 x1083 x1084 x1085 x1086 x1087) (fun (t : (List Int) × (List Int)) => (.tup [], [some (.box [.slc 1, .slc 2, dI x1084, dI x1085]), some (sI t.1), some (sI t.2)])) [2] none).run = some (r, H')) : Awp impl_stackMachine_join_ctx LL (bodyOf Tryd.f75) impl_stackMachine_join_an ⟨mkE 31 0 [(0, .ptr 0 0), (1, dI x1082), (2, dI x1083)], [some (.box [.slc 1, .slc 2, dI x1084, dI x1085]), some (sI x1086), some (sI x1087)]⟩ (Ret (tlook tys) Tryd.f75.results.toList r H') :=
  ret_of (impl_stackMachine_join_n1_l x1082 x1083 x1084 x1085 x1086 x1087) (fun (t : (List Int) × (List Int)) => (t.1, t.2)) (by unfold impl_stackMachine_join; kernel_rfl) (by
  rintro t
  · exact ret_mk [] (by kernel_rfl) (by kernel_rfl) (by kernel_rfl) (by kernel_rfl)) h

def F_impl_stackMachine_join : Fun := fun avs H =>
  match avs, H with
  | [.ptr 0 0, .dat (.int .i64) x1082, .dat (.int .i64) x1083], [some (.box [.slc 1, .slc 2, .dat (.int .i64) x1084, .dat (.int .i64) x1085]), some (.seq (.int .i64) x1086), some (.seq (.int .i64) x1087)] => ⟨_, impl_stackMachine_join x1082 x1083 x1084 x1085 x1086 x1087, fun (t : (List Int) × (List Int)) => (.tup [], [some (.box [.slc 1, .slc 2, dI x1084, dI x1085]), some (sI t.1), some (sI t.2)]), [2], none⟩
  | _, _ => Ans.no

theorem impl_stackMachine_join_sound : Sound Tryd.prog 75 F_impl_stackMachine_join := by
  refine fn_sound' (C := impl_stackMachine_join_ctx) (c := bodyOf Tryd.f75) (cok_of tys_ok (alln) (alln) (by kernel_rfl)) Tryd.func75 (by kernel_rfl) LL impl_stackMachine_join_an ?_
  intro avs H r H' h
  unfold F_impl_stackMachine_join at h
  split at h
  · refine Awp.cast ?_ ?_ ?_ (impl_stackMachine_join_e _ _ _ _ _ _ h) <;> kernel_rfl
  · simp [Ans.no, Ans.run] at h


/-! (*loop.example/headtrees/impl.stackMachine).takeBelow -/

def impl_stackMachine_takeBelow_an : Ann := (.seq (.leaf [0]) (.seq (.leaf [0, 3, 4, 5]) (.seq (.seq (.leaf [0, 3, 4, 5, 12]) (.cond (.leaf [5]) (.leaf [5]))) (.seq (.leaf [2]) (.leaf [2])))))

noncomputable def impl_stackMachine_takeBelow_ctx : Ctx := ⟨tlook tys, olook [(60, F_impl_stackMachine_upperTwo), (75, F_impl_stackMachine_join)], ioF, 3, false, [2]⟩

theorem impl_stackMachine_takeBelow_n1_l (x1258 : Int) (x1259 : Int) (x1260 : List Int) (x1261 : List Int) : Link impl_stackMachine_takeBelow_ctx LL (bodyOf Tryd.f55) impl_stackMachine_takeBelow_an ⟨mkE 18 0 [(0, .ptr 0 0)], [some (.box [.slc 1, .slc 2, dI x1258, dI x1259]), some (sI x1260), some (sI x1261)]⟩ (impl_stackMachine_takeBelow_n1 x1258 x1259 x1260 x1261) (fun (t : Bool × (List Int) × (List Int)) => (Exit.ret, ⟨mkE 18 0 [(2, dB t.1)], [some (.box [.slc 1, .slc 2, dI x1258, dI x1259]), some (sI t.2.1), some (sI t.2.2)]⟩)) := by
  refine Link.of fun K h => ?_
  simp only [impl_stackMachine_takeBelow_n1, wpO_bind, wpO_cond, wpO_map, wpO_some] at h
  exact Awp.of (by kernel_rfl) h

theorem impl_stackMachine_takeBelow_e (x1258 : Int) (x1259 : Int) (x1260 : List Int) (x1261 : List Int) {r : AV} {H' : Heap} (h : (Ans.mk _ (impl_stackMachine_takeBelow x1258 x1259 x1260 x1261) (fun (t : Bool × (List Int) × (List Int)) => (dB t.1, [some (.box [.slc 1, .slc 2, dI x1258, dI x1259]), some (sI t.2.1), some (sI t.2.2)])) [2] none).run = some (r, H')) : Awp impl_stackMachine_takeBelow_ctx LL (bodyOf Tryd.f55) impl_stackMachine_takeBelow_an ⟨mkE 18 0 [(0, .ptr 0 0)], [some (.box [.slc 1, .slc 2, dI x1258, dI x1259]), some (sI x1260), some (sI x1261)]⟩ (Ret (tlook tys) Tryd.f55.results.toList r H') :=
  ret_of' (impl_stackMachine_takeBelow_n1_l x1258 x1259 x1260 x1261) (by unfold impl_stackMachine_takeBelow; kernel_rfl) (by
  intro t
  exact ret_mk [dB t.1] (by kernel_rfl) (by kernel_rfl) (by kernel_rfl) (by kernel_rfl)) h

def F_impl_stackMachine_takeBelow : Fun := fun avs H =>
  match avs, H with
  | [.ptr 0 0], [some (.box [.slc 1, .slc 2, .dat (.int .i64) x1258, .dat (.int .i64) x1259]), some (.seq (.int .i64) x1260), some (.seq (.int .i64) x1261)] => ⟨_, impl_stackMachine_takeBelow x1258 x1259 x1260 x1261, fun (t : Bool × (List Int) × (List Int)) => (dB t.1, [some (.box [.slc 1, .slc 2, dI x1258, dI x1259]), some (sI t.2.1), some (sI t.2.2)]), [2], none⟩
  | _, _ => Ans.no

theorem impl_stackMachine_takeBelow_sound : Sound Tryd.prog 55 F_impl_stackMachine_takeBelow := by
  refine fn_sound' (C := impl_stackMachine_takeBelow_ctx) (c := bodyOf Tryd.f55) (cok_of tys_ok (allc impl_stackMachine_upperTwo_sound (allc impl_stackMachine_join_sound alln)) (allc Tryd.call60 (allc Tryd.call75 alln)) (by kernel_rfl)) Tryd.func55 (by kernel_rfl) LL impl_stackMachine_takeBelow_an ?_
  intro avs H r H' h
  unfold F_impl_stackMachine_takeBelow at h
  split at h
  · refine Awp.cast ?_ ?_ ?_ (impl_stackMachine_takeBelow_e _ _ _ _ h) <;> kernel_rfl
  · simp [Ans.no, Ans.run] at h


/-! (*loop.example/headtrees/impl.stackMachine).takeUpper -/

def impl_stackMachine_takeUpper_an : Ann := (.seq (.leaf [0]) (.seq (.leaf [0, 3, 4, 5]) (.seq (.seq (.leaf [0, 3, 4, 5, 12]) (.cond (.leaf [5]) (.leaf [5]))) (.seq (.leaf [2]) (.leaf [2])))))

noncomputable def impl_stackMachine_takeUpper_ctx : Ctx := ⟨tlook tys, olook [(60, F_impl_stackMachine_upperTwo), (75, F_impl_stackMachine_join)], ioF, 3, false, [2]⟩

theorem impl_stackMachine_takeUpper_n1_l (x1295 : Int) (x1296 : Int) (x1297 : List Int) (x1298 : List Int) : Link impl_stackMachine_takeUpper_ctx LL (bodyOf Tryd.f56) impl_stackMachine_takeUpper_an ⟨mkE 18 0 [(0, .ptr 0 0)], [some (.box [.slc 1, .slc 2, dI x1295, dI x1296]), some (sI x1297), some (sI x1298)]⟩ (impl_stackMachine_takeUpper_n1 x1295 x1296 x1297 x1298) (fun (t : Bool × (List Int) × (List Int)) => (Exit.ret, ⟨mkE 18 0 [(2, dB t.1)], [some (.box [.slc 1, .slc 2, dI x1295, dI x1296]), some (sI t.2.1), some (sI t.2.2)]⟩)) := by
  refine Link.of fun K h => ?_
  simp only [impl_stackMachine_takeUpper_n1, wpO_bind, wpO_cond, wpO_map, wpO_some] at h
  exact Awp.of (by kernel_rfl) h

theorem impl_stackMachine_takeUpper_e (x1295 : Int) (x1296 : Int) (x1297 : List Int) (x1298 : List Int) {r : AV} {H' : Heap} (h : (Ans.mk _ (impl_stackMachine_takeUpper x1295 x1296 x1297 x1298) (fun (t : Bool × (List Int) × (List Int)) => (dB t.1, [some (.box [.slc 1, .slc 2, dI x1295, dI x1296]), some (sI t.2.1), some (sI t.2.2)])) [2] none).run = some (r, H')) : Awp impl_stackMachine_takeUpper_ctx LL (bodyOf Tryd.f56) impl_stackMachine_takeUpper_an ⟨mkE 18 0 [(0, .ptr 0 0)], [some (.box [.slc 1, .slc 2, dI x1295, dI x1296]), some (sI x1297), some (sI x1298)]⟩ (Ret (tlook tys) Tryd.f56.results.toList r H') :=
  ret_of' (impl_stackMachine_takeUpper_n1_l x1295 x1296 x1297 x1298) (by unfold impl_stackMachine_takeUpper; kernel_rfl) (by
  intro t
  exact ret_mk [dB t.1] (by kernel_rfl) (by kernel_rfl) (by kernel_rfl) (by kernel_rfl)) h

def F_impl_stackMachine_takeUpper : Fun := fun avs H =>
  match avs, H with
  | [.ptr 0 0], [some (.box [.slc 1, .slc 2, .dat (.int .i64) x1295, .dat (.int .i64) x1296]), some (.seq (.int .i64) x1297), some (.seq (.int .i64) x1298)] => ⟨_, impl_stackMachine_takeUpper x1295 x1296 x1297 x1298, fun (t : Bool × (List Int) × (List Int)) => (dB t.1, [some (.box [.slc 1, .slc 2, dI x1295, dI x1296]), some (sI t.2.1), some (sI t.2.2)]), [2], none⟩
  | _, _ => Ans.no

theorem impl_stackMachine_takeUpper_sound : Sound Tryd.prog 56 F_impl_stackMachine_takeUpper := by
  refine fn_sound' (C := impl_stackMachine_takeUpper_ctx) (c := bodyOf Tryd.f56) (cok_of tys_ok (allc impl_stackMachine_upperTwo_sound (allc impl_stackMachine_join_sound alln)) (allc Tryd.call60 (allc Tryd.call75 alln)) (by kernel_rfl)) Tryd.func56 (by kernel_rfl) LL impl_stackMachine_takeUpper_an ?_
  intro avs H r H' h
  unfold F_impl_stackMachine_takeUpper at h
  split at h
  · refine Awp.cast ?_ ?_ ?_ (impl_stackMachine_takeUpper_e _ _ _ _ h) <;> kernel_rfl
  · simp [Ans.no, Ans.run] at h


/-! loop.example/headtrees/impl.allDone[*loop.example/headtrees/impl.stackMachine] -/

def impl_allDone_impl_stackMachine_an : Ann := (.seq (.leaf [0, 1, 2]) (.seq (.seq (.leafF [⟨3, 0, false, some 1, some (.int .i64)⟩] [0, 1, 2, 11, 12]) (.block (.loop (.seq (.leaf [0, 1, 2, 11, 12, 13]) (.seq (.cond (.leaf [0, 1, 2, 11, 12]) (.leaf [])) (.seq (.block (.seq (.leaf [0, 1, 2, 7, 11, 12]) (.seq (.leaf [0, 1, 2, 8, 9, 11, 12]) (.seq (.leaf [0, 1, 2, 11, 12, 30]) (.cond (.seq (.leaf [6]) (.leaf [6])) (.leaf [0, 1, 2, 11, 12])))))) (.leaf [0, 1, 2, 11, 12]))))))) (.seq (.leaf [6]) (.leaf [6]))))

noncomputable def impl_allDone_impl_stackMachine_ctx : Ctx := ⟨tlook tys, olook [(54, F_impl_stackMachine_putNext), (55, F_impl_stackMachine_takeBelow), (56, F_impl_stackMachine_takeUpper)], ioF, 2, false, []⟩

theorem impl_allDone_impl_stackMachine_n1_l (x921 : ByteArray) (x922 : Int) (x923 : Int) (x924 : List Int) : Link impl_allDone_impl_stackMachine_ctx LL (cq [0] (bodyOf Tryd.f50)) (aq [0] impl_allDone_impl_stackMachine_an) ⟨mkE 32 0 [(0, .ptr 0 0), (1, .fmap [(.int .u8 83, .func 54), (.int .u8 76, .func 55), (.int .u8 82, .func 56)]), (2, dS x921)], [some (.box [.slc 1, .nils, dI x922, dI x923]), some (sI x924)]⟩ (impl_allDone_impl_stackMachine_n1) (fun (t : Unit) => (Exit.normal, ⟨mkE 32 0 [(0, .ptr 0 0), (1, .fmap [(.int .u8 83, .func 54), (.int .u8 76, .func 55), (.int .u8 82, .func 56)]), (2, dS x921)], [some (.box [.slc 1, .nils, dI x922, dI x923]), some (sI x924)]⟩)) := by
  refine Link.of fun K h => ?_
  simp only [impl_allDone_impl_stackMachine_n1, wpO_bind, wpO_cond, wpO_map, wpO_some] at h
  exact Awp.of (by kernel_rfl) h

theorem impl_allDone_impl_stackMachine_n2_l (x921 : ByteArray) (x922 : Int) (x923 : Int) (x924 : List Int) : Link impl_allDone_impl_stackMachine_ctx LL (cq [0,0,1] (bodyOf Tryd.f50)) (aq [0,0,1] impl_allDone_impl_stackMachine_an) ⟨mkE 32 0 [(0, .ptr 0 0), (1, .fmap [(.int .u8 83, .func 54), (.int .u8 76, .func 55), (.int .u8 82, .func 56)]), (2, dS x921)], [some (.box [.slc 1, .nils, dI x922, dI x923]), some (sI x924)]⟩ (impl_allDone_impl_stackMachine_n2 x921) (fun (t : Int) => (Exit.normal, ⟨mkE 32 0 [(0, .ptr 0 0), (1, .fmap [(.int .u8 83, .func 54), (.int .u8 76, .func 55), (.int .u8 82, .func 56)]), (2, dS x921), (11, dI t), (12, dI 0)], [some (.box [.slc 1, .slc 2, dI x922, dI x923]), some (sI x924), some (sI ([] : List Int))]⟩)) := by
  refine Link.of fun K h => ?_
  simp only [impl_allDone_impl_stackMachine_n2, wpO_bind, wpO_cond, wpO_map, wpO_some] at h
  exact Awp.of (by kernel_rfl) h

theorem impl_allDone_impl_stackMachine_n3_l (x921 : ByteArray) (x1198 : Int) (x1360 : Int) (x1361 : Int) (x1362 : Int) (x1363 : List Int) (x1364 : List Int) : Link impl_allDone_impl_stackMachine_ctx LL (cq [0,0,1,0,1] (bodyOf Tryd.f50)) (aq [0,0,1,0,1] impl_allDone_impl_stackMachine_an) ⟨mkE 32 0 [(0, .ptr 0 0), (1, .fmap [(.int .u8 83, .func 54), (.int .u8 76, .func 55), (.int .u8 82, .func 56)]), (2, dS x921), (11, dI x1198), (12, dI x1360)], [some (.box [.slc 1, .slc 2, dI x1361, dI x1362]), some (sI x1363), some (sI x1364)]⟩ (impl_allDone_impl_stackMachine_n3 x921 x1198 x1360 x1361 x1362 x1363 x1364) (Sum.elim (fun (t : Int × Int × Int × (List Int) × (List Int)) => (Exit.normal, ⟨mkE 32 0 [(0, .ptr 0 0), (1, .fmap [(.int .u8 83, .func 54), (.int .u8 76, .func 55), (.int .u8 82, .func 56)]), (2, dS x921), (11, dI x1198), (12, dI t.1)], [some (.box [.slc 1, .slc 2, dI t.2.1, dI t.2.2.1]), some (sI t.2.2.2.1), some (sI t.2.2.2.2)]⟩)) (Sum.elim (fun (t : Bool × Int × Int × (List Int) × (List Int)) => (Exit.ret, ⟨mkE 32 0 [(6, dB t.1)], [some (.box [.slc 1, .slc 2, dI t.2.1, dI t.2.2.1]), some (sI t.2.2.2.1), some (sI t.2.2.2.2)]⟩)) (fun (t : Int × Int × (List Int) × (List Int)) => ((Exit.exit 0), ⟨mkE 32 0 [], [some (.box [.slc 1, .slc 2, dI t.1, dI t.2.1]), some (sI t.2.2.1), some (sI t.2.2.2)]⟩)))) := by
  refine Link.of fun K h => ?_
  simp only [impl_allDone_impl_stackMachine_n3, wpO_bind, wpO_cond, wpO_map, wpO_some] at h
  exact Awp.of (by kernel_rfl) h

def impl_allDone_impl_stackMachine_n4_l (x921 : ByteArray) (x1198 : Int) (x922 : Int) (x923 : Int) (x924 : List Int) := (link_loop (mk := fun (s : Int × Int × Int × (List Int) × (List Int)) => ⟨mkE 32 0 [(0, .ptr 0 0), (1, .fmap [(.int .u8 83, .func 54), (.int .u8 76, .func 55), (.int .u8 82, .func 56)]), (2, dS x921), (11, dI x1198), (12, dI s.1)], [some (.box [.slc 1, .slc 2, dI s.2.1, dI s.2.2.1]), some (sI s.2.2.2.1), some (sI s.2.2.2.2)]⟩) (fin := (Sum.elim (fun (t : Bool × Int × Int × (List Int) × (List Int)) => (Exit.ret, ⟨mkE 32 0 [(6, dB t.1)], [some (.box [.slc 1, .slc 2, dI t.2.1, dI t.2.2.1]), some (sI t.2.2.2.1), some (sI t.2.2.2.2)]⟩)) (fun (t : Int × Int × (List Int) × (List Int)) => ((Exit.exit 0), ⟨mkE 32 0 [], [some (.box [.slc 1, .slc 2, dI t.1, dI t.2.1]), some (sI t.2.2.1), some (sI t.2.2.2)]⟩)))) (by
  rintro (t | t) f K h
  · exact h
  · exact h) (fun s => link_map (impl_allDone_impl_stackMachine_n3_l x921 x1198 s.1 s.2.1 s.2.2.1 s.2.2.2.1 s.2.2.2.2) (Sum.elim (fun (t : Int × Int × Int × (List Int) × (List Int)) => Sum.inl (t.1, t.2.1, t.2.2.1, t.2.2.2.1, t.2.2.2.2)) (Sum.elim (fun (t : Bool × Int × Int × (List Int) × (List Int)) => Sum.inr (Sum.inl t)) (fun (t : Int × Int × (List Int) × (List Int)) => Sum.inr (Sum.inr t)))) (by
  rintro (t | t | t)
  · kernel_rfl
  · kernel_rfl
  · kernel_rfl)) (0, x922, x923, x924, ([] : List Int)))

def impl_allDone_impl_stackMachine_n5_l (x921 : ByteArray) (x1198 : Int) (x922 : Int) (x923 : Int) (x924 : List Int) := (link_block (fin2 := (Sum.elim (fun (t : Int × Int × (List Int) × (List Int)) => (Exit.normal, ⟨mkE 32 0 [], [some (.box [.slc 1, .slc 2, dI t.1, dI t.2.1]), some (sI t.2.2.1), some (sI t.2.2.2)]⟩)) (fun (t : Bool × Int × Int × (List Int) × (List Int)) => (Exit.ret, ⟨mkE 32 0 [(6, dB t.1)], [some (.box [.slc 1, .slc 2, dI t.2.1, dI t.2.2.1]), some (sI t.2.2.2.1), some (sI t.2.2.2.2)]⟩)))) (id := 0) (impl_allDone_impl_stackMachine_n4_l x921 x1198 x922 x923 x924) (Sum.elim (fun (t : Bool × Int × Int × (List Int) × (List Int)) => (Sum.inr t)) (fun (t : Int × Int × (List Int) × (List Int)) => (Sum.inl (t.1, t.2.1, t.2.2.1, t.2.2.2)))) (by
  rintro (t | t) K h
  · exact Eq.mp (by kernel_rfl) h
  · exact Eq.mp (by kernel_rfl) h))

def impl_allDone_impl_stackMachine_n6_l (x921 : ByteArray) (x922 : Int) (x923 : Int) (x924 : List Int) := (link_seq (impl_allDone_impl_stackMachine_n2_l x921 x922 x923 x924) (fun (t : Int) => (impl_allDone_impl_stackMachine_n5_l x921 t x922 x923 x924)))

theorem impl_allDone_impl_stackMachine_n7_l (x1361 : Int) (x1362 : Int) (x1363 : List Int) (x1364 : List Int) : Link impl_allDone_impl_stackMachine_ctx LL (cq [1,1] (bodyOf Tryd.f50)) (aq [1,1] impl_allDone_impl_stackMachine_an) ⟨mkE 32 0 [], [some (.box [.slc 1, .slc 2, dI x1361, dI x1362]), some (sI x1363), some (sI x1364)]⟩ (impl_allDone_impl_stackMachine_n7 x1361 x1362 x1363 x1364) (fun (t : Bool × Int × Int × (List Int) × (List Int)) => (Exit.ret, ⟨mkE 32 0 [(6, dB t.1)], [some (.box [.slc 1, .slc 2, dI t.2.1, dI t.2.2.1]), some (sI t.2.2.2.1), some (sI t.2.2.2.2)]⟩)) := by
  refine Link.of fun K h => ?_
  simp only [impl_allDone_impl_stackMachine_n7, wpO_bind, wpO_cond, wpO_map, wpO_some] at h
  exact Awp.of (by kernel_rfl) h

def impl_allDone_impl_stackMachine_n8_l (x921 : ByteArray) (x922 : Int) (x923 : Int) (x924 : List Int) := (link_seq2 (impl_allDone_impl_stackMachine_n6_l x921 x922 x923 x924) (fun (t : Int × Int × (List Int) × (List Int)) => (impl_allDone_impl_stackMachine_n7_l t.1 t.2.1 t.2.2.1 t.2.2.2)) (fun (t : Bool × Int × Int × (List Int) × (List Int)) => t) (by
  rintro t
  · kernel_rfl) (by
  rintro t f K h
  · exact h))

def impl_allDone_impl_stackMachine_n9_l (x921 : ByteArray) (x922 : Int) (x923 : Int) (x924 : List Int) := (link_seq (impl_allDone_impl_stackMachine_n1_l x921 x922 x923 x924) (fun (t : Unit) => (impl_allDone_impl_stackMachine_n8_l x921 x922 x923 x924)))

theorem impl_allDone_impl_stackMachine_e (x921 : ByteArray) (x922 : Int) (x923 : Int) (x924 : List Int) {r : AV} {H' : Heap} (h : (Ans.mk _ (impl_allDone_impl_stackMachine x921 x922 x923 x924) (fun (t : Bool × Int × Int × (List Int) × (List Int)) => (dB t.1, [some (.box [.slc 1, .slc 2, dI t.2.1, dI t.2.2.1]), some (sI t.2.2.2.1), some (sI t.2.2.2.2)])) [] none).run = some (r, H')) : Awp impl_allDone_impl_stackMachine_ctx LL (bodyOf Tryd.f50) impl_allDone_impl_stackMachine_an ⟨mkE 32 0 [(0, .ptr 0 0), (1, .fmap [(.int .u8 83, .func 54), (.int .u8 76, .func 55), (.int .u8 82, .func 56)]), (2, dS x921)], [some (.box [.slc 1, .nils, dI x922, dI x923]), some (sI x924)]⟩ (Ret (tlook tys) Tryd.f50.results.toList r H') :=
  ret_of' (Link.cast (by kernel_rfl) (by kernel_rfl) (impl_allDone_impl_stackMachine_n9_l x921 x922 x923 x924)) (by unfold impl_allDone_impl_stackMachine; kernel_rfl) (by
  intro t
  exact ret_mk [dB t.1] (by kernel_rfl) (by kernel_rfl) (by kernel_rfl) (by kernel_rfl)) h

def F_impl_allDone_impl_stackMachine : Fun := fun avs H =>
  match avs, H with
  | [.ptr 0 0, .fmap [(.int .u8 83, .func 54), (.int .u8 76, .func 55), (.int .u8 82, .func 56)], .dat .str x921], [some (.box [.slc 1, .nils, .dat (.int .i64) x922, .dat (.int .i64) x923]), some (.seq (.int .i64) x924)] => ⟨_, impl_allDone_impl_stackMachine x921 x922 x923 x924, fun (t : Bool × Int × Int × (List Int) × (List Int)) => (dB t.1, [some (.box [.slc 1, .slc 2, dI t.2.1, dI t.2.2.1]), some (sI t.2.2.2.1), some (sI t.2.2.2.2)]), [], none⟩
  | _, _ => Ans.no

theorem impl_allDone_impl_stackMachine_sound : Sound Tryd.prog 50 F_impl_allDone_impl_stackMachine := by
  refine fn_sound' (C := impl_allDone_impl_stackMachine_ctx) (c := bodyOf Tryd.f50) (cok_of tys_ok (allc impl_stackMachine_putNext_sound (allc impl_stackMachine_takeBelow_sound (allc impl_stackMachine_takeUpper_sound alln))) (allc Tryd.call54 (allc Tryd.call55 (allc Tryd.call56 alln))) (by kernel_rfl)) Tryd.func50 (by kernel_rfl) LL impl_allDone_impl_stackMachine_an ?_
  intro avs H r H' h
  unfold F_impl_allDone_impl_stackMachine at h
  split at h
  · refine Awp.cast ?_ ?_ ?_ (impl_allDone_impl_stackMachine_e _ _ _ _ h) <;> kernel_rfl
  · simp [Ans.no, Ans.run] at h


/-! (*loop.example/headtrees/impl.stackMachine).ended -/

def impl_stackMachine_ended_an : Ann := (.seq (.leaf [0]) (.seq (.draw [] [0, 1, 2, 3, 4, 5, 6, 7, 8, 9, 10, 11, 12, 13, 14, 15, 16, 17, 18] [] [2]) (.leaf [2])))

noncomputable def impl_stackMachine_ended_ctx : Ctx := ⟨tlook tys, olook [], ioF, 3, false, []⟩

theorem impl_stackMachine_ended_n1_l (x1429 : Int) (x1430 : Int) (x1431 : List Int) (x1432 : List Int) : Link impl_stackMachine_ended_ctx LL (bodyOf Tryd.f51) impl_stackMachine_ended_an ⟨mkE 21 0 [(0, .ptr 0 0)], [some (.box [.slc 1, .slc 2, dI x1429, dI x1430]), some (sI x1431), some (sI x1432)]⟩ (impl_stackMachine_ended_n1 x1429 x1431 x1432) (fun (t : Bool) => (Exit.ret, ⟨mkE 21 0 [(2, dB t)], [some (.box [.slc 1, .slc 2, dI x1429, dI x1430]), some (sI x1431), some (sI x1432)]⟩)) := by
  refine Link.of fun K h => ?_
  simp only [impl_stackMachine_ended_n1, wpO_bind, wpO_cond, wpO_map, wpO_some] at h
  exact Awp.of (by kernel_rfl) h

theorem impl_stackMachine_ended_e (x1429 : Int) (x1430 : Int) (x1431 : List Int) (x1432 : List Int) {r : AV} {H' : Heap} (h : (Ans.mk _ (impl_stackMachine_ended x1429 x1430 x1431 x1432) (fun (t : Bool) => (dB t, [some (.box [.slc 1, .slc 2, dI x1429, dI x1430]), some (sI x1431), some (sI x1432)])) [] none).run = some (r, H')) : Awp impl_stackMachine_ended_ctx LL (bodyOf Tryd.f51) impl_stackMachine_ended_an ⟨mkE 21 0 [(0, .ptr 0 0)], [some (.box [.slc 1, .slc 2, dI x1429, dI x1430]), some (sI x1431), some (sI x1432)]⟩ (Ret (tlook tys) Tryd.f51.results.toList r H') :=
  ret_of' (impl_stackMachine_ended_n1_l x1429 x1430 x1431 x1432) (by unfold impl_stackMachine_ended; kernel_rfl) (by
  intro t
  exact ret_mk [dB t] (by kernel_rfl) (by kernel_rfl) (by kernel_rfl) (by kernel_rfl)) h

def F_impl_stackMachine_ended : Fun := fun avs H =>
  match avs, H with
  | [.ptr 0 0], [some (.box [.slc 1, .slc 2, .dat (.int .i64) x1429, .dat (.int .i64) x1430]), some (.seq (.int .i64) x1431), some (.seq (.int .i64) x1432)] => ⟨_, impl_stackMachine_ended x1429 x1430 x1431 x1432, fun (t : Bool) => (dB t, [some (.box [.slc 1, .slc 2, dI x1429, dI x1430]), some (sI x1431), some (sI x1432)]), [], none⟩
  | _, _ => Ans.no

theorem impl_stackMachine_ended_sound : Sound Tryd.prog 51 F_impl_stackMachine_ended := by
  refine fn_sound' (C := impl_stackMachine_ended_ctx) (c := bodyOf Tryd.f51) (cok_of tys_ok (alln) (alln) (by kernel_rfl)) Tryd.func51 (by kernel_rfl) LL impl_stackMachine_ended_an ?_
  intro avs H r H' h
  unfold F_impl_stackMachine_ended at h
  split at h
  · refine Awp.cast ?_ ?_ ?_ (impl_stackMachine_ended_e _ _ _ _ h) <;> kernel_rfl
  · simp [Ans.no, Ans.run] at h


/-! loop.example/headtrees/impl.afterMoves -/

def impl_afterMoves_an : Ann := (.seq (.leaf [0, 1]) (.seq (.seq (.leaf [0, 1, 12]) (.cond (.seq (.leaf [4, 5]) (.leaf [4, 5])) (.leaf [0, 1]))) (.seq (.leaf [1, 6]) (.seq (.seq (.leaf [6, 24]) (.cond (.seq (.leaf [4, 5]) (.leaf [4, 5])) (.leaf [6]))) (.seq (.leaf [4, 5]) (.leaf [4, 5]))))))

noncomputable def impl_afterMoves_ctx : Ctx := ⟨tlook tys, olook [(33, F_impl_newStackMachine), (34, F_impl_stackMoves), (50, F_impl_allDone_impl_stackMachine), (51, F_impl_stackMachine_ended)], ioF, 0, false, []⟩

theorem impl_afterMoves_n1_l (x905 : Int) (x906 : ByteArray) : Link impl_afterMoves_ctx LL (bodyOf Tryd.f29) impl_afterMoves_an ⟨mkE 26 0 [(0, dI x905), (1, dS x906)], []⟩ (impl_afterMoves_n1 x905 x906) (Sum.elim (fun (t : Int × Int × (List Int) × (List Int)) => (Exit.ret, ⟨mkE 26 0 [(4, .ptr 0 0), (5, dB true)], [some (.box [.slc 1, .slc 2, dI t.1, dI t.2.1]), some (sI t.2.2.1), some (sI t.2.2.2)]⟩)) (fun (t : Unit) => (Exit.ret, ⟨mkE 26 0 [(4, .raw (.pointer none)), (5, dB false)], []⟩))) := by
  refine Link.of fun K h => ?_
  simp only [impl_afterMoves_n1, wpO_bind, wpO_cond, wpO_map, wpO_some] at h
  exact Awp.of (by kernel_rfl) h

theorem impl_afterMoves_e (x905 : Int) (x906 : ByteArray) {r : AV} {H' : Heap} (h : (Ans.mk _ (impl_afterMoves x905 x906) (fun (t : Bool × Int × Int × (List Int) × (List Int)) => (.tup [.ptr 0 0, dB true], [some (.box [.slc 1, .slc 2, dI t.2.1, dI t.2.2.1]), some (sI t.2.2.2.1), some (sI t.2.2.2.2)])) [] (some (fun (t : Bool × Int × Int × (List Int) × (List Int)) => t.1, fun (t : Bool × Int × Int × (List Int) × (List Int)) => (.tup [.raw (.pointer none), dB false], [])))).run = some (r, H')) : Awp impl_afterMoves_ctx LL (bodyOf Tryd.f29) impl_afterMoves_an ⟨mkE 26 0 [(0, dI x905), (1, dS x906)], []⟩ (Ret (tlook tys) Tryd.f29.results.toList r H') :=
  ret_of2 (impl_afterMoves_n1_l x905 x906) (Sum.elim (fun (t : Int × Int × (List Int) × (List Int)) => (true, t.1, t.2.1, t.2.2.1, t.2.2.2)) (fun (t : Unit) => (false, 0, 0, [], []))) (by unfold impl_afterMoves; kernel_rfl) (by
  rintro (t | t)
  · exact ret_mk [.ptr 0 0, dB true] (by kernel_rfl) (by kernel_rfl) (by kernel_rfl) (by kernel_rfl)
  · exact ret_mk [.raw (.pointer none), dB false] (by kernel_rfl) (by kernel_rfl) (by kernel_rfl) (by kernel_rfl)) h

def F_impl_afterMoves : Fun := fun avs H =>
  match avs, H with
  | [.dat (.int .i64) x905, .dat .str x906], [] => ⟨_, impl_afterMoves x905 x906, fun (t : Bool × Int × Int × (List Int) × (List Int)) => (.tup [.ptr 0 0, dB true], [some (.box [.slc 1, .slc 2, dI t.2.1, dI t.2.2.1]), some (sI t.2.2.2.1), some (sI t.2.2.2.2)]), [], (some (fun (t : Bool × Int × Int × (List Int) × (List Int)) => t.1, fun (t : Bool × Int × Int × (List Int) × (List Int)) => (.tup [.raw (.pointer none), dB false], [])))⟩
  | _, _ => Ans.no

theorem impl_afterMoves_sound : Sound Tryd.prog 29 F_impl_afterMoves := by
  refine fn_sound' (C := impl_afterMoves_ctx) (c := bodyOf Tryd.f29) (cok_of tys_ok (allc impl_newStackMachine_sound (allc impl_stackMoves_sound (allc impl_allDone_impl_stackMachine_sound (allc impl_stackMachine_ended_sound alln)))) (allc Tryd.call33 (allc Tryd.call34 (allc Tryd.call50 (allc Tryd.call51 alln)))) (by kernel_rfl)) Tryd.func29 (by kernel_rfl) LL impl_afterMoves_an ?_
  intro avs H r H' h
  unfold F_impl_afterMoves at h
  split at h
  · refine Awp.cast ?_ ?_ ?_ (impl_afterMoves_e _ _ h) <;> kernel_rfl
  · simp [Ans.no, Ans.run] at h


/-! loop.example/headtrees/impl.RunStack -/

def impl_RunStack_an : Ann := (.seq (.leaf [0, 1]) (.seq (.leaf [6, 7]) (.seq (.seq (.leaf [6, 15]) (.cond (.seq (.leaf [4, 5]) (.leaf [4, 5])) (.leaf [6]))) (.seq (.leaf [4, 5]) (.leaf [4, 5])))))

noncomputable def impl_RunStack_ctx : Ctx := ⟨tlook tys, olook [(29, F_impl_afterMoves)], ioF, 0, false, []⟩

theorem impl_RunStack_n1_l (x902 : Int) (x903 : ByteArray) : Link impl_RunStack_ctx LL (bodyOf Tryd.f10) impl_RunStack_an ⟨mkE 20 0 [(0, dI x902), (1, dS x903)], []⟩ (impl_RunStack_n1 x902 x903) (fun (t : Bool × (List Int)) => (Exit.ret, ⟨mkE 20 0 [(4, .slc 0), (5, dB t.1)], [some (sI t.2)]⟩)) := by
  refine Link.of fun K h => ?_
  simp only [impl_RunStack_n1, wpO_bind, wpO_cond, wpO_map, wpO_some] at h
  exact Awp.of (by kernel_rfl) h

theorem impl_RunStack_e (x902 : Int) (x903 : ByteArray) {r : AV} {H' : Heap} (h : (Ans.mk _ (impl_RunStack x902 x903) (fun (t : Bool × (List Int)) => (.tup [.slc 0, dB t.1], [some (sI t.2)])) [] none).run = some (r, H')) : Awp impl_RunStack_ctx LL (bodyOf Tryd.f10) impl_RunStack_an ⟨mkE 20 0 [(0, dI x902), (1, dS x903)], []⟩ (Ret (tlook tys) Tryd.f10.results.toList r H') :=
  ret_of' (impl_RunStack_n1_l x902 x903) (by unfold impl_RunStack; kernel_rfl) (by
  intro t
  exact ret_mk [.slc 0, dB t.1] (by kernel_rfl) (by kernel_rfl) (by kernel_rfl) (by kernel_rfl)) h

def F_impl_RunStack : Fun := fun avs H =>
  match avs, H with
  | [.dat (.int .i64) x902, .dat .str x903], [] => ⟨_, impl_RunStack x902 x903, fun (t : Bool × (List Int)) => (.tup [.slc 0, dB t.1], [some (sI t.2)]), [], none⟩
  | _, _ => Ans.no

theorem impl_RunStack_sound : Sound Tryd.prog 10 F_impl_RunStack := by
  refine fn_sound' (C := impl_RunStack_ctx) (c := bodyOf Tryd.f10) (cok_of tys_ok (allc impl_afterMoves_sound alln) (allc Tryd.call29 alln) (by kernel_rfl)) Tryd.func10 (by kernel_rfl) LL impl_RunStack_an ?_
  intro avs H r H' h
  unfold F_impl_RunStack at h
  split at h
  · refine Awp.cast ?_ ?_ ?_ (impl_RunStack_e _ _ h) <;> kernel_rfl
  · simp [Ans.no, Ans.run] at h


/-! loop.example/headtrees/spec.l1In -/

def spec_l1In_an : Ann := (.seq (.leaf [0, 1, 2]) (.seq (.leaf [6]) (.leaf [6])))

noncomputable def spec_l1In_ctx : Ctx := ⟨tlook tys, olook [], ioF, 0, false, []⟩

theorem spec_l1In_n1_l (x1554 : Int) (x1555 : Int) (x1556 : Int) : Link spec_l1In_ctx LL (bodyOf Tryd.f30) spec_l1In_an ⟨mkE 15 0 [(0, dI x1554), (1, dI x1555), (2, dI x1556)], []⟩ (spec_l1In_n1 x1554 x1555 x1556) (fun (t : Bool) => (Exit.ret, ⟨mkE 15 0 [(6, dB t)], []⟩)) := by
  refine Link.of fun K h => ?_
  simp only [spec_l1In_n1, wpO_bind, wpO_cond, wpO_map, wpO_some] at h
  exact Awp.of (by kernel_rfl) h

theorem spec_l1In_e (x1554 : Int) (x1555 : Int) (x1556 : Int) {r : AV} {H' : Heap} (h : (Ans.mk _ (spec_l1In x1554 x1555 x1556) (fun (t : Bool) => (dB t, [])) [] none).run = some (r, H')) : Awp spec_l1In_ctx LL (bodyOf Tryd.f30) spec_l1In_an ⟨mkE 15 0 [(0, dI x1554), (1, dI x1555), (2, dI x1556)], []⟩ (Ret (tlook tys) Tryd.f30.results.toList r H') :=
  ret_of' (spec_l1In_n1_l x1554 x1555 x1556) (by unfold spec_l1In; kernel_rfl) (by
  intro t
  exact ret_mk [dB t] (by kernel_rfl) (by kernel_rfl) (by kernel_rfl) (by kernel_rfl)) h

def F_spec_l1In : Fun := fun avs H =>
  match avs, H with
  | [.dat (.int .i64) x1554, .dat (.int .i64) x1555, .dat (.int .i64) x1556], [] => ⟨_, spec_l1In x1554 x1555 x1556, fun (t : Bool) => (dB t, []), [], none⟩
  | _, _ => Ans.no

theorem spec_l1In_sound : Sound Tryd.prog 30 F_spec_l1In := by
  refine fn_sound' (C := spec_l1In_ctx) (c := bodyOf Tryd.f30) (cok_of tys_ok (alln) (alln) (by kernel_rfl)) Tryd.func30 (by kernel_rfl) LL spec_l1In_an ?_
  intro avs H r H' h
  unfold F_spec_l1In at h
  split at h
  · refine Awp.cast ?_ ?_ ?_ (spec_l1In_e _ _ _ h) <;> kernel_rfl
  · simp [Ans.no, Ans.run] at h


/-! loop.example/headtrees/laws.sameInts -/

def laws_sameInts_an : Ann := (.seq (.leaf [0, 1]) (.seq (.seq (.leaf [0, 1, 10]) (.cond (.seq (.leaf [4]) (.leaf [4])) (.leaf [0, 1]))) (.seq (.seq (.leaf [0, 1, 5]) (.block (.loop (.seq (.seq (.leaf [0, 1, 5, 14]) (.cond (.leaf [0, 1, 5]) (.leaf []))) (.seq (.block (.seq (.draw [] [0, 1, 2, 3, 4, 5, 6, 7, 8] [] [0, 1, 5, 25]) (.cond (.seq (.leaf [4]) (.leaf [4])) (.leaf [0, 1, 5])))) (.leaf [0, 1, 5])))))) (.seq (.leaf [4]) (.leaf [4])))))

noncomputable def laws_sameInts_ctx : Ctx := ⟨tlook tys, olook [], ioF, 0, false, []⟩

theorem laws_sameInts_n1_l (x3120 : List Int) (x3121 : List Int) : Link laws_sameInts_ctx LL (Code.seq (cq [0] (bodyOf Tryd.f12)) (cq [0,1] (bodyOf Tryd.f12))) (Ann.seq (aq [0] laws_sameInts_an) (aq [0,1] laws_sameInts_an)) ⟨mkE 26 0 [(0, dL x3120), (1, dL x3121)], []⟩ (laws_sameInts_n1 x3120 x3121) (Sum.elim (fun (t : Unit) => (Exit.normal, ⟨mkE 26 0 [(0, dL x3120), (1, dL x3121)], []⟩)) (fun (t : Bool) => (Exit.ret, ⟨mkE 26 0 [(4, dB t)], []⟩))) := by
  refine Link.of fun K h => ?_
  simp only [laws_sameInts_n1, wpO_bind, wpO_cond, wpO_map, wpO_some] at h
  exact Awp.of (by kernel_rfl) h

theorem laws_sameInts_n2_l (x3120 : List Int) (x3121 : List Int) : Link laws_sameInts_ctx LL (cq [0,0,1,1] (bodyOf Tryd.f12)) (aq [0,0,1,1] laws_sameInts_an) ⟨mkE 26 0 [(0, dL x3120), (1, dL x3121)], []⟩ (laws_sameInts_n2) (fun (t : Unit) => (Exit.normal, ⟨mkE 26 0 [(0, dL x3120), (1, dL x3121), (5, dI 0)], []⟩)) := by
  refine Link.of fun K h => ?_
  simp only [laws_sameInts_n2, wpO_bind, wpO_cond, wpO_map, wpO_some] at h
  exact Awp.of (by kernel_rfl) h

theorem laws_sameInts_n3_l (x3120 : List Int) (x3121 : List Int) (x3138 : Int) : Link laws_sameInts_ctx LL (cq [0,0,1,0,1,1] (bodyOf Tryd.f12)) (aq [0,0,1,0,1,1] laws_sameInts_an) ⟨mkE 26 0 [(0, dL x3120), (1, dL x3121), (5, dI x3138)], []⟩ (laws_sameInts_n3 x3120 x3121 x3138) (Sum.elim (fun (t : Int) => (Exit.normal, ⟨mkE 26 0 [(0, dL x3120), (1, dL x3121), (5, dI t)], []⟩)) (Sum.elim (fun (t : Bool) => (Exit.ret, ⟨mkE 26 0 [(4, dB t)], []⟩)) (fun (t : Unit) => ((Exit.exit 0), ⟨mkE 26 0 [], []⟩)))) := by
  refine Link.of fun K h => ?_
  simp only [laws_sameInts_n3, wpO_bind, wpO_cond, wpO_map, wpO_some] at h
  exact Awp.of (by kernel_rfl) h

def laws_sameInts_n4_l (x3120 : List Int) (x3121 : List Int) := (link_loop (mk := fun (s : Int) => ⟨mkE 26 0 [(0, dL x3120), (1, dL x3121), (5, dI s)], []⟩) (fin := (Sum.elim (fun (t : Bool) => (Exit.ret, ⟨mkE 26 0 [(4, dB t)], []⟩)) (fun (t : Unit) => ((Exit.exit 0), ⟨mkE 26 0 [], []⟩)))) (by
  rintro (t | t) f K h
  · exact h
  · exact h) (fun s => link_map (laws_sameInts_n3_l x3120 x3121 s) (Sum.elim (fun (t : Int) => Sum.inl t) (Sum.elim (fun (t : Bool) => Sum.inr (Sum.inl t)) (fun (t : Unit) => Sum.inr (Sum.inr t)))) (by
  rintro (t | t | t)
  · kernel_rfl
  · kernel_rfl
  · kernel_rfl)) 0)

def laws_sameInts_n5_l (x3120 : List Int) (x3121 : List Int) := (link_block (fin2 := (Sum.elim (fun (t : Unit) => (Exit.normal, ⟨mkE 26 0 [], []⟩)) (fun (t : Bool) => (Exit.ret, ⟨mkE 26 0 [(4, dB t)], []⟩)))) (id := 0) (laws_sameInts_n4_l x3120 x3121) (Sum.elim (fun (t : Bool) => (Sum.inr t)) (fun (t : Unit) => (Sum.inl ()))) (by
  rintro (t | t) K h
  · exact Eq.mp (by kernel_rfl) h
  · exact Eq.mp (by kernel_rfl) h))

def laws_sameInts_n6_l (x3120 : List Int) (x3121 : List Int) := (link_seq (laws_sameInts_n2_l x3120 x3121) (fun (t : Unit) => (laws_sameInts_n5_l x3120 x3121)))

theorem laws_sameInts_n7_l : Link laws_sameInts_ctx LL (cq [1,1,1] (bodyOf Tryd.f12)) (aq [1,1,1] laws_sameInts_an) ⟨mkE 26 0 [], []⟩ (laws_sameInts_n7) (fun (t : Bool) => (Exit.ret, ⟨mkE 26 0 [(4, dB t)], []⟩)) := by
  refine Link.of fun K h => ?_
  simp only [laws_sameInts_n7, wpO_bind, wpO_cond, wpO_map, wpO_some] at h
  exact Awp.of (by kernel_rfl) h

def laws_sameInts_n8_l (x3120 : List Int) (x3121 : List Int) := (link_seq2 (laws_sameInts_n6_l x3120 x3121) (fun (t : Unit) => (laws_sameInts_n7_l)) (fun (t : Bool) => t) (by
  rintro t
  · kernel_rfl) (by
  rintro t f K h
  · exact h))

def laws_sameInts_n9_l (x3120 : List Int) (x3121 : List Int) := (link_group (c := (cq [0,1] (bodyOf Tryd.f12))) (a := (aq [0,1] laws_sameInts_an)) [(cq [0] (bodyOf Tryd.f12))] [(aq [0] laws_sameInts_an)] rfl (link_seq2 (laws_sameInts_n1_l x3120 x3121) (fun (t : Unit) => (laws_sameInts_n8_l x3120 x3121)) (fun (t : Bool) => t) (by
  rintro t
  · kernel_rfl) (by
  rintro t f K h
  · exact h)))

theorem laws_sameInts_e (x3120 : List Int) (x3121 : List Int) {r : AV} {H' : Heap} (h : (Ans.mk _ (laws_sameInts x3120 x3121) (fun (t : Bool) => (dB t, [])) [] none).run = some (r, H')) : Awp laws_sameInts_ctx LL (bodyOf Tryd.f12) laws_sameInts_an ⟨mkE 26 0 [(0, dL x3120), (1, dL x3121)], []⟩ (Ret (tlook tys) Tryd.f12.results.toList r H') :=
  ret_of' (Link.cast (by kernel_rfl) (by kernel_rfl) (laws_sameInts_n9_l x3120 x3121)) (by unfold laws_sameInts; kernel_rfl) (by
  intro t
  exact ret_mk [dB t] (by kernel_rfl) (by kernel_rfl) (by kernel_rfl) (by kernel_rfl)) h

def F_laws_sameInts : Fun := fun avs H =>
  match avs, H with
  | [.dat (.list (.int .i64)) x3120, .dat (.list (.int .i64)) x3121], [] => ⟨_, laws_sameInts x3120 x3121, fun (t : Bool) => (dB t, []), [], none⟩
  | _, _ => Ans.no

theorem laws_sameInts_sound : Sound Tryd.prog 12 F_laws_sameInts := by
  refine fn_sound' (C := laws_sameInts_ctx) (c := bodyOf Tryd.f12) (cok_of tys_ok (alln) (alln) (by kernel_rfl)) Tryd.func12 (by kernel_rfl) LL laws_sameInts_an ?_
  intro avs H r H' h
  unfold F_laws_sameInts at h
  split at h
  · refine Awp.cast ?_ ?_ ?_ (laws_sameInts_e _ _ h) <;> kernel_rfl
  · simp [Ans.no, Ans.run] at h


/-! loop.example/headtrees/impl.oneRoot -/

def impl_oneRoot_an : Ann := (.seq (.leaf [0]) (.seq (.leaf [0, 3]) (.seq (.seq (.leaf [0, 3, 6, 7, 8]) (.block (.loop (.seq (.leaf [0, 3, 6, 7, 8, 9]) (.seq (.cond (.leaf [0, 3, 6, 7, 8]) (.leaf [3])) (.seq (.block (.seq (.leaf [0, 3, 5, 6, 7, 8]) (.seq (.seq (.leaf [0, 3, 5, 6, 7, 8, 19]) (.cond (.seq (.leaf [2]) (.leaf [2])) (.leaf [0, 3, 5, 6, 7, 8]))) (.seq (.leaf [0, 3, 6, 7, 8, 21]) (.cond (.leaf [0, 3, 6, 7, 8]) (.leaf [0, 3, 6, 7, 8])))))) (.leaf [0, 3, 6, 7, 8]))))))) (.seq (.leaf [2]) (.leaf [2])))))

noncomputable def impl_oneRoot_ctx : Ctx := ⟨tlook tys, olook [], ioF, 0, false, []⟩

theorem impl_oneRoot_n1_l (x3179 : List Int) : Link impl_oneRoot_ctx LL (Code.seq (cq [0] (bodyOf Tryd.f52)) (cq [0,1] (bodyOf Tryd.f52))) (Ann.seq (aq [0] impl_oneRoot_an) (aq [0,1] impl_oneRoot_an)) ⟨mkE 27 0 [(0, dL x3179)], []⟩ (impl_oneRoot_n1) (fun (t : Unit) => (Exit.normal, ⟨mkE 27 0 [(0, dL x3179), (3, dI 0)], []⟩)) := by
  refine Link.of fun K h => ?_
  simp only [impl_oneRoot_n1, wpO_bind, wpO_cond, wpO_map, wpO_some] at h
  exact Awp.of (by kernel_rfl) h

theorem impl_oneRoot_n2_l (x3179 : List Int) : Link impl_oneRoot_ctx LL (cq [0,0,1,1] (bodyOf Tryd.f52)) (aq [0,0,1,1] impl_oneRoot_an) ⟨mkE 27 0 [(0, dL x3179), (3, dI 0)], []⟩ (impl_oneRoot_n2 x3179) (fun (t : Int) => (Exit.normal, ⟨mkE 27 0 [(0, dL x3179), (3, dI 0), (6, dL x3179), (7, dI t), (8, dI 0)], []⟩)) := by
  refine Link.of fun K h => ?_
  simp only [impl_oneRoot_n2, wpO_bind, wpO_cond, wpO_map, wpO_some] at h
  exact Awp.of (by kernel_rfl) h

theorem impl_oneRoot_n3_l (x3179 : List Int) (x3201 : Int) (x3180 : Int) (x3202 : Int) : Link impl_oneRoot_ctx LL (cq [0,0,1,0,1,1] (bodyOf Tryd.f52)) (aq [0,0,1,0,1,1] impl_oneRoot_an) ⟨mkE 27 0 [(0, dL x3179), (3, dI x3201), (6, dL x3179), (7, dI x3180), (8, dI x3202)], []⟩ (impl_oneRoot_n3 x3179 x3201 x3180 x3202) (Sum.elim (fun (t : Int × Int) => (Exit.normal, ⟨mkE 27 0 [(0, dL x3179), (3, dI t.1), (6, dL x3179), (7, dI x3180), (8, dI t.2)], []⟩)) (Sum.elim (fun (t : Bool) => (Exit.ret, ⟨mkE 27 0 [(2, dB t)], []⟩)) (fun (t : Int) => ((Exit.exit 0), ⟨mkE 27 0 [(3, dI t)], []⟩)))) := by
  refine Link.of fun K h => ?_
  simp only [impl_oneRoot_n3, wpO_bind, wpO_cond, wpO_map, wpO_some] at h
  exact Awp.of (by kernel_rfl) h

def impl_oneRoot_n4_l (x3179 : List Int) (x3180 : Int) := (link_loop (mk := fun (s : Int × Int) => ⟨mkE 27 0 [(0, dL x3179), (3, dI s.1), (6, dL x3179), (7, dI x3180), (8, dI s.2)], []⟩) (fin := (Sum.elim (fun (t : Bool) => (Exit.ret, ⟨mkE 27 0 [(2, dB t)], []⟩)) (fun (t : Int) => ((Exit.exit 0), ⟨mkE 27 0 [(3, dI t)], []⟩)))) (by
  rintro (t | t) f K h
  · exact h
  · exact h) (fun s => link_map (impl_oneRoot_n3_l x3179 s.1 x3180 s.2) (Sum.elim (fun (t : Int × Int) => Sum.inl (t.1, t.2)) (Sum.elim (fun (t : Bool) => Sum.inr (Sum.inl t)) (fun (t : Int) => Sum.inr (Sum.inr t)))) (by
  rintro (t | t | t)
  · kernel_rfl
  · kernel_rfl
  · kernel_rfl)) (0, 0))

def impl_oneRoot_n5_l (x3179 : List Int) (x3180 : Int) := (link_block (fin2 := (Sum.elim (fun (t : Int) => (Exit.normal, ⟨mkE 27 0 [(3, dI t)], []⟩)) (fun (t : Bool) => (Exit.ret, ⟨mkE 27 0 [(2, dB t)], []⟩)))) (id := 0) (impl_oneRoot_n4_l x3179 x3180) (Sum.elim (fun (t : Bool) => (Sum.inr t)) (fun (t : Int) => (Sum.inl t))) (by
  rintro (t | t) K h
  · exact Eq.mp (by kernel_rfl) h
  · exact Eq.mp (by kernel_rfl) h))

def impl_oneRoot_n6_l (x3179 : List Int) := (link_seq (impl_oneRoot_n2_l x3179) (fun (t : Int) => (impl_oneRoot_n5_l x3179 t)))

theorem impl_oneRoot_n7_l (x3201 : Int) : Link impl_oneRoot_ctx LL (cq [1,1,1] (bodyOf Tryd.f52)) (aq [1,1,1] impl_oneRoot_an) ⟨mkE 27 0 [(3, dI x3201)], []⟩ (impl_oneRoot_n7 x3201) (fun (t : Bool) => (Exit.ret, ⟨mkE 27 0 [(2, dB t)], []⟩)) := by
  refine Link.of fun K h => ?_
  simp only [impl_oneRoot_n7, wpO_bind, wpO_cond, wpO_map, wpO_some] at h
  exact Awp.of (by kernel_rfl) h

def impl_oneRoot_n8_l (x3179 : List Int) := (link_seq2 (impl_oneRoot_n6_l x3179) (fun (t : Int) => (impl_oneRoot_n7_l t)) (fun (t : Bool) => t) (by
  rintro t
  · kernel_rfl) (by
  rintro t f K h
  · exact h))

def impl_oneRoot_n9_l (x3179 : List Int) := (link_group (c := (cq [0,1] (bodyOf Tryd.f52))) (a := (aq [0,1] impl_oneRoot_an)) [(cq [0] (bodyOf Tryd.f52))] [(aq [0] impl_oneRoot_an)] rfl (link_seq (impl_oneRoot_n1_l x3179) (fun (t : Unit) => (impl_oneRoot_n8_l x3179))))

theorem impl_oneRoot_e (x3179 : List Int) {r : AV} {H' : Heap} (h : (Ans.mk _ (impl_oneRoot x3179) (fun (t : Bool) => (dB t, [])) [] none).run = some (r, H')) : Awp impl_oneRoot_ctx LL (bodyOf Tryd.f52) impl_oneRoot_an ⟨mkE 27 0 [(0, dL x3179)], []⟩ (Ret (tlook tys) Tryd.f52.results.toList r H') :=
  ret_of' (Link.cast (by kernel_rfl) (by kernel_rfl) (impl_oneRoot_n9_l x3179)) (by unfold impl_oneRoot; kernel_rfl) (by
  intro t
  exact ret_mk [dB t] (by kernel_rfl) (by kernel_rfl) (by kernel_rfl) (by kernel_rfl)) h

def F_impl_oneRoot : Fun := fun avs H =>
  match avs, H with
  | [.dat (.list (.int .i64)) x3179], [] => ⟨_, impl_oneRoot x3179, fun (t : Bool) => (dB t, []), [], none⟩
  | _, _ => Ans.no

theorem impl_oneRoot_sound : Sound Tryd.prog 52 F_impl_oneRoot := by
  refine fn_sound' (C := impl_oneRoot_ctx) (c := bodyOf Tryd.f52) (cok_of tys_ok (alln) (alln) (by kernel_rfl)) Tryd.func52 (by kernel_rfl) LL impl_oneRoot_an ?_
  intro avs H r H' h
  unfold F_impl_oneRoot at h
  split at h
  · refine Awp.cast ?_ ?_ ?_ (impl_oneRoot_e _ h) <;> kernel_rfl
  · simp [Ans.no, Ans.run] at h


/-! (*loop.example/headtrees/impl.walker).up -/

def impl_walker_up_an : Ann := (.seq (.leaf [0]) (.seq (.draw [] [0, 1, 2, 3, 4, 5, 6, 7, 8, 9, 10, 11] [] [0, 3]) (.seq (.seq (.leaf [0, 3, 16]) (.cond (.seq (.leaf [2]) (.leaf [2])) (.leaf [0, 3]))) (.seq (.leaf [0]) (.seq (.leaf []) (.seq (.leaf [2]) (.leaf [2])))))))

noncomputable def impl_walker_up_ctx : Ctx := ⟨tlook tys, olook [], ioF, 1, false, []⟩

theorem impl_walker_up_n1_l (x3235 : List Int) (x3236 : Int) (x3237 : Int) : Link impl_walker_up_ctx LL (bodyOf Tryd.f74) impl_walker_up_an ⟨mkE 28 0 [(0, .ptr 0 0)], [some (.box [dL x3235, dI x3236, dI x3237])]⟩ (impl_walker_up_n1 x3235 x3236 x3237) (fun (t : Bool × Int × Int) => (Exit.ret, ⟨mkE 28 0 [(2, dB t.1)], [some (.box [dL x3235, dI t.2.1, dI t.2.2])]⟩)) := by
  refine Link.of fun K h => ?_
  simp only [impl_walker_up_n1, wpO_bind, wpO_cond, wpO_map, wpO_some] at h
  exact Awp.of (by kernel_rfl) h

theorem impl_walker_up_e (x3235 : List Int) (x3236 : Int) (x3237 : Int) {r : AV} {H' : Heap} (h : (Ans.mk _ (impl_walker_up x3235 x3236 x3237) (fun (t : Bool × Int × Int) => (dB t.1, [some (.box [dL x3235, dI t.2.1, dI t.2.2])])) [] none).run = some (r, H')) : Awp impl_walker_up_ctx LL (bodyOf Tryd.f74) impl_walker_up_an ⟨mkE 28 0 [(0, .ptr 0 0)], [some (.box [dL x3235, dI x3236, dI x3237])]⟩ (Ret (tlook tys) Tryd.f74.results.toList r H') :=
  ret_of' (impl_walker_up_n1_l x3235 x3236 x3237) (by unfold impl_walker_up; kernel_rfl) (by
  intro t
  exact ret_mk [dB t.1] (by kernel_rfl) (by kernel_rfl) (by kernel_rfl) (by kernel_rfl)) h

def F_impl_walker_up : Fun := fun avs H =>
  match avs, H with
  | [.ptr 0 0], [some (.box [.dat (.list (.int .i64)) x3235, .dat (.int .i64) x3236, .dat (.int .i64) x3237])] => ⟨_, impl_walker_up x3235 x3236 x3237, fun (t : Bool × Int × Int) => (dB t.1, [some (.box [dL x3235, dI t.2.1, dI t.2.2])]), [], none⟩
  | _, _ => Ans.no

theorem impl_walker_up_sound : Sound Tryd.prog 74 F_impl_walker_up := by
  refine fn_sound' (C := impl_walker_up_ctx) (c := bodyOf Tryd.f74) (cok_of tys_ok (alln) (alln) (by kernel_rfl)) Tryd.func74 (by kernel_rfl) LL impl_walker_up_an ?_
  intro avs H r H' h
  unfold F_impl_walker_up at h
  split at h
  · refine Awp.cast ?_ ?_ ?_ (impl_walker_up_e _ _ _ h) <;> kernel_rfl
  · simp [Ans.no, Ans.run] at h


/-! loop.example/headtrees/impl.stepsToRoot -/

def impl_stepsToRoot_an : Ann := (.seq (.leaf [0, 1]) (.seq (.leaf [0, 6]) (.seq (.block (.loop (.seq (.seq (.leaf [0, 6, 10]) (.cond (.leaf [0, 6]) (.leaf [6]))) (.block (.seq (.leaf [0, 6, 15]) (.cond (.seq (.leaf [4, 5]) (.leaf [4, 5])) (.leaf [0, 6]))))))) (.seq (.leaf [4, 5]) (.leaf [4, 5])))))

noncomputable def impl_stepsToRoot_ctx : Ctx := ⟨tlook tys, olook [(74, F_impl_walker_up)], ioF, 0, false, []⟩

theorem impl_stepsToRoot_n1_l (x3233 : List Int) (x3234 : Int) : Link impl_stepsToRoot_ctx LL (Code.seq (cq [0] (bodyOf Tryd.f53)) (cq [0,1] (bodyOf Tryd.f53))) (Ann.seq (aq [0] impl_stepsToRoot_an) (aq [0,1] impl_stepsToRoot_an)) ⟨mkE 18 0 [(0, dL x3233), (1, dI x3234)], []⟩ (impl_stepsToRoot_n1) (fun (t : Unit) => (Exit.normal, ⟨mkE 18 0 [(0, dL x3233), (6, .ptr 0 0)], [some (.box [dL x3233, dI x3234, dI 0])]⟩)) := by
  refine Link.of fun K h => ?_
  simp only [impl_stepsToRoot_n1, wpO_bind, wpO_cond, wpO_map, wpO_some] at h
  exact Awp.of (by kernel_rfl) h

theorem impl_stepsToRoot_n2_l (x3233 : List Int) (x3271 : Int) (x3272 : Int) : Link impl_stepsToRoot_ctx LL (cq [0,0,0,1,1] (bodyOf Tryd.f53)) (aq [0,0,0,1,1] impl_stepsToRoot_an) ⟨mkE 18 0 [(0, dL x3233), (6, .ptr 0 0)], [some (.box [dL x3233, dI x3271, dI x3272])]⟩ (impl_stepsToRoot_n2 x3233 x3271 x3272) (Sum.elim (fun (t : Int × Int) => (Exit.normal, ⟨mkE 18 0 [(0, dL x3233), (6, .ptr 0 0)], [some (.box [dL x3233, dI t.1, dI t.2])]⟩)) (Sum.elim (fun (t : Int × Bool) => (Exit.ret, ⟨mkE 18 0 [(4, dI t.1), (5, dB t.2)], []⟩)) (fun (t : Int × Int) => ((Exit.exit 0), ⟨mkE 18 0 [(6, .ptr 0 0)], [some (.box [dL x3233, dI t.1, dI t.2])]⟩)))) := by
  refine Link.of fun K h => ?_
  simp only [impl_stepsToRoot_n2, wpO_bind, wpO_cond, wpO_map, wpO_some] at h
  exact Awp.of (by kernel_rfl) h

def impl_stepsToRoot_n3_l (x3233 : List Int) (x3234 : Int) := (link_loop (mk := fun (s : Int × Int) => ⟨mkE 18 0 [(0, dL x3233), (6, .ptr 0 0)], [some (.box [dL x3233, dI s.1, dI s.2])]⟩) (fin := (Sum.elim (fun (t : Int × Bool) => (Exit.ret, ⟨mkE 18 0 [(4, dI t.1), (5, dB t.2)], []⟩)) (fun (t : Int × Int) => ((Exit.exit 0), ⟨mkE 18 0 [(6, .ptr 0 0)], [some (.box [dL x3233, dI t.1, dI t.2])]⟩)))) (by
  rintro (t | t) f K h
  · exact h
  · exact h) (fun s => link_map (impl_stepsToRoot_n2_l x3233 s.1 s.2) (Sum.elim (fun (t : Int × Int) => Sum.inl (t.1, t.2)) (Sum.elim (fun (t : Int × Bool) => Sum.inr (Sum.inl t)) (fun (t : Int × Int) => Sum.inr (Sum.inr t)))) (by
  rintro (t | t | t)
  · kernel_rfl
  · kernel_rfl
  · kernel_rfl)) (x3234, 0))

def impl_stepsToRoot_n4_l (x3233 : List Int) (x3234 : Int) := (link_block (fin2 := (Sum.elim (fun (t : Int × Int) => (Exit.normal, ⟨mkE 18 0 [(6, .ptr 0 0)], [some (.box [dL x3233, dI t.1, dI t.2])]⟩)) (fun (t : Int × Bool) => (Exit.ret, ⟨mkE 18 0 [(4, dI t.1), (5, dB t.2)], []⟩)))) (id := 0) (impl_stepsToRoot_n3_l x3233 x3234) (Sum.elim (fun (t : Int × Bool) => (Sum.inr t)) (fun (t : Int × Int) => (Sum.inl (t.1, t.2)))) (by
  rintro (t | t) K h
  · exact Eq.mp (by kernel_rfl) h
  · exact Eq.mp (by kernel_rfl) h))

theorem impl_stepsToRoot_n5_l (x3233 : List Int) (x3279 : Int) (x3280 : Int) : Link impl_stepsToRoot_ctx LL (cq [1,1,1] (bodyOf Tryd.f53)) (aq [1,1,1] impl_stepsToRoot_an) ⟨mkE 18 0 [(6, .ptr 0 0)], [some (.box [dL x3233, dI x3279, dI x3280])]⟩ (impl_stepsToRoot_n5 x3280) (fun (t : Int × Bool) => (Exit.ret, ⟨mkE 18 0 [(4, dI t.1), (5, dB t.2)], []⟩)) := by
  refine Link.of fun K h => ?_
  simp only [impl_stepsToRoot_n5, wpO_bind, wpO_cond, wpO_map, wpO_some] at h
  exact Awp.of (by kernel_rfl) h

def impl_stepsToRoot_n6_l (x3233 : List Int) (x3234 : Int) := (link_seq2 (impl_stepsToRoot_n4_l x3233 x3234) (fun (t : Int × Int) => (impl_stepsToRoot_n5_l x3233 t.1 t.2)) (fun (t : Int × Bool) => t) (by
  rintro t
  · kernel_rfl) (by
  rintro t f K h
  · exact h))

def impl_stepsToRoot_n7_l (x3233 : List Int) (x3234 : Int) := (link_group (c := (cq [0,1] (bodyOf Tryd.f53))) (a := (aq [0,1] impl_stepsToRoot_an)) [(cq [0] (bodyOf Tryd.f53))] [(aq [0] impl_stepsToRoot_an)] rfl (link_seq (impl_stepsToRoot_n1_l x3233 x3234) (fun (t : Unit) => (impl_stepsToRoot_n6_l x3233 x3234))))

theorem impl_stepsToRoot_e (x3233 : List Int) (x3234 : Int) {r : AV} {H' : Heap} (h : (Ans.mk _ (impl_stepsToRoot x3233 x3234) (fun (t : Int × Bool) => (.tup [dI t.1, dB t.2], [])) [] none).run = some (r, H')) : Awp impl_stepsToRoot_ctx LL (bodyOf Tryd.f53) impl_stepsToRoot_an ⟨mkE 18 0 [(0, dL x3233), (1, dI x3234)], []⟩ (Ret (tlook tys) Tryd.f53.results.toList r H') :=
  ret_of' (Link.cast (by kernel_rfl) (by kernel_rfl) (impl_stepsToRoot_n7_l x3233 x3234)) (by unfold impl_stepsToRoot; kernel_rfl) (by
  intro t
  exact ret_mk [dI t.1, dB t.2] (by kernel_rfl) (by kernel_rfl) (by kernel_rfl) (by kernel_rfl)) h

def F_impl_stepsToRoot : Fun := fun avs H =>
  match avs, H with
  | [.dat (.list (.int .i64)) x3233, .dat (.int .i64) x3234], [] => ⟨_, impl_stepsToRoot x3233 x3234, fun (t : Int × Bool) => (.tup [dI t.1, dB t.2], []), [], none⟩
  | _, _ => Ans.no

theorem impl_stepsToRoot_sound : Sound Tryd.prog 53 F_impl_stepsToRoot := by
  refine fn_sound' (C := impl_stepsToRoot_ctx) (c := bodyOf Tryd.f53) (cok_of tys_ok (allc impl_walker_up_sound alln) (allc Tryd.call74 alln) (by kernel_rfl)) Tryd.func53 (by kernel_rfl) LL impl_stepsToRoot_an ?_
  intro avs H r H' h
  unfold F_impl_stepsToRoot at h
  split at h
  · refine Awp.cast ?_ ?_ ?_ (impl_stepsToRoot_e _ _ h) <;> kernel_rfl
  · simp [Ans.no, Ans.run] at h


/-! loop.example/headtrees/impl.TreeOk -/

def impl_TreeOk_an : Ann := (.seq (.leaf [0]) (.seq (.seq (.leaf [0, 18]) (.cond (.seq (.leaf [2]) (.leaf [2])) (.leaf [0]))) (.seq (.seq (.leaf [0, 20, 21]) (.block (.loop (.seq (.leaf [0, 20, 21, 22]) (.seq (.cond (.leaf [0, 20, 21]) (.leaf [])) (.seq (.block (.seq (.leaf [0, 3, 20, 21]) (.seq (.leaf [0, 5, 20, 21]) (.seq (.leaf [0, 20, 21, 32]) (.cond (.seq (.leaf [2]) (.leaf [2])) (.leaf [0, 20, 21])))))) (.leaf [0, 20, 21]))))))) (.seq (.leaf [2]) (.leaf [2])))))

noncomputable def impl_TreeOk_ctx : Ctx := ⟨tlook tys, olook [(52, F_impl_oneRoot), (53, F_impl_stepsToRoot)], ioF, 0, false, []⟩

theorem impl_TreeOk_n1_l (x3174 : List Int) : Link impl_TreeOk_ctx LL (Code.seq (cq [0] (bodyOf Tryd.f32)) (cq [0,1] (bodyOf Tryd.f32))) (Ann.seq (aq [0] impl_TreeOk_an) (aq [0,1] impl_TreeOk_an)) ⟨mkE 34 0 [(0, dL x3174)], []⟩ (impl_TreeOk_n1 x3174) (Sum.elim (fun (t : Unit) => (Exit.normal, ⟨mkE 34 0 [(0, dL x3174)], []⟩)) (fun (t : Bool) => (Exit.ret, ⟨mkE 34 0 [(2, dB t)], []⟩))) := by
  refine Link.of fun K h => ?_
  simp only [impl_TreeOk_n1, wpO_bind, wpO_cond, wpO_map, wpO_some] at h
  exact Awp.of (by kernel_rfl) h

theorem impl_TreeOk_n2_l (x3174 : List Int) : Link impl_TreeOk_ctx LL (cq [0,0,1,1] (bodyOf Tryd.f32)) (aq [0,0,1,1] impl_TreeOk_an) ⟨mkE 34 0 [(0, dL x3174)], []⟩ (impl_TreeOk_n2 x3174) (fun (t : Int) => (Exit.normal, ⟨mkE 34 0 [(0, dL x3174), (20, dI t), (21, dI 0)], []⟩)) := by
  refine Link.of fun K h => ?_
  simp only [impl_TreeOk_n2, wpO_bind, wpO_cond, wpO_map, wpO_some] at h
  exact Awp.of (by kernel_rfl) h

theorem impl_TreeOk_n3_l (x3174 : List Int) (x3228 : Int) (x3296 : Int) : Link impl_TreeOk_ctx LL (cq [0,0,1,0,1,1] (bodyOf Tryd.f32)) (aq [0,0,1,0,1,1] impl_TreeOk_an) ⟨mkE 34 0 [(0, dL x3174), (20, dI x3228), (21, dI x3296)], []⟩ (impl_TreeOk_n3 x3174 x3228 x3296) (Sum.elim (fun (t : Int) => (Exit.normal, ⟨mkE 34 0 [(0, dL x3174), (20, dI x3228), (21, dI t)], []⟩)) (Sum.elim (fun (t : Bool) => (Exit.ret, ⟨mkE 34 0 [(2, dB t)], []⟩)) (fun (t : Unit) => ((Exit.exit 0), ⟨mkE 34 0 [], []⟩)))) := by
  refine Link.of fun K h => ?_
  simp only [impl_TreeOk_n3, wpO_bind, wpO_cond, wpO_map, wpO_some] at h
  exact Awp.of (by kernel_rfl) h

def impl_TreeOk_n4_l (x3174 : List Int) (x3228 : Int) := (link_loop (mk := fun (s : Int) => ⟨mkE 34 0 [(0, dL x3174), (20, dI x3228), (21, dI s)], []⟩) (fin := (Sum.elim (fun (t : Bool) => (Exit.ret, ⟨mkE 34 0 [(2, dB t)], []⟩)) (fun (t : Unit) => ((Exit.exit 0), ⟨mkE 34 0 [], []⟩)))) (by
  rintro (t | t) f K h
  · exact h
  · exact h) (fun s => link_map (impl_TreeOk_n3_l x3174 x3228 s) (Sum.elim (fun (t : Int) => Sum.inl t) (Sum.elim (fun (t : Bool) => Sum.inr (Sum.inl t)) (fun (t : Unit) => Sum.inr (Sum.inr t)))) (by
  rintro (t | t | t)
  · kernel_rfl
  · kernel_rfl
  · kernel_rfl)) 0)

def impl_TreeOk_n5_l (x3174 : List Int) (x3228 : Int) := (link_block (fin2 := (Sum.elim (fun (t : Unit) => (Exit.normal, ⟨mkE 34 0 [], []⟩)) (fun (t : Bool) => (Exit.ret, ⟨mkE 34 0 [(2, dB t)], []⟩)))) (id := 0) (impl_TreeOk_n4_l x3174 x3228) (Sum.elim (fun (t : Bool) => (Sum.inr t)) (fun (t : Unit) => (Sum.inl ()))) (by
  rintro (t | t) K h
  · exact Eq.mp (by kernel_rfl) h
  · exact Eq.mp (by kernel_rfl) h))

def impl_TreeOk_n6_l (x3174 : List Int) := (link_seq (impl_TreeOk_n2_l x3174) (fun (t : Int) => (impl_TreeOk_n5_l x3174 t)))

theorem impl_TreeOk_n7_l : Link impl_TreeOk_ctx LL (cq [1,1,1] (bodyOf Tryd.f32)) (aq [1,1,1] impl_TreeOk_an) ⟨mkE 34 0 [], []⟩ (impl_TreeOk_n7) (fun (t : Bool) => (Exit.ret, ⟨mkE 34 0 [(2, dB t)], []⟩)) := by
  refine Link.of fun K h => ?_
  simp only [impl_TreeOk_n7, wpO_bind, wpO_cond, wpO_map, wpO_some] at h
  exact Awp.of (by kernel_rfl) h

def impl_TreeOk_n8_l (x3174 : List Int) := (link_seq2 (impl_TreeOk_n6_l x3174) (fun (t : Unit) => (impl_TreeOk_n7_l)) (fun (t : Bool) => t) (by
  rintro t
  · kernel_rfl) (by
  rintro t f K h
  · exact h))

def impl_TreeOk_n9_l (x3174 : List Int) := (link_group (c := (cq [0,1] (bodyOf Tryd.f32))) (a := (aq [0,1] impl_TreeOk_an)) [(cq [0] (bodyOf Tryd.f32))] [(aq [0] impl_TreeOk_an)] rfl (link_seq2 (impl_TreeOk_n1_l x3174) (fun (t : Unit) => (impl_TreeOk_n8_l x3174)) (fun (t : Bool) => t) (by
  rintro t
  · kernel_rfl) (by
  rintro t f K h
  · exact h)))

theorem impl_TreeOk_e (x3174 : List Int) {r : AV} {H' : Heap} (h : (Ans.mk _ (impl_TreeOk x3174) (fun (t : Bool) => (dB t, [])) [] none).run = some (r, H')) : Awp impl_TreeOk_ctx LL (bodyOf Tryd.f32) impl_TreeOk_an ⟨mkE 34 0 [(0, dL x3174)], []⟩ (Ret (tlook tys) Tryd.f32.results.toList r H') :=
  ret_of' (Link.cast (by kernel_rfl) (by kernel_rfl) (impl_TreeOk_n9_l x3174)) (by unfold impl_TreeOk; kernel_rfl) (by
  intro t
  exact ret_mk [dB t] (by kernel_rfl) (by kernel_rfl) (by kernel_rfl) (by kernel_rfl)) h

def F_impl_TreeOk : Fun := fun avs H =>
  match avs, H with
  | [.dat (.list (.int .i64)) x3174], [] => ⟨_, impl_TreeOk x3174, fun (t : Bool) => (dB t, []), [], none⟩
  | _, _ => Ans.no

theorem impl_TreeOk_sound : Sound Tryd.prog 32 F_impl_TreeOk := by
  refine fn_sound' (C := impl_TreeOk_ctx) (c := bodyOf Tryd.f32) (cok_of tys_ok (allc impl_oneRoot_sound (allc impl_stepsToRoot_sound alln)) (allc Tryd.call52 (allc Tryd.call53 alln)) (by kernel_rfl)) Tryd.func32 (by kernel_rfl) LL impl_TreeOk_an ?_
  intro avs H r H' h
  unfold F_impl_TreeOk at h
  split at h
  · refine Awp.cast ?_ ?_ ?_ (impl_TreeOk_e _ h) <;> kernel_rfl
  · simp [Ans.no, Ans.run] at h


/-! loop.example/headtrees/laws.alive -/

def laws_alive_an : Ann := (.seq (.leaf []) (.seq (.leaf [0]) (.leaf [0])))

noncomputable def laws_alive_ctx : Ctx := ⟨tlook tys, olook [(32, F_impl_TreeOk)], ioF, 0, false, []⟩

theorem laws_alive_n1_l : Link laws_alive_ctx LL (bodyOf Tryd.f13) laws_alive_an ⟨mkE 8 0 [], []⟩ (laws_alive_n1) (fun (t : Bool) => (Exit.ret, ⟨mkE 8 0 [(0, dB t)], []⟩)) := by
  refine Link.of fun K h => ?_
  simp only [laws_alive_n1, wpO_bind, wpO_cond, wpO_map, wpO_some] at h
  exact Awp.of (by kernel_rfl) h

theorem laws_alive_e {r : AV} {H' : Heap} (h : (Ans.mk _ (laws_alive) (fun (t : Bool) => (dB t, [])) [] none).run = some (r, H')) : Awp laws_alive_ctx LL (bodyOf Tryd.f13) laws_alive_an ⟨mkE 8 0 [], []⟩ (Ret (tlook tys) Tryd.f13.results.toList r H') :=
  ret_of' (laws_alive_n1_l) (by unfold laws_alive; kernel_rfl) (by
  intro t
  exact ret_mk [dB t] (by kernel_rfl) (by kernel_rfl) (by kernel_rfl) (by kernel_rfl)) h

def F_laws_alive : Fun := fun avs H =>
  match avs, H with
  | [], [] => ⟨_, laws_alive, fun (t : Bool) => (dB t, []), [], none⟩
  | _, _ => Ans.no

theorem laws_alive_sound : Sound Tryd.prog 13 F_laws_alive := by
  refine fn_sound' (C := laws_alive_ctx) (c := bodyOf Tryd.f13) (cok_of tys_ok (allc impl_TreeOk_sound alln) (allc Tryd.call32 alln) (by kernel_rfl)) Tryd.func13 (by kernel_rfl) LL laws_alive_an ?_
  intro avs H r H' h
  unfold F_laws_alive at h
  split at h
  · refine Awp.cast ?_ ?_ ?_ (laws_alive_e h) <;> kernel_rfl
  · simp [Ans.no, Ans.run] at h


/-! loop.example/headtrees/impl.RootOf -/

def impl_RootOf_an : Ann := (.seq (.leaf [0]) (.seq (.seq (.leaf [0, 6]) (.cond (.seq (.leaf [2]) (.leaf [2])) (.leaf [0]))) (.seq (.leaf [3]) (.seq (.block (.loop (.seq (.seq (.leaf [3, 9]) (.cond (.leaf [3]) (.leaf [3]))) (.block (.leaf [3]))))) (.seq (.leaf [2]) (.leaf [2]))))))

noncomputable def impl_RootOf_ctx : Ctx := ⟨tlook tys, olook [(32, F_impl_TreeOk), (74, F_impl_walker_up)], ioF, 0, false, []⟩

theorem impl_RootOf_n1_l (x3353 : List Int) : Link impl_RootOf_ctx LL (Code.seq (cq [0] (bodyOf Tryd.f62)) (Code.seq (cq [0,1] (bodyOf Tryd.f62)) (cq [0,1,1] (bodyOf Tryd.f62)))) (Ann.seq (aq [0] impl_RootOf_an) (Ann.seq (aq [0,1] impl_RootOf_an) (aq [0,1,1] impl_RootOf_an))) ⟨mkE 12 0 [(0, dL x3353)], []⟩ (impl_RootOf_n1 x3353) (Sum.elim (fun (t : Unit) => (Exit.normal, ⟨mkE 12 0 [(3, .ptr 0 0)], [some (.box [dL x3353, dI 1, dI 0])]⟩)) (fun (t : Int) => (Exit.ret, ⟨mkE 12 0 [(2, dI t)], []⟩))) := by
  refine Link.of fun K h => ?_
  simp only [impl_RootOf_n1, wpO_bind, wpO_cond, wpO_map, wpO_some] at h
  exact Awp.of (by kernel_rfl) h

theorem impl_RootOf_n2_l (x3353 : List Int) (x3367 : Int) (x3368 : Int) : Link impl_RootOf_ctx LL (cq [0,0,0,1,1,1] (bodyOf Tryd.f62)) (aq [0,0,0,1,1,1] impl_RootOf_an) ⟨mkE 12 0 [(3, .ptr 0 0)], [some (.box [dL x3353, dI x3367, dI x3368])]⟩ (impl_RootOf_n2 x3353 x3367 x3368) (Sum.elim (fun (t : Int × Int) => (Exit.normal, ⟨mkE 12 0 [(3, .ptr 0 0)], [some (.box [dL x3353, dI t.1, dI t.2])]⟩)) (fun (t : Int × Int) => ((Exit.exit 0), ⟨mkE 12 0 [(3, .ptr 0 0)], [some (.box [dL x3353, dI t.1, dI t.2])]⟩))) := by
  refine Link.of fun K h => ?_
  simp only [impl_RootOf_n2, wpO_bind, wpO_cond, wpO_map, wpO_some] at h
  exact Awp.of (by kernel_rfl) h

def impl_RootOf_n3_l (x3353 : List Int) := (link_loop (mk := fun (s : Int × Int) => ⟨mkE 12 0 [(3, .ptr 0 0)], [some (.box [dL x3353, dI s.1, dI s.2])]⟩) (fin := (fun (t : Int × Int) => ((Exit.exit 0), ⟨mkE 12 0 [(3, .ptr 0 0)], [some (.box [dL x3353, dI t.1, dI t.2])]⟩))) (by
  rintro t f K h
  · exact h) (fun s => link_map (impl_RootOf_n2_l x3353 s.1 s.2) (Sum.elim (fun (t : Int × Int) => Sum.inl (t.1, t.2)) (fun (t : Int × Int) => Sum.inr t)) (by
  rintro (t | t)
  · kernel_rfl
  · kernel_rfl)) (1, 0))

def impl_RootOf_n4_l (x3353 : List Int) := (link_block (fin2 := (fun (t : Int × Int) => (Exit.normal, ⟨mkE 12 0 [(3, .ptr 0 0)], [some (.box [dL x3353, dI t.1, dI t.2])]⟩))) (id := 0) (impl_RootOf_n3_l x3353) (fun (t : Int × Int) => (t.1, t.2)) (by
  rintro t K h
  · exact Eq.mp (by kernel_rfl) h))

theorem impl_RootOf_n5_l (x3353 : List Int) (x3375 : Int) (x3376 : Int) : Link impl_RootOf_ctx LL (cq [1,1,1,1] (bodyOf Tryd.f62)) (aq [1,1,1,1] impl_RootOf_an) ⟨mkE 12 0 [(3, .ptr 0 0)], [some (.box [dL x3353, dI x3375, dI x3376])]⟩ (impl_RootOf_n5 x3375) (fun (t : Int) => (Exit.ret, ⟨mkE 12 0 [(2, dI t)], []⟩)) := by
  refine Link.of fun K h => ?_
  simp only [impl_RootOf_n5, wpO_bind, wpO_cond, wpO_map, wpO_some] at h
  exact Awp.of (by kernel_rfl) h

def impl_RootOf_n6_l (x3353 : List Int) := (link_seq (impl_RootOf_n4_l x3353) (fun (t : Int × Int) => (impl_RootOf_n5_l x3353 t.1 t.2)))

def impl_RootOf_n7_l (x3353 : List Int) := (link_group (c := (cq [0,1,1] (bodyOf Tryd.f62))) (a := (aq [0,1,1] impl_RootOf_an)) [(cq [0] (bodyOf Tryd.f62)), (cq [0,1] (bodyOf Tryd.f62))] [(aq [0] impl_RootOf_an), (aq [0,1] impl_RootOf_an)] rfl (link_seq2 (impl_RootOf_n1_l x3353) (fun (t : Unit) => (impl_RootOf_n6_l x3353)) (fun (t : Int) => t) (by
  rintro t
  · kernel_rfl) (by
  rintro t f K h
  · exact h)))

theorem impl_RootOf_e (x3353 : List Int) {r : AV} {H' : Heap} (h : (Ans.mk _ (impl_RootOf x3353) (fun (t : Int) => (dI t, [])) [] none).run = some (r, H')) : Awp impl_RootOf_ctx LL (bodyOf Tryd.f62) impl_RootOf_an ⟨mkE 12 0 [(0, dL x3353)], []⟩ (Ret (tlook tys) Tryd.f62.results.toList r H') :=
  ret_of' (Link.cast (by kernel_rfl) (by kernel_rfl) (impl_RootOf_n7_l x3353)) (by unfold impl_RootOf; kernel_rfl) (by
  intro t
  exact ret_mk [dI t] (by kernel_rfl) (by kernel_rfl) (by kernel_rfl) (by kernel_rfl)) h

def F_impl_RootOf : Fun := fun avs H =>
  match avs, H with
  | [.dat (.list (.int .i64)) x3353], [] => ⟨_, impl_RootOf x3353, fun (t : Int) => (dI t, []), [], none⟩
  | _, _ => Ans.no

theorem impl_RootOf_sound : Sound Tryd.prog 62 F_impl_RootOf := by
  refine fn_sound' (C := impl_RootOf_ctx) (c := bodyOf Tryd.f62) (cok_of tys_ok (allc impl_TreeOk_sound (allc impl_walker_up_sound alln)) (allc Tryd.call32 (allc Tryd.call74 alln)) (by kernel_rfl)) Tryd.func62 (by kernel_rfl) LL impl_RootOf_an ?_
  intro avs H r H' h
  unfold F_impl_RootOf at h
  split at h
  · refine Awp.cast ?_ ?_ ?_ (impl_RootOf_e _ h) <;> kernel_rfl
  · simp [Ans.no, Ans.run] at h


/-! loop.example/headtrees/impl.only -/

def impl_only_an : Ann := (.seq (.leaf [0]) (.seq (.leaf [2]) (.leaf [2])))

noncomputable def impl_only_ctx : Ctx := ⟨tlook tys, olook [], ioF, 0, false, []⟩

theorem impl_only_n1_l (x3382 : Int) : Link impl_only_ctx LL (bodyOf Tryd.f76) impl_only_an ⟨mkE 6 0 [(0, dI x3382)], []⟩ (impl_only_n1 x3382) (fun (t : Int) => (Exit.ret, ⟨mkE 6 0 [(2, dW t)], []⟩)) := by
  refine Link.of fun K h => ?_
  simp only [impl_only_n1, wpO_bind, wpO_cond, wpO_map, wpO_some] at h
  exact Awp.of (by kernel_rfl) h

theorem impl_only_e (x3382 : Int) {r : AV} {H' : Heap} (h : (Ans.mk _ (impl_only x3382) (fun (t : Int) => (dW t, [])) [] none).run = some (r, H')) : Awp impl_only_ctx LL (bodyOf Tryd.f76) impl_only_an ⟨mkE 6 0 [(0, dI x3382)], []⟩ (Ret (tlook tys) Tryd.f76.results.toList r H') :=
  ret_of' (impl_only_n1_l x3382) (by unfold impl_only; kernel_rfl) (by
  intro t
  exact ret_mk [dW t] (by kernel_rfl) (by kernel_rfl) (by kernel_rfl) (by kernel_rfl)) h

def F_impl_only : Fun := fun avs H =>
  match avs, H with
  | [.dat (.int .i64) x3382], [] => ⟨_, impl_only x3382, fun (t : Int) => (dW t, []), [], none⟩
  | _, _ => Ans.no

theorem impl_only_sound : Sound Tryd.prog 76 F_impl_only := by
  refine fn_sound' (C := impl_only_ctx) (c := bodyOf Tryd.f76) (cok_of tys_ok (alln) (alln) (by kernel_rfl)) Tryd.func76 (by kernel_rfl) LL impl_only_an ?_
  intro avs H r H' h
  unfold F_impl_only at h
  split at h
  · refine Awp.cast ?_ ?_ ?_ (impl_only_e _ h) <;> kernel_rfl
  · simp [Ans.no, Ans.run] at h


/-! loop.example/headtrees/impl.dependents -/

def impl_dependents_an : Ann := (.seq (.leaf [0, 1]) (.seq (.leaf [0, 1, 5]) (.seq (.seq (.leaf [0, 1, 5, 8, 9]) (.block (.loop (.seq (.leaf [0, 1, 5, 8, 9, 10]) (.seq (.cond (.leaf [0, 1, 5, 8, 9]) (.leaf [5])) (.seq (.block (.seq (.leaf [0, 1, 5, 6, 8, 9]) (.seq (.leaf [0, 1, 5, 6, 8, 9, 17]) (.cond (.leaf [0, 1, 5, 8, 9]) (.leaf [0, 1, 5, 8, 9]))))) (.leaf [0, 1, 5, 8, 9]))))))) (.seq (.leaf [4]) (.leaf [4])))))

noncomputable def impl_dependents_ctx : Ctx := ⟨tlook tys, olook [(76, F_impl_only)], ioF, 0, false, []⟩

theorem impl_dependents_n1_l (x3388 : List Int) (x3389 : Int) : Link impl_dependents_ctx LL (Code.seq (cq [0] (bodyOf Tryd.f58)) (cq [0,1] (bodyOf Tryd.f58))) (Ann.seq (aq [0] impl_dependents_an) (aq [0,1] impl_dependents_an)) ⟨mkE 25 0 [(0, dL x3388), (1, dI x3389)], []⟩ (impl_dependents_n1) (fun (t : Unit) => (Exit.normal, ⟨mkE 25 0 [(0, dL x3388), (1, dI x3389), (5, dW 0)], []⟩)) := by
  refine Link.of fun K h => ?_
  simp only [impl_dependents_n1, wpO_bind, wpO_cond, wpO_map, wpO_some] at h
  exact Awp.of (by kernel_rfl) h

theorem impl_dependents_n2_l (x3388 : List Int) (x3389 : Int) : Link impl_dependents_ctx LL (cq [0,0,1,1] (bodyOf Tryd.f58)) (aq [0,0,1,1] impl_dependents_an) ⟨mkE 25 0 [(0, dL x3388), (1, dI x3389), (5, dW 0)], []⟩ (impl_dependents_n2 x3388) (fun (t : Int) => (Exit.normal, ⟨mkE 25 0 [(0, dL x3388), (1, dI x3389), (5, dW 0), (8, dI t), (9, dI 0)], []⟩)) := by
  refine Link.of fun K h => ?_
  simp only [impl_dependents_n2, wpO_bind, wpO_cond, wpO_map, wpO_some] at h
  exact Awp.of (by kernel_rfl) h

theorem impl_dependents_n3_l (x3388 : List Int) (x3389 : Int) (x3409 : Int) (x3390 : Int) (x3410 : Int) : Link impl_dependents_ctx LL (cq [0,0,1,0,1,1] (bodyOf Tryd.f58)) (aq [0,0,1,0,1,1] impl_dependents_an) ⟨mkE 25 0 [(0, dL x3388), (1, dI x3389), (5, dW x3409), (8, dI x3390), (9, dI x3410)], []⟩ (impl_dependents_n3 x3388 x3389 x3409 x3390 x3410) (Sum.elim (fun (t : Int × Int) => (Exit.normal, ⟨mkE 25 0 [(0, dL x3388), (1, dI x3389), (5, dW t.1), (8, dI x3390), (9, dI t.2)], []⟩)) (fun (t : Int) => ((Exit.exit 0), ⟨mkE 25 0 [(5, dW t)], []⟩))) := by
  refine Link.of fun K h => ?_
  simp only [impl_dependents_n3, wpO_bind, wpO_cond, wpO_map, wpO_some] at h
  exact Awp.of (by kernel_rfl) h

def impl_dependents_n4_l (x3388 : List Int) (x3389 : Int) (x3390 : Int) := (link_loop (mk := fun (s : Int × Int) => ⟨mkE 25 0 [(0, dL x3388), (1, dI x3389), (5, dW s.1), (8, dI x3390), (9, dI s.2)], []⟩) (fin := (fun (t : Int) => ((Exit.exit 0), ⟨mkE 25 0 [(5, dW t)], []⟩))) (by
  rintro t f K h
  · exact h) (fun s => link_map (impl_dependents_n3_l x3388 x3389 s.1 x3390 s.2) (Sum.elim (fun (t : Int × Int) => Sum.inl (t.1, t.2)) (fun (t : Int) => Sum.inr t)) (by
  rintro (t | t)
  · kernel_rfl
  · kernel_rfl)) (0, 0))

def impl_dependents_n5_l (x3388 : List Int) (x3389 : Int) (x3390 : Int) := (link_block (fin2 := (fun (t : Int) => (Exit.normal, ⟨mkE 25 0 [(5, dW t)], []⟩))) (id := 0) (impl_dependents_n4_l x3388 x3389 x3390) (fun (t : Int) => t) (by
  rintro t K h
  · exact Eq.mp (by kernel_rfl) h))

def impl_dependents_n6_l (x3388 : List Int) (x3389 : Int) := (link_seq (impl_dependents_n2_l x3388 x3389) (fun (t : Int) => (impl_dependents_n5_l x3388 x3389 t)))

theorem impl_dependents_n7_l (x3409 : Int) : Link impl_dependents_ctx LL (cq [1,1,1] (bodyOf Tryd.f58)) (aq [1,1,1] impl_dependents_an) ⟨mkE 25 0 [(5, dW x3409)], []⟩ (impl_dependents_n7 x3409) (fun (t : Int) => (Exit.ret, ⟨mkE 25 0 [(4, dW t)], []⟩)) := by
  refine Link.of fun K h => ?_
  simp only [impl_dependents_n7, wpO_bind, wpO_cond, wpO_map, wpO_some] at h
  exact Awp.of (by kernel_rfl) h

def impl_dependents_n8_l (x3388 : List Int) (x3389 : Int) := (link_seq (impl_dependents_n6_l x3388 x3389) (fun (t : Int) => (impl_dependents_n7_l t)))

def impl_dependents_n9_l (x3388 : List Int) (x3389 : Int) := (link_group (c := (cq [0,1] (bodyOf Tryd.f58))) (a := (aq [0,1] impl_dependents_an)) [(cq [0] (bodyOf Tryd.f58))] [(aq [0] impl_dependents_an)] rfl (link_seq (impl_dependents_n1_l x3388 x3389) (fun (t : Unit) => (impl_dependents_n8_l x3388 x3389))))

theorem impl_dependents_e (x3388 : List Int) (x3389 : Int) {r : AV} {H' : Heap} (h : (Ans.mk _ (impl_dependents x3388 x3389) (fun (t : Int) => (dW t, [])) [] none).run = some (r, H')) : Awp impl_dependents_ctx LL (bodyOf Tryd.f58) impl_dependents_an ⟨mkE 25 0 [(0, dL x3388), (1, dI x3389)], []⟩ (Ret (tlook tys) Tryd.f58.results.toList r H') :=
  ret_of' (Link.cast (by kernel_rfl) (by kernel_rfl) (impl_dependents_n9_l x3388 x3389)) (by unfold impl_dependents; kernel_rfl) (by
  intro t
  exact ret_mk [dW t] (by kernel_rfl) (by kernel_rfl) (by kernel_rfl) (by kernel_rfl)) h

def F_impl_dependents : Fun := fun avs H =>
  match avs, H with
  | [.dat (.list (.int .i64)) x3388, .dat (.int .i64) x3389], [] => ⟨_, impl_dependents x3388 x3389, fun (t : Int) => (dW t, []), [], none⟩
  | _, _ => Ans.no

theorem impl_dependents_sound : Sound Tryd.prog 58 F_impl_dependents := by
  refine fn_sound' (C := impl_dependents_ctx) (c := bodyOf Tryd.f58) (cok_of tys_ok (allc impl_only_sound alln) (allc Tryd.call76 alln) (by kernel_rfl)) Tryd.func58 (by kernel_rfl) LL impl_dependents_an ?_
  intro avs H r H' h
  unfold F_impl_dependents at h
  split at h
  · refine Awp.cast ?_ ?_ ?_ (impl_dependents_e _ _ h) <;> kernel_rfl
  · simp [Ans.no, Ans.run] at h


/-! math/bits.OnesCount64 -/

def math_bits_OnesCount64_an : Ann := (.seq (.leaf [0]) (.seq (.leaf [0]) (.seq (.leaf [0]) (.seq (.leaf [0]) (.seq (.leaf [0]) (.seq (.leaf [0]) (.seq (.leaf [0]) (.seq (.leaf [2]) (.leaf [2])))))))))

noncomputable def math_bits_OnesCount64_ctx : Ctx := ⟨tlook tys, olook [], ioF, 0, false, []⟩

theorem math_bits_OnesCount64_n1_l (x3433 : Int) : Link math_bits_OnesCount64_ctx LL (Code.seq (cq [0] (bodyOf Tryd.f88)) (cq [0,1] (bodyOf Tryd.f88))) (Ann.seq (aq [0] math_bits_OnesCount64_an) (aq [0,1] math_bits_OnesCount64_an)) ⟨mkE 35 0 [(0, dW x3433)], []⟩ (math_bits_OnesCount64_n1 x3433) (fun (t : Int) => (Exit.normal, ⟨mkE 35 0 [(0, dW t)], []⟩)) := by
  refine Link.of fun K h => ?_
  simp only [math_bits_OnesCount64_n1, wpO_bind, wpO_cond, wpO_map, wpO_some] at h
  exact Awp.of (by kernel_rfl) h

theorem math_bits_OnesCount64_n2_l (x3438 : Int) : Link math_bits_OnesCount64_ctx LL (cq [0,1,1] (bodyOf Tryd.f88)) (aq [0,1,1] math_bits_OnesCount64_an) ⟨mkE 35 0 [(0, dW x3438)], []⟩ (math_bits_OnesCount64_n2 x3438) (fun (t : Int) => (Exit.normal, ⟨mkE 35 0 [(0, dW t)], []⟩)) := by
  refine Link.of fun K h => ?_
  simp only [math_bits_OnesCount64_n2, wpO_bind, wpO_cond, wpO_map, wpO_some] at h
  exact Awp.of (by kernel_rfl) h

theorem math_bits_OnesCount64_n3_l (x3455 : Int) : Link math_bits_OnesCount64_ctx LL (cq [0,1,1,1] (bodyOf Tryd.f88)) (aq [0,1,1,1] math_bits_OnesCount64_an) ⟨mkE 35 0 [(0, dW x3455)], []⟩ (math_bits_OnesCount64_n3 x3455) (fun (t : Int) => (Exit.normal, ⟨mkE 35 0 [(0, dW t)], []⟩)) := by
  refine Link.of fun K h => ?_
  simp only [math_bits_OnesCount64_n3, wpO_bind, wpO_cond, wpO_map, wpO_some] at h
  exact Awp.of (by kernel_rfl) h

theorem math_bits_OnesCount64_n4_l (x3462 : Int) : Link math_bits_OnesCount64_ctx LL (cq [0,1,1,1,1] (bodyOf Tryd.f88)) (aq [0,1,1,1,1] math_bits_OnesCount64_an) ⟨mkE 35 0 [(0, dW x3462)], []⟩ (math_bits_OnesCount64_n4 x3462) (fun (t : Int) => (Exit.normal, ⟨mkE 35 0 [(0, dW t)], []⟩)) := by
  refine Link.of fun K h => ?_
  simp only [math_bits_OnesCount64_n4, wpO_bind, wpO_cond, wpO_map, wpO_some] at h
  exact Awp.of (by kernel_rfl) h

theorem math_bits_OnesCount64_n5_l (x3466 : Int) : Link math_bits_OnesCount64_ctx LL (cq [0,1,1,1,1,1] (bodyOf Tryd.f88)) (aq [0,1,1,1,1,1] math_bits_OnesCount64_an) ⟨mkE 35 0 [(0, dW x3466)], []⟩ (math_bits_OnesCount64_n5 x3466) (fun (t : Int) => (Exit.normal, ⟨mkE 35 0 [(0, dW t)], []⟩)) := by
  refine Link.of fun K h => ?_
  simp only [math_bits_OnesCount64_n5, wpO_bind, wpO_cond, wpO_map, wpO_some] at h
  exact Awp.of (by kernel_rfl) h

theorem math_bits_OnesCount64_n6_l (x3471 : Int) : Link math_bits_OnesCount64_ctx LL (cq [0,1,1,1,1,1,1] (bodyOf Tryd.f88)) (aq [0,1,1,1,1,1,1] math_bits_OnesCount64_an) ⟨mkE 35 0 [(0, dW x3471)], []⟩ (math_bits_OnesCount64_n6 x3471) (fun (t : Int) => (Exit.normal, ⟨mkE 35 0 [(0, dW t)], []⟩)) := by
  refine Link.of fun K h => ?_
  simp only [math_bits_OnesCount64_n6, wpO_bind, wpO_cond, wpO_map, wpO_some] at h
  exact Awp.of (by kernel_rfl) h

theorem math_bits_OnesCount64_n7_l (x3476 : Int) : Link math_bits_OnesCount64_ctx LL (cq [0,1,1,1,1,1,1,1] (bodyOf Tryd.f88)) (aq [0,1,1,1,1,1,1,1] math_bits_OnesCount64_an) ⟨mkE 35 0 [(0, dW x3476)], []⟩ (math_bits_OnesCount64_n7 x3476) (fun (t : Int) => (Exit.normal, ⟨mkE 35 0 [(2, dI t)], []⟩)) := by
  refine Link.of fun K h => ?_
  simp only [math_bits_OnesCount64_n7, wpO_bind, wpO_cond, wpO_map, wpO_some] at h
  exact Awp.of (by kernel_rfl) h

theorem math_bits_OnesCount64_n8_l (x3481 : Int) : Link math_bits_OnesCount64_ctx LL (cq [1,1,1,1,1,1,1,1] (bodyOf Tryd.f88)) (aq [1,1,1,1,1,1,1,1] math_bits_OnesCount64_an) ⟨mkE 35 0 [(2, dI x3481)], []⟩ (math_bits_OnesCount64_n8 x3481) (fun (t : Int) => (Exit.ret, ⟨mkE 35 0 [(2, dI t)], []⟩)) := by
  refine Link.of fun K h => ?_
  simp only [math_bits_OnesCount64_n8, wpO_bind, wpO_cond, wpO_map, wpO_some] at h
  exact Awp.of (by kernel_rfl) h

def math_bits_OnesCount64_n9_l (x3476 : Int) := (link_seq (math_bits_OnesCount64_n7_l x3476) (fun (t : Int) => (math_bits_OnesCount64_n8_l t)))

def math_bits_OnesCount64_n10_l (x3471 : Int) := (link_seq (math_bits_OnesCount64_n6_l x3471) (fun (t : Int) => (math_bits_OnesCount64_n9_l t)))

def math_bits_OnesCount64_n11_l (x3466 : Int) := (link_seq (math_bits_OnesCount64_n5_l x3466) (fun (t : Int) => (math_bits_OnesCount64_n10_l t)))

def math_bits_OnesCount64_n12_l (x3462 : Int) := (link_seq (math_bits_OnesCount64_n4_l x3462) (fun (t : Int) => (math_bits_OnesCount64_n11_l t)))

def math_bits_OnesCount64_n13_l (x3455 : Int) := (link_seq (math_bits_OnesCount64_n3_l x3455) (fun (t : Int) => (math_bits_OnesCount64_n12_l t)))

def math_bits_OnesCount64_n14_l (x3438 : Int) := (link_seq (math_bits_OnesCount64_n2_l x3438) (fun (t : Int) => (math_bits_OnesCount64_n13_l t)))

def math_bits_OnesCount64_n15_l (x3433 : Int) := (link_group (c := (cq [0,1] (bodyOf Tryd.f88))) (a := (aq [0,1] math_bits_OnesCount64_an)) [(cq [0] (bodyOf Tryd.f88))] [(aq [0] math_bits_OnesCount64_an)] rfl (link_seq (math_bits_OnesCount64_n1_l x3433) (fun (t : Int) => (math_bits_OnesCount64_n14_l t))))

theorem math_bits_OnesCount64_e (x3433 : Int) {r : AV} {H' : Heap} (h : (Ans.mk _ (math_bits_OnesCount64 x3433) (fun (t : Int) => (dI t, [])) [] none).run = some (r, H')) : Awp math_bits_OnesCount64_ctx LL (bodyOf Tryd.f88) math_bits_OnesCount64_an ⟨mkE 35 0 [(0, dW x3433)], []⟩ (Ret (tlook tys) Tryd.f88.results.toList r H') :=
  ret_of' (Link.cast (by kernel_rfl) (by kernel_rfl) (math_bits_OnesCount64_n15_l x3433)) (by unfold math_bits_OnesCount64; kernel_rfl) (by
  intro t
  exact ret_mk [dI t] (by kernel_rfl) (by kernel_rfl) (by kernel_rfl) (by kernel_rfl)) h

def F_math_bits_OnesCount64 : Fun := fun avs H =>
  match avs, H with
  | [.dat (.int .u64) x3433], [] => ⟨_, math_bits_OnesCount64 x3433, fun (t : Int) => (dI t, []), [], none⟩
  | _, _ => Ans.no

theorem math_bits_OnesCount64_sound : Sound Tryd.prog 88 F_math_bits_OnesCount64 := by
  refine fn_sound' (C := math_bits_OnesCount64_ctx) (c := bodyOf Tryd.f88) (cok_of tys_ok (alln) (alln) (by kernel_rfl)) Tryd.func88 (by kernel_rfl) LL math_bits_OnesCount64_an ?_
  intro avs H r H' h
  unfold F_math_bits_OnesCount64 at h
  split at h
  · refine Awp.cast ?_ ?_ ?_ (math_bits_OnesCount64_e _ h) <;> kernel_rfl
  · simp [Ans.no, Ans.run] at h


/-! math/bits.OnesCount -/

def math_bits_OnesCount_an : Ann := (.seq (.leaf [0]) (.seq (.cond (.seq (.leaf [2]) (.leaf [2])) (.leaf [0])) (.seq (.leaf [2]) (.leaf [2]))))

noncomputable def math_bits_OnesCount_ctx : Ctx := ⟨tlook tys, olook [(88, F_math_bits_OnesCount64)], ioF, 0, false, []⟩

theorem math_bits_OnesCount_n1_l (x3432 : Int) : Link math_bits_OnesCount_ctx LL (bodyOf Tryd.f82) math_bits_OnesCount_an ⟨mkE 8 0 [(0, dW x3432)], []⟩ (math_bits_OnesCount_n1 x3432) (fun (t : Int) => (Exit.ret, ⟨mkE 8 0 [(2, dI t)], []⟩)) := by
  refine Link.of fun K h => ?_
  simp only [math_bits_OnesCount_n1, wpO_bind, wpO_cond, wpO_map, wpO_some] at h
  exact Awp.of (by kernel_rfl) h

theorem math_bits_OnesCount_e (x3432 : Int) {r : AV} {H' : Heap} (h : (Ans.mk _ (math_bits_OnesCount x3432) (fun (t : Int) => (dI t, [])) [] none).run = some (r, H')) : Awp math_bits_OnesCount_ctx LL (bodyOf Tryd.f82) math_bits_OnesCount_an ⟨mkE 8 0 [(0, dW x3432)], []⟩ (Ret (tlook tys) Tryd.f82.results.toList r H') :=
  ret_of' (math_bits_OnesCount_n1_l x3432) (by unfold math_bits_OnesCount; kernel_rfl) (by
  intro t
  exact ret_mk [dI t] (by kernel_rfl) (by kernel_rfl) (by kernel_rfl) (by kernel_rfl)) h

def F_math_bits_OnesCount : Fun := fun avs H =>
  match avs, H with
  | [.dat (.int .u64) x3432], [] => ⟨_, math_bits_OnesCount x3432, fun (t : Int) => (dI t, []), [], none⟩
  | _, _ => Ans.no

theorem math_bits_OnesCount_sound : Sound Tryd.prog 82 F_math_bits_OnesCount := by
  refine fn_sound' (C := math_bits_OnesCount_ctx) (c := bodyOf Tryd.f82) (cok_of tys_ok (allc math_bits_OnesCount64_sound alln) (allc Tryd.call88 alln) (by kernel_rfl)) Tryd.func82 (by kernel_rfl) LL math_bits_OnesCount_an ?_
  intro avs H r H' h
  unfold F_math_bits_OnesCount at h
  split at h
  · refine Awp.cast ?_ ?_ ?_ (math_bits_OnesCount_e _ h) <;> kernel_rfl
  · simp [Ans.no, Ans.run] at h


/-! (loop.example/headtrees/impl.wordSet).count -/

def impl_wordSet_count_an : Ann := (.seq (.leaf [0]) (.seq (.leaf [2]) (.leaf [2])))

noncomputable def impl_wordSet_count_ctx : Ctx := ⟨tlook tys, olook [(82, F_math_bits_OnesCount)], ioF, 0, false, []⟩

theorem impl_wordSet_count_n1_l (x3431 : Int) : Link impl_wordSet_count_ctx LL (bodyOf Tryd.f71) impl_wordSet_count_an ⟨mkE 5 0 [(0, dW x3431)], []⟩ (impl_wordSet_count_n1 x3431) (fun (t : Int) => (Exit.ret, ⟨mkE 5 0 [(2, dI t)], []⟩)) := by
  refine Link.of fun K h => ?_
  simp only [impl_wordSet_count_n1, wpO_bind, wpO_cond, wpO_map, wpO_some] at h
  exact Awp.of (by kernel_rfl) h

theorem impl_wordSet_count_e (x3431 : Int) {r : AV} {H' : Heap} (h : (Ans.mk _ (impl_wordSet_count x3431) (fun (t : Int) => (dI t, [])) [] none).run = some (r, H')) : Awp impl_wordSet_count_ctx LL (bodyOf Tryd.f71) impl_wordSet_count_an ⟨mkE 5 0 [(0, dW x3431)], []⟩ (Ret (tlook tys) Tryd.f71.results.toList r H') :=
  ret_of' (impl_wordSet_count_n1_l x3431) (by unfold impl_wordSet_count; kernel_rfl) (by
  intro t
  exact ret_mk [dI t] (by kernel_rfl) (by kernel_rfl) (by kernel_rfl) (by kernel_rfl)) h

def F_impl_wordSet_count : Fun := fun avs H =>
  match avs, H with
  | [.dat (.int .u64) x3431], [] => ⟨_, impl_wordSet_count x3431, fun (t : Int) => (dI t, []), [], none⟩
  | _, _ => Ans.no

theorem impl_wordSet_count_sound : Sound Tryd.prog 71 F_impl_wordSet_count := by
  refine fn_sound' (C := impl_wordSet_count_ctx) (c := bodyOf Tryd.f71) (cok_of tys_ok (allc math_bits_OnesCount_sound alln) (allc Tryd.call82 alln) (by kernel_rfl)) Tryd.func71 (by kernel_rfl) LL impl_wordSet_count_an ?_
  intro avs H r H' h
  unfold F_impl_wordSet_count at h
  split at h
  · refine Awp.cast ?_ ?_ ?_ (impl_wordSet_count_e _ h) <;> kernel_rfl
  · simp [Ans.no, Ans.run] at h


/-! math/bits.TrailingZeros64 -/

def math_bits_TrailingZeros64_an : Ann := (.seq (.leaf [0]) (.seq (.seq (.leaf [0, 4]) (.cond (.seq (.leaf [2]) (.leaf [2])) (.leaf [0]))) (.seq (.leaf [2]) (.leaf [2]))))

noncomputable def math_bits_TrailingZeros64_ctx : Ctx := ⟨tlook tys, olook [], ioF, 0, false, []⟩

theorem math_bits_TrailingZeros64_n1_l (x3492 : Int) : Link math_bits_TrailingZeros64_ctx LL (bodyOf Tryd.f91) math_bits_TrailingZeros64_an ⟨mkE 14 0 [(0, dW x3492)], []⟩ (math_bits_TrailingZeros64_n1 x3492) (fun (t : Int) => (Exit.ret, ⟨mkE 14 0 [(2, dI t)], []⟩)) := by
  refine Link.of fun K h => ?_
  simp only [math_bits_TrailingZeros64_n1, wpO_bind, wpO_cond, wpO_map, wpO_some] at h
  exact Awp.of (by kernel_rfl) h

theorem math_bits_TrailingZeros64_e (x3492 : Int) {r : AV} {H' : Heap} (h : (Ans.mk _ (math_bits_TrailingZeros64 x3492) (fun (t : Int) => (dI t, [])) [] none).run = some (r, H')) : Awp math_bits_TrailingZeros64_ctx LL (bodyOf Tryd.f91) math_bits_TrailingZeros64_an ⟨mkE 14 0 [(0, dW x3492)], []⟩ (Ret (tlook tys) Tryd.f91.results.toList r H') :=
  ret_of' (math_bits_TrailingZeros64_n1_l x3492) (by unfold math_bits_TrailingZeros64; kernel_rfl) (by
  intro t
  exact ret_mk [dI t] (by kernel_rfl) (by kernel_rfl) (by kernel_rfl) (by kernel_rfl)) h

def F_math_bits_TrailingZeros64 : Fun := fun avs H =>
  match avs, H with
  | [.dat (.int .u64) x3492], [] => ⟨_, math_bits_TrailingZeros64 x3492, fun (t : Int) => (dI t, []), [], none⟩
  | _, _ => Ans.no

theorem math_bits_TrailingZeros64_sound : Sound Tryd.prog 91 F_math_bits_TrailingZeros64 := by
  refine fn_sound' (C := math_bits_TrailingZeros64_ctx) (c := bodyOf Tryd.f91) (cok_of tys_ok (alln) (alln) (by kernel_rfl)) Tryd.func91 (by kernel_rfl) LL math_bits_TrailingZeros64_an ?_
  intro avs H r H' h
  unfold F_math_bits_TrailingZeros64 at h
  split at h
  · refine Awp.cast ?_ ?_ ?_ (math_bits_TrailingZeros64_e _ h) <;> kernel_rfl
  · simp [Ans.no, Ans.run] at h


/-! math/bits.TrailingZeros -/

def math_bits_TrailingZeros_an : Ann := (.seq (.leaf [0]) (.seq (.cond (.seq (.leaf [2]) (.leaf [2])) (.leaf [0])) (.seq (.leaf [2]) (.leaf [2]))))

noncomputable def math_bits_TrailingZeros_ctx : Ctx := ⟨tlook tys, olook [(91, F_math_bits_TrailingZeros64)], ioF, 0, false, []⟩

theorem math_bits_TrailingZeros_n1_l (x3491 : Int) : Link math_bits_TrailingZeros_ctx LL (bodyOf Tryd.f85) math_bits_TrailingZeros_an ⟨mkE 8 0 [(0, dW x3491)], []⟩ (math_bits_TrailingZeros_n1 x3491) (fun (t : Int) => (Exit.ret, ⟨mkE 8 0 [(2, dI t)], []⟩)) := by
  refine Link.of fun K h => ?_
  simp only [math_bits_TrailingZeros_n1, wpO_bind, wpO_cond, wpO_map, wpO_some] at h
  exact Awp.of (by kernel_rfl) h

theorem math_bits_TrailingZeros_e (x3491 : Int) {r : AV} {H' : Heap} (h : (Ans.mk _ (math_bits_TrailingZeros x3491) (fun (t : Int) => (dI t, [])) [] none).run = some (r, H')) : Awp math_bits_TrailingZeros_ctx LL (bodyOf Tryd.f85) math_bits_TrailingZeros_an ⟨mkE 8 0 [(0, dW x3491)], []⟩ (Ret (tlook tys) Tryd.f85.results.toList r H') :=
  ret_of' (math_bits_TrailingZeros_n1_l x3491) (by unfold math_bits_TrailingZeros; kernel_rfl) (by
  intro t
  exact ret_mk [dI t] (by kernel_rfl) (by kernel_rfl) (by kernel_rfl) (by kernel_rfl)) h

def F_math_bits_TrailingZeros : Fun := fun avs H =>
  match avs, H with
  | [.dat (.int .u64) x3491], [] => ⟨_, math_bits_TrailingZeros x3491, fun (t : Int) => (dI t, []), [], none⟩
  | _, _ => Ans.no

theorem math_bits_TrailingZeros_sound : Sound Tryd.prog 85 F_math_bits_TrailingZeros := by
  refine fn_sound' (C := math_bits_TrailingZeros_ctx) (c := bodyOf Tryd.f85) (cok_of tys_ok (allc math_bits_TrailingZeros64_sound alln) (allc Tryd.call91 alln) (by kernel_rfl)) Tryd.func85 (by kernel_rfl) LL math_bits_TrailingZeros_an ?_
  intro avs H r H' h
  unfold F_math_bits_TrailingZeros at h
  split at h
  · refine Awp.cast ?_ ?_ ?_ (math_bits_TrailingZeros_e _ h) <;> kernel_rfl
  · simp [Ans.no, Ans.run] at h


/-! (loop.example/headtrees/impl.wordSet).list -/

def impl_wordSet_list_an : Ann := (.seq (.leaf [0]) (.seq (.leaf [0, 3]) (.seq (.seq (.leaf [3, 4]) (.block (.loop (.seq (.seq (.leaf [3, 4, 10]) (.cond (.leaf [3, 4]) (.leaf [3]))) (.seq (.block (.leaf [3, 4])) (.leaf [3, 4])))))) (.seq (.leaf [2]) (.leaf [2])))))

noncomputable def impl_wordSet_list_ctx : Ctx := ⟨tlook tys, olook [(71, F_impl_wordSet_count), (85, F_math_bits_TrailingZeros)], ioF, 0, false, []⟩

theorem impl_wordSet_list_n1_l (x3430 : Int) : Link impl_wordSet_list_ctx LL (Code.seq (cq [0] (bodyOf Tryd.f77)) (cq [0,1] (bodyOf Tryd.f77))) (Ann.seq (aq [0] impl_wordSet_list_an) (aq [0,1] impl_wordSet_list_an)) ⟨mkE 22 0 [(0, dW x3430)], []⟩ (impl_wordSet_list_n1 x3430) (fun (t : (List Int)) => (Exit.normal, ⟨mkE 22 0 [(0, dW x3430), (3, .slc 0)], [some (sI t)]⟩)) := by
  refine Link.of fun K h => ?_
  simp only [impl_wordSet_list_n1, wpO_bind, wpO_cond, wpO_map, wpO_some] at h
  exact Awp.of (by kernel_rfl) h

theorem impl_wordSet_list_n2_l (x3430 : Int) (x3488 : List Int) : Link impl_wordSet_list_ctx LL (cq [0,0,1,1] (bodyOf Tryd.f77)) (aq [0,0,1,1] impl_wordSet_list_an) ⟨mkE 22 0 [(0, dW x3430), (3, .slc 0)], [some (sI x3488)]⟩ (impl_wordSet_list_n2) (fun (t : Unit) => (Exit.normal, ⟨mkE 22 0 [(3, .slc 0), (4, dW x3430)], [some (sI x3488)]⟩)) := by
  refine Link.of fun K h => ?_
  simp only [impl_wordSet_list_n2, wpO_bind, wpO_cond, wpO_map, wpO_some] at h
  exact Awp.of (by kernel_rfl) h

theorem impl_wordSet_list_n3_l (x3531 : Int) (x3532 : List Int) : Link impl_wordSet_list_ctx LL (cq [0,0,1,0,1,1] (bodyOf Tryd.f77)) (aq [0,0,1,0,1,1] impl_wordSet_list_an) ⟨mkE 22 0 [(3, .slc 0), (4, dW x3531)], [some (sI x3532)]⟩ (impl_wordSet_list_n3 x3531 x3532) (Sum.elim (fun (t : Int × (List Int)) => (Exit.normal, ⟨mkE 22 0 [(3, .slc 0), (4, dW t.1)], [some (sI t.2)]⟩)) (fun (t : (List Int)) => ((Exit.exit 0), ⟨mkE 22 0 [(3, .slc 0)], [some (sI t)]⟩))) := by
  refine Link.of fun K h => ?_
  simp only [impl_wordSet_list_n3, wpO_bind, wpO_cond, wpO_map, wpO_some] at h
  exact Awp.of (by kernel_rfl) h

def impl_wordSet_list_n4_l (x3430 : Int) (x3488 : List Int) := (link_loop (mk := fun (s : Int × (List Int)) => ⟨mkE 22 0 [(3, .slc 0), (4, dW s.1)], [some (sI s.2)]⟩) (fin := (fun (t : (List Int)) => ((Exit.exit 0), ⟨mkE 22 0 [(3, .slc 0)], [some (sI t)]⟩))) (by
  rintro t f K h
  · exact h) (fun s => link_map (impl_wordSet_list_n3_l s.1 s.2) (Sum.elim (fun (t : Int × (List Int)) => Sum.inl (t.1, t.2)) (fun (t : (List Int)) => Sum.inr t)) (by
  rintro (t | t)
  · kernel_rfl
  · kernel_rfl)) (x3430, x3488))

def impl_wordSet_list_n5_l (x3430 : Int) (x3488 : List Int) := (link_block (fin2 := (fun (t : (List Int)) => (Exit.normal, ⟨mkE 22 0 [(3, .slc 0)], [some (sI t)]⟩))) (id := 0) (impl_wordSet_list_n4_l x3430 x3488) (fun (t : (List Int)) => t) (by
  rintro t K h
  · exact Eq.mp (by kernel_rfl) h))

def impl_wordSet_list_n6_l (x3430 : Int) (x3488 : List Int) := (link_seq (impl_wordSet_list_n2_l x3430 x3488) (fun (t : Unit) => (impl_wordSet_list_n5_l x3430 x3488)))

theorem impl_wordSet_list_n7_l (x3532 : List Int) : Link impl_wordSet_list_ctx LL (cq [1,1,1] (bodyOf Tryd.f77)) (aq [1,1,1] impl_wordSet_list_an) ⟨mkE 22 0 [(3, .slc 0)], [some (sI x3532)]⟩ (impl_wordSet_list_n7 x3532) (fun (t : (List Int)) => (Exit.ret, ⟨mkE 22 0 [(2, .slc 0)], [some (sI t)]⟩)) := by
  refine Link.of fun K h => ?_
  simp only [impl_wordSet_list_n7, wpO_bind, wpO_cond, wpO_map, wpO_some] at h
  exact Awp.of (by kernel_rfl) h

def impl_wordSet_list_n8_l (x3430 : Int) (x3488 : List Int) := (link_seq (impl_wordSet_list_n6_l x3430 x3488) (fun (t : (List Int)) => (impl_wordSet_list_n7_l t)))

def impl_wordSet_list_n9_l (x3430 : Int) := (link_group (c := (cq [0,1] (bodyOf Tryd.f77))) (a := (aq [0,1] impl_wordSet_list_an)) [(cq [0] (bodyOf Tryd.f77))] [(aq [0] impl_wordSet_list_an)] rfl (link_seq (impl_wordSet_list_n1_l x3430) (fun (t : (List Int)) => (impl_wordSet_list_n8_l x3430 t))))

theorem impl_wordSet_list_e (x3430 : Int) {r : AV} {H' : Heap} (h : (Ans.mk _ (impl_wordSet_list x3430) (fun (t : (List Int)) => (.slc 0, [some (sI t)])) [] none).run = some (r, H')) : Awp impl_wordSet_list_ctx LL (bodyOf Tryd.f77) impl_wordSet_list_an ⟨mkE 22 0 [(0, dW x3430)], []⟩ (Ret (tlook tys) Tryd.f77.results.toList r H') :=
  ret_of' (Link.cast (by kernel_rfl) (by kernel_rfl) (impl_wordSet_list_n9_l x3430)) (by unfold impl_wordSet_list; kernel_rfl) (by
  intro t
  exact ret_mk [.slc 0] (by kernel_rfl) (by kernel_rfl) (by kernel_rfl) (by kernel_rfl)) h

def F_impl_wordSet_list : Fun := fun avs H =>
  match avs, H with
  | [.dat (.int .u64) x3430], [] => ⟨_, impl_wordSet_list x3430, fun (t : (List Int)) => (.slc 0, [some (sI t)]), [], none⟩
  | _, _ => Ans.no

theorem impl_wordSet_list_sound : Sound Tryd.prog 77 F_impl_wordSet_list := by
  refine fn_sound' (C := impl_wordSet_list_ctx) (c := bodyOf Tryd.f77) (cok_of tys_ok (allc impl_wordSet_count_sound (allc math_bits_TrailingZeros_sound alln)) (allc Tryd.call71 (allc Tryd.call85 alln)) (by kernel_rfl)) Tryd.func77 (by kernel_rfl) LL impl_wordSet_list_an ?_
  intro avs H r H' h
  unfold F_impl_wordSet_list at h
  split at h
  · refine Awp.cast ?_ ?_ ?_ (impl_wordSet_list_e _ h) <;> kernel_rfl
  · simp [Ans.no, Ans.run] at h


/-! loop.example/headtrees/impl.fillYields -/

def impl_fillYields_an : Ann := (.seq (.leaf [0, 1, 2]) (.seq (.leaf [0, 1, 2, 7]) (.seq (.seq (.leaf [0, 1, 2, 7, 15, 16, 17]) (.block (.loop (.seq (.leaf [0, 1, 2, 7, 15, 16, 17, 18]) (.seq (.cond (.leaf [0, 1, 2, 7, 15, 16, 17]) (.leaf [0, 2, 7])) (.seq (.block (.seq (.leaf [0, 1, 2, 7, 9, 15, 16, 17]) (.leaf [0, 1, 2, 7, 15, 16, 17]))) (.leaf [0, 1, 2, 7, 15, 16, 17]))))))) (.seq (.leaf [7]) (.seq (.leaf [6]) (.leaf [6]))))))

def F_impl_fillYields_fuel (n : Nat) : Fun := fun avs H =>
  match avs, H with
  | [.slc 0, .dat (.list (.int .i64)) x3379, .dat (.int .i64) x3380], [some (.seq (.int .u64) x3381)] => ⟨_, impl_fillYields_fuel n x3379 x3380 x3381, fun (t : Int × (List Int)) => (dW t.1, [some (.seq (.int .u64) t.2)]), [], none⟩
  | _, _ => Ans.no

noncomputable def impl_fillYields_ctx (n : Nat) : Ctx := ⟨tlook tys, olook [(76, F_impl_only), (58, F_impl_dependents), (77, F_impl_wordSet_list), (61, F_impl_fillYields_fuel n)], ioF, 1, false, []⟩

theorem impl_fillYields_n1_l (n : Nat) (x3379 : List Int) (x3380 : Int) (x3381 : List Int) : Link (impl_fillYields_ctx n) LL (Code.seq (cq [0] (bodyOf Tryd.f61)) (cq [0,1] (bodyOf Tryd.f61))) (Ann.seq (aq [0] impl_fillYields_an) (aq [0,1] impl_fillYields_an)) ⟨mkE 34 0 [(0, .slc 0), (1, dL x3379), (2, dI x3380)], [some (.seq (.int .u64) x3381)]⟩ (impl_fillYields_n1 (impl_fillYields_fuel n) x3380) (fun (t : Int) => (Exit.normal, ⟨mkE 34 0 [(0, .slc 0), (1, dL x3379), (2, dI x3380), (7, dW t)], [some (.seq (.int .u64) x3381)]⟩)) := by
  refine Link.of fun K h => ?_
  simp only [impl_fillYields_n1, wpO_bind, wpO_cond, wpO_map, wpO_some] at h
  exact Awp.of (by kernel_rfl) h

theorem impl_fillYields_n2_l (n : Nat) (x3379 : List Int) (x3380 : Int) (x3566 : Int) (x3381 : List Int) : Link (impl_fillYields_ctx n) LL (cq [0,0,1,1] (bodyOf Tryd.f61)) (aq [0,0,1,1] impl_fillYields_an) ⟨mkE 34 0 [(0, .slc 0), (1, dL x3379), (2, dI x3380), (7, dW x3566)], [some (.seq (.int .u64) x3381)]⟩ (impl_fillYields_n2 (impl_fillYields_fuel n) x3379 x3380) (fun (t : Int × (List Int)) => (Exit.normal, ⟨mkE 34 0 [(0, .slc 0), (1, dL x3379), (2, dI x3380), (7, dW x3566), (15, .slc 1), (16, dI t.1), (17, dI 0)], [some (.seq (.int .u64) x3381), some (sI t.2)]⟩)) := by
  refine Link.of fun K h => ?_
  simp only [impl_fillYields_n2, wpO_bind, wpO_cond, wpO_map, wpO_some] at h
  exact Awp.of (by kernel_rfl) h

theorem impl_fillYields_n3_l (n : Nat) (x3379 : List Int) (x3380 : Int) (x3587 : Int) (x3569 : Int) (x3588 : Int) (x3589 : List Int) (x3568 : List Int) : Link (impl_fillYields_ctx n) LL (cq [0,0,1,0,1,1] (bodyOf Tryd.f61)) (aq [0,0,1,0,1,1] impl_fillYields_an) ⟨mkE 34 0 [(0, .slc 0), (1, dL x3379), (2, dI x3380), (7, dW x3587), (15, .slc 1), (16, dI x3569), (17, dI x3588)], [some (.seq (.int .u64) x3589), some (sI x3568)]⟩ (impl_fillYields_n3 (impl_fillYields_fuel n) x3379 x3587 x3569 x3588 x3589 x3568) (Sum.elim (fun (t : Int × Int × (List Int)) => (Exit.normal, ⟨mkE 34 0 [(0, .slc 0), (1, dL x3379), (2, dI x3380), (7, dW t.1), (15, .slc 1), (16, dI x3569), (17, dI t.2.1)], [some (.seq (.int .u64) t.2.2), some (sI x3568)]⟩)) (fun (t : Int × (List Int)) => ((Exit.exit 0), ⟨mkE 34 0 [(0, .slc 0), (2, dI x3380), (7, dW t.1)], [some (.seq (.int .u64) t.2)]⟩))) := by
  refine Link.of fun K h => ?_
  simp only [impl_fillYields_n3, wpO_bind, wpO_cond, wpO_map, wpO_some] at h
  exact Awp.of (by kernel_rfl) h

def impl_fillYields_n4_l (n : Nat) (x3379 : List Int) (x3380 : Int) (x3566 : Int) (x3569 : Int) (x3381 : List Int) (x3568 : List Int) := (link_loop (mk := fun (s : Int × Int × (List Int)) => ⟨mkE 34 0 [(0, .slc 0), (1, dL x3379), (2, dI x3380), (7, dW s.1), (15, .slc 1), (16, dI x3569), (17, dI s.2.1)], [some (.seq (.int .u64) s.2.2), some (sI x3568)]⟩) (fin := (fun (t : Int × (List Int)) => ((Exit.exit 0), ⟨mkE 34 0 [(0, .slc 0), (2, dI x3380), (7, dW t.1)], [some (.seq (.int .u64) t.2)]⟩))) (by
  rintro t f K h
  · exact h) (fun s => link_map (impl_fillYields_n3_l n x3379 x3380 s.1 x3569 s.2.1 s.2.2 x3568) (Sum.elim (fun (t : Int × Int × (List Int)) => Sum.inl (t.1, t.2.1, t.2.2)) (fun (t : Int × (List Int)) => Sum.inr t)) (by
  rintro (t | t)
  · kernel_rfl
  · kernel_rfl)) (x3566, 0, x3381))

def impl_fillYields_n5_l (n : Nat) (x3379 : List Int) (x3380 : Int) (x3566 : Int) (x3569 : Int) (x3381 : List Int) (x3568 : List Int) := (link_block (fin2 := (fun (t : Int × (List Int)) => (Exit.normal, ⟨mkE 34 0 [(0, .slc 0), (2, dI x3380), (7, dW t.1)], [some (.seq (.int .u64) t.2)]⟩))) (id := 0) (impl_fillYields_n4_l n x3379 x3380 x3566 x3569 x3381 x3568) (fun (t : Int × (List Int)) => (t.1, t.2)) (by
  rintro t K h
  · exact Eq.mp (by kernel_rfl) h))

def impl_fillYields_n6_l (n : Nat) (x3379 : List Int) (x3380 : Int) (x3566 : Int) (x3381 : List Int) := (link_seq (impl_fillYields_n2_l n x3379 x3380 x3566 x3381) (fun (t : Int × (List Int)) => (impl_fillYields_n5_l n x3379 x3380 x3566 t.1 x3381 t.2)))

theorem impl_fillYields_n7_l (n : Nat) (x3380 : Int) (x3587 : Int) (x3589 : List Int) : Link (impl_fillYields_ctx n) LL (cq [1,1,1] (bodyOf Tryd.f61)) (aq [1,1,1] impl_fillYields_an) ⟨mkE 34 0 [(0, .slc 0), (2, dI x3380), (7, dW x3587)], [some (.seq (.int .u64) x3589)]⟩ (impl_fillYields_n7 (impl_fillYields_fuel n) x3380 x3587 x3589) (fun (t : Int × (List Int)) => (Exit.ret, ⟨mkE 34 0 [(6, dW t.1)], [some (.seq (.int .u64) t.2)]⟩)) := by
  refine Link.of fun K h => ?_
  simp only [impl_fillYields_n7, wpO_bind, wpO_cond, wpO_map, wpO_some] at h
  exact Awp.of (by kernel_rfl) h

def impl_fillYields_n8_l (n : Nat) (x3379 : List Int) (x3380 : Int) (x3566 : Int) (x3381 : List Int) := (link_seq (impl_fillYields_n6_l n x3379 x3380 x3566 x3381) (fun (t : Int × (List Int)) => (impl_fillYields_n7_l n x3380 t.1 t.2)))

def impl_fillYields_n9_l (n : Nat) (x3379 : List Int) (x3380 : Int) (x3381 : List Int) := (link_group (c := (cq [0,1] (bodyOf Tryd.f61))) (a := (aq [0,1] impl_fillYields_an)) [(cq [0] (bodyOf Tryd.f61))] [(aq [0] impl_fillYields_an)] rfl (link_seq (impl_fillYields_n1_l n x3379 x3380 x3381) (fun (t : Int) => (impl_fillYields_n8_l n x3379 x3380 t x3381))))

theorem impl_fillYields_e (n : Nat) (x3379 : List Int) (x3380 : Int) (x3381 : List Int) {r : AV} {H' : Heap} (h : (Ans.mk _ (impl_fillYields_fuel (n + 1) x3379 x3380 x3381) (fun (t : Int × (List Int)) => (dW t.1, [some (.seq (.int .u64) t.2)])) [] none).run = some (r, H')) : Awp (impl_fillYields_ctx n) LL (bodyOf Tryd.f61) impl_fillYields_an ⟨mkE 34 0 [(0, .slc 0), (1, dL x3379), (2, dI x3380)], [some (.seq (.int .u64) x3381)]⟩ (Ret (tlook tys) Tryd.f61.results.toList r H') :=
  ret_of' (Link.cast (by kernel_rfl) (by kernel_rfl) (impl_fillYields_n9_l n x3379 x3380 x3381)) (by (show _ = _); kernel_rfl) (by
  intro t
  exact ret_mk [dW t.1] (by kernel_rfl) (by kernel_rfl) (by kernel_rfl) (by kernel_rfl)) h

theorem impl_fillYields_step (n : Nat) (h61 : Sound Tryd.prog 61 (F_impl_fillYields_fuel n)) : Sound Tryd.prog 61 (F_impl_fillYields_fuel (n + 1)) := by
  refine fn_sound' (C := impl_fillYields_ctx n) (c := bodyOf Tryd.f61) (cok_of tys_ok (allc impl_only_sound (allc impl_dependents_sound (allc impl_wordSet_list_sound (allc h61 alln)))) (allc Tryd.call76 (allc Tryd.call58 (allc Tryd.call77 (allc Tryd.call61 alln)))) (by kernel_rfl)) Tryd.func61 (by kernel_rfl) LL impl_fillYields_an ?_
  intro avs H r H' h
  unfold F_impl_fillYields_fuel at h
  split at h
  · refine Awp.cast ?_ ?_ ?_ (impl_fillYields_e n _ _ _ h) <;> kernel_rfl
  · simp [Ans.no, Ans.run] at h

theorem impl_fillYields_null : Sound Tryd.prog 61 (F_impl_fillYields_fuel 0) := by
  intro avs H r H' h
  unfold F_impl_fillYields_fuel at h
  split at h
  · simp [impl_fillYields_fuel, impl_fillYields_knot, Ans.run] at h
  · simp [Ans.no, Ans.run] at h

theorem impl_fillYields_knot_all : ∀ n, Sound Tryd.prog 61 (F_impl_fillYields_fuel n)
  | 0 => impl_fillYields_null
  | n + 1 => by
    have h61 := impl_fillYields_knot_all n
    exact impl_fillYields_step n h61

def F_impl_fillYields : Fun := fun avs H =>
  match avs, H with
  | [.slc 0, .dat (.list (.int .i64)) x3379, .dat (.int .i64) x3380], [some (.seq (.int .u64) x3381)] => ⟨_, impl_fillYields x3379 x3380 x3381, fun (t : Int × (List Int)) => (dW t.1, [some (.seq (.int .u64) t.2)]), [], none⟩
  | _, _ => Ans.no

theorem impl_fillYields_sound : Sound Tryd.prog 61 F_impl_fillYields := by
  have e : F_impl_fillYields = F_impl_fillYields_fuel RR := by
    funext avs H
    unfold F_impl_fillYields F_impl_fillYields_fuel
    split <;> first | rfl | (simp only [impl_fillYields])
  rw [e]
  exact (impl_fillYields_knot_all RR)


/-! loop.example/headtrees/impl.yieldsOf -/

def impl_yieldsOf_an : Ann := (.seq (.leaf [0]) (.seq (.leaf [0, 3]) (.seq (.leaf [3]) (.seq (.leaf [2]) (.leaf [2])))))

noncomputable def impl_yieldsOf_ctx : Ctx := ⟨tlook tys, olook [(62, F_impl_RootOf), (61, F_impl_fillYields)], ioF, 0, false, []⟩

theorem impl_yieldsOf_n1_l (x3346 : List Int) : Link impl_yieldsOf_ctx LL (bodyOf Tryd.f36) impl_yieldsOf_an ⟨mkE 13 0 [(0, dL x3346)], []⟩ (impl_yieldsOf_n1 x3346) (fun (t : (List Int)) => (Exit.ret, ⟨mkE 13 0 [(2, .slc 0)], [some (.seq (.int .u64) t)]⟩)) := by
  refine Link.of fun K h => ?_
  simp only [impl_yieldsOf_n1, wpO_bind, wpO_cond, wpO_map, wpO_some] at h
  exact Awp.of (by kernel_rfl) h

theorem impl_yieldsOf_e (x3346 : List Int) {r : AV} {H' : Heap} (h : (Ans.mk _ (impl_yieldsOf x3346) (fun (t : (List Int)) => (.slc 0, [some (.seq (.int .u64) t)])) [] none).run = some (r, H')) : Awp impl_yieldsOf_ctx LL (bodyOf Tryd.f36) impl_yieldsOf_an ⟨mkE 13 0 [(0, dL x3346)], []⟩ (Ret (tlook tys) Tryd.f36.results.toList r H') :=
  ret_of' (impl_yieldsOf_n1_l x3346) (by unfold impl_yieldsOf; kernel_rfl) (by
  intro t
  exact ret_mk [.slc 0] (by kernel_rfl) (by kernel_rfl) (by kernel_rfl) (by kernel_rfl)) h

def F_impl_yieldsOf : Fun := fun avs H =>
  match avs, H with
  | [.dat (.list (.int .i64)) x3346], [] => ⟨_, impl_yieldsOf x3346, fun (t : (List Int)) => (.slc 0, [some (.seq (.int .u64) t)]), [], none⟩
  | _, _ => Ans.no

theorem impl_yieldsOf_sound : Sound Tryd.prog 36 F_impl_yieldsOf := by
  refine fn_sound' (C := impl_yieldsOf_ctx) (c := bodyOf Tryd.f36) (cok_of tys_ok (allc impl_RootOf_sound (allc impl_fillYields_sound alln)) (allc Tryd.call62 (allc Tryd.call61 alln)) (by kernel_rfl)) Tryd.func36 (by kernel_rfl) LL impl_yieldsOf_an ?_
  intro avs H r H' h
  unfold F_impl_yieldsOf at h
  split at h
  · refine Awp.cast ?_ ?_ ?_ (impl_yieldsOf_e _ h) <;> kernel_rfl
  · simp [Ans.no, Ans.run] at h


/-! (loop.example/headtrees/impl.wordSet).isRow -/

def impl_wordSet_isRow_an : Ann := (.seq (.leaf [0]) (.seq (.leaf [0, 3]) (.seq (.leaf [2]) (.leaf [2]))))

noncomputable def impl_wordSet_isRow_ctx : Ctx := ⟨tlook tys, olook [], ioF, 0, false, []⟩

theorem impl_wordSet_isRow_n1_l (x3640 : Int) : Link impl_wordSet_isRow_ctx LL (bodyOf Tryd.f37) impl_wordSet_isRow_an ⟨mkE 14 0 [(0, dW x3640)], []⟩ (impl_wordSet_isRow_n1 x3640) (fun (t : Bool) => (Exit.ret, ⟨mkE 14 0 [(2, dB t)], []⟩)) := by
  refine Link.of fun K h => ?_
  simp only [impl_wordSet_isRow_n1, wpO_bind, wpO_cond, wpO_map, wpO_some] at h
  exact Awp.of (by kernel_rfl) h

theorem impl_wordSet_isRow_e (x3640 : Int) {r : AV} {H' : Heap} (h : (Ans.mk _ (impl_wordSet_isRow x3640) (fun (t : Bool) => (dB t, [])) [] none).run = some (r, H')) : Awp impl_wordSet_isRow_ctx LL (bodyOf Tryd.f37) impl_wordSet_isRow_an ⟨mkE 14 0 [(0, dW x3640)], []⟩ (Ret (tlook tys) Tryd.f37.results.toList r H') :=
  ret_of' (impl_wordSet_isRow_n1_l x3640) (by unfold impl_wordSet_isRow; kernel_rfl) (by
  intro t
  exact ret_mk [dB t] (by kernel_rfl) (by kernel_rfl) (by kernel_rfl) (by kernel_rfl)) h

def F_impl_wordSet_isRow : Fun := fun avs H =>
  match avs, H with
  | [.dat (.int .u64) x3640], [] => ⟨_, impl_wordSet_isRow x3640, fun (t : Bool) => (dB t, []), [], none⟩
  | _, _ => Ans.no

theorem impl_wordSet_isRow_sound : Sound Tryd.prog 37 F_impl_wordSet_isRow := by
  refine fn_sound' (C := impl_wordSet_isRow_ctx) (c := bodyOf Tryd.f37) (cok_of tys_ok (alln) (alln) (by kernel_rfl)) Tryd.func37 (by kernel_rfl) LL impl_wordSet_isRow_an ?_
  intro avs H r H' h
  unfold F_impl_wordSet_isRow at h
  split at h
  · refine Awp.cast ?_ ?_ ?_ (impl_wordSet_isRow_e _ h) <;> kernel_rfl
  · simp [Ans.no, Ans.run] at h


/-! loop.example/headtrees/impl.FlatOk -/

def impl_FlatOk_an : Ann := (.seq (.leaf [0]) (.seq (.seq (.leaf [0, 7]) (.cond (.seq (.leaf [2]) (.leaf [2])) (.leaf [0]))) (.seq (.seq (.leaf [9, 10, 11]) (.block (.loop (.seq (.leaf [9, 10, 11, 12]) (.seq (.cond (.leaf [9, 10, 11]) (.leaf [])) (.seq (.block (.seq (.leaf [4, 9, 10, 11]) (.seq (.leaf [9, 10, 11, 17]) (.cond (.seq (.leaf [2]) (.leaf [2])) (.leaf [9, 10, 11]))))) (.leaf [9, 10, 11]))))))) (.seq (.leaf [2]) (.leaf [2])))))

noncomputable def impl_FlatOk_ctx : Ctx := ⟨tlook tys, olook [(32, F_impl_TreeOk), (36, F_impl_yieldsOf), (37, F_impl_wordSet_isRow)], ioF, 0, false, []⟩

theorem impl_FlatOk_n1_l (x3343 : List Int) : Link impl_FlatOk_ctx LL (Code.seq (cq [0] (bodyOf Tryd.f15)) (cq [0,1] (bodyOf Tryd.f15))) (Ann.seq (aq [0] impl_FlatOk_an) (aq [0,1] impl_FlatOk_an)) ⟨mkE 19 0 [(0, dL x3343)], []⟩ (impl_FlatOk_n1 x3343) (Sum.elim (fun (t : Unit) => (Exit.normal, ⟨mkE 19 0 [(0, dL x3343)], []⟩)) (fun (t : Bool) => (Exit.ret, ⟨mkE 19 0 [(2, dB t)], []⟩))) := by
  refine Link.of fun K h => ?_
  simp only [impl_FlatOk_n1, wpO_bind, wpO_cond, wpO_map, wpO_some] at h
  exact Awp.of (by kernel_rfl) h

theorem impl_FlatOk_n2_l (x3343 : List Int) : Link impl_FlatOk_ctx LL (cq [0,0,1,1] (bodyOf Tryd.f15)) (aq [0,0,1,1] impl_FlatOk_an) ⟨mkE 19 0 [(0, dL x3343)], []⟩ (impl_FlatOk_n2 x3343) (fun (t : Int × (List Int)) => (Exit.normal, ⟨mkE 19 0 [(9, .slc 0), (10, dI t.1), (11, dI 0)], [some (.seq (.int .u64) t.2)]⟩)) := by
  refine Link.of fun K h => ?_
  simp only [impl_FlatOk_n2, wpO_bind, wpO_cond, wpO_map, wpO_some] at h
  exact Awp.of (by kernel_rfl) h

theorem impl_FlatOk_n3_l (x3634 : Int) (x3661 : Int) (x3633 : List Int) : Link impl_FlatOk_ctx LL (cq [0,0,1,0,1,1] (bodyOf Tryd.f15)) (aq [0,0,1,0,1,1] impl_FlatOk_an) ⟨mkE 19 0 [(9, .slc 0), (10, dI x3634), (11, dI x3661)], [some (.seq (.int .u64) x3633)]⟩ (impl_FlatOk_n3 x3634 x3661 x3633) (Sum.elim (fun (t : Int) => (Exit.normal, ⟨mkE 19 0 [(9, .slc 0), (10, dI x3634), (11, dI t)], [some (.seq (.int .u64) x3633)]⟩)) (Sum.elim (fun (t : Bool) => (Exit.ret, ⟨mkE 19 0 [(2, dB t)], []⟩)) (fun (t : Unit) => ((Exit.exit 0), ⟨mkE 19 0 [], []⟩)))) := by
  refine Link.of fun K h => ?_
  simp only [impl_FlatOk_n3, wpO_bind, wpO_cond, wpO_map, wpO_some] at h
  exact Awp.of (by kernel_rfl) h

def impl_FlatOk_n4_l (x3634 : Int) (x3633 : List Int) := (link_loop (mk := fun (s : Int) => ⟨mkE 19 0 [(9, .slc 0), (10, dI x3634), (11, dI s)], [some (.seq (.int .u64) x3633)]⟩) (fin := (Sum.elim (fun (t : Bool) => (Exit.ret, ⟨mkE 19 0 [(2, dB t)], []⟩)) (fun (t : Unit) => ((Exit.exit 0), ⟨mkE 19 0 [], []⟩)))) (by
  rintro (t | t) f K h
  · exact h
  · exact h) (fun s => link_map (impl_FlatOk_n3_l x3634 s x3633) (Sum.elim (fun (t : Int) => Sum.inl t) (Sum.elim (fun (t : Bool) => Sum.inr (Sum.inl t)) (fun (t : Unit) => Sum.inr (Sum.inr t)))) (by
  rintro (t | t | t)
  · kernel_rfl
  · kernel_rfl
  · kernel_rfl)) 0)

def impl_FlatOk_n5_l (x3634 : Int) (x3633 : List Int) := (link_block (fin2 := (Sum.elim (fun (t : Unit) => (Exit.normal, ⟨mkE 19 0 [], []⟩)) (fun (t : Bool) => (Exit.ret, ⟨mkE 19 0 [(2, dB t)], []⟩)))) (id := 0) (impl_FlatOk_n4_l x3634 x3633) (Sum.elim (fun (t : Bool) => (Sum.inr t)) (fun (t : Unit) => (Sum.inl ()))) (by
  rintro (t | t) K h
  · exact Eq.mp (by kernel_rfl) h
  · exact Eq.mp (by kernel_rfl) h))

def impl_FlatOk_n6_l (x3343 : List Int) := (link_seq (impl_FlatOk_n2_l x3343) (fun (t : Int × (List Int)) => (impl_FlatOk_n5_l t.1 t.2)))

theorem impl_FlatOk_n7_l : Link impl_FlatOk_ctx LL (cq [1,1,1] (bodyOf Tryd.f15)) (aq [1,1,1] impl_FlatOk_an) ⟨mkE 19 0 [], []⟩ (impl_FlatOk_n7) (fun (t : Bool) => (Exit.ret, ⟨mkE 19 0 [(2, dB t)], []⟩)) := by
  refine Link.of fun K h => ?_
  simp only [impl_FlatOk_n7, wpO_bind, wpO_cond, wpO_map, wpO_some] at h
  exact Awp.of (by kernel_rfl) h

def impl_FlatOk_n8_l (x3343 : List Int) := (link_seq2 (impl_FlatOk_n6_l x3343) (fun (t : Unit) => (impl_FlatOk_n7_l)) (fun (t : Bool) => t) (by
  rintro t
  · kernel_rfl) (by
  rintro t f K h
  · exact h))

def impl_FlatOk_n9_l (x3343 : List Int) := (link_group (c := (cq [0,1] (bodyOf Tryd.f15))) (a := (aq [0,1] impl_FlatOk_an)) [(cq [0] (bodyOf Tryd.f15))] [(aq [0] impl_FlatOk_an)] rfl (link_seq2 (impl_FlatOk_n1_l x3343) (fun (t : Unit) => (impl_FlatOk_n8_l x3343)) (fun (t : Bool) => t) (by
  rintro t
  · kernel_rfl) (by
  rintro t f K h
  · exact h)))

theorem impl_FlatOk_e (x3343 : List Int) {r : AV} {H' : Heap} (h : (Ans.mk _ (impl_FlatOk x3343) (fun (t : Bool) => (dB t, [])) [] none).run = some (r, H')) : Awp impl_FlatOk_ctx LL (bodyOf Tryd.f15) impl_FlatOk_an ⟨mkE 19 0 [(0, dL x3343)], []⟩ (Ret (tlook tys) Tryd.f15.results.toList r H') :=
  ret_of' (Link.cast (by kernel_rfl) (by kernel_rfl) (impl_FlatOk_n9_l x3343)) (by unfold impl_FlatOk; kernel_rfl) (by
  intro t
  exact ret_mk [dB t] (by kernel_rfl) (by kernel_rfl) (by kernel_rfl) (by kernel_rfl)) h

def F_impl_FlatOk : Fun := fun avs H =>
  match avs, H with
  | [.dat (.list (.int .i64)) x3343], [] => ⟨_, impl_FlatOk x3343, fun (t : Bool) => (dB t, []), [], none⟩
  | _, _ => Ans.no

theorem impl_FlatOk_sound : Sound Tryd.prog 15 F_impl_FlatOk := by
  refine fn_sound' (C := impl_FlatOk_ctx) (c := bodyOf Tryd.f15) (cok_of tys_ok (allc impl_TreeOk_sound (allc impl_yieldsOf_sound (allc impl_wordSet_isRow_sound alln))) (allc Tryd.call32 (allc Tryd.call36 (allc Tryd.call37 alln))) (by kernel_rfl)) Tryd.func15 (by kernel_rfl) LL impl_FlatOk_an ?_
  intro avs H r H' h
  unfold F_impl_FlatOk at h
  split at h
  · refine Awp.cast ?_ ?_ ?_ (impl_FlatOk_e _ h) <;> kernel_rfl
  · simp [Ans.no, Ans.run] at h


/-! (*loop.example/headtrees/impl.stackMachine).ruleFor -/

def impl_stackMachine_ruleFor_an : Ann := (.seq (.leaf [2, 3]) (.seq (.leaf [2, 5]) (.seq (.leaf [4]) (.leaf [4]))))

noncomputable def impl_stackMachine_ruleFor_ctx : Ctx := ⟨tlook tys, olook [], ioF, 2, false, []⟩

theorem impl_stackMachine_ruleFor_n1_l (x3688 : List Int) (x3689 : Int) (x3690 : Int) (x3691 : List Int) : Link impl_stackMachine_ruleFor_ctx LL (bodyOf Tryd.f35) impl_stackMachine_ruleFor_an ⟨mkE 8 0 [(0, .ptr 0 0), (1, dL x3688)], [some (.box [.slc 1, .nils, dI x3689, dI x3690]), some (sI x3691)]⟩ (impl_stackMachine_ruleFor_n1) (fun (t : Unit) => (Exit.ret, ⟨mkE 8 0 [(4, .fn 59 [] [.ptr 2 0, .ptr 3 0])], [some (.box [.slc 1, .nils, dI x3689, dI x3690]), some (sI x3691), some (.box [.ptr 0 0]), some (.box [.fn 57 [] [.ptr 4 0, .ptr 2 0]]), some (.box [dL x3688])]⟩)) := by
  refine Link.of fun K h => ?_
  simp only [impl_stackMachine_ruleFor_n1, wpO_bind, wpO_cond, wpO_map, wpO_some] at h
  exact Awp.of (by kernel_rfl) h

theorem impl_stackMachine_ruleFor_e (x3688 : List Int) (x3689 : Int) (x3690 : Int) (x3691 : List Int) {r : AV} {H' : Heap} (h : (Ans.mk _ (impl_stackMachine_ruleFor x3688 x3689 x3690 x3691) (fun (t : Unit) => (.fn 59 [] [.ptr 2 0, .ptr 3 0], [some (.box [.slc 1, .nils, dI x3689, dI x3690]), some (sI x3691), some (.box [.ptr 0 0]), some (.box [.fn 57 [] [.ptr 4 0, .ptr 2 0]]), some (.box [dL x3688])])) [] none).run = some (r, H')) : Awp impl_stackMachine_ruleFor_ctx LL (bodyOf Tryd.f35) impl_stackMachine_ruleFor_an ⟨mkE 8 0 [(0, .ptr 0 0), (1, dL x3688)], [some (.box [.slc 1, .nils, dI x3689, dI x3690]), some (sI x3691)]⟩ (Ret (tlook tys) Tryd.f35.results.toList r H') :=
  ret_of' (impl_stackMachine_ruleFor_n1_l x3688 x3689 x3690 x3691) (by unfold impl_stackMachine_ruleFor; kernel_rfl) (by
  intro t
  exact ret_mk [.fn 59 [] [.ptr 2 0, .ptr 3 0]] (by kernel_rfl) (by kernel_rfl) (by kernel_rfl) (by kernel_rfl)) h

def F_impl_stackMachine_ruleFor : Fun := fun avs H =>
  match avs, H with
  | [.ptr 0 0, .dat (.list (.int .i64)) x3688], [some (.box [.slc 1, .nils, .dat (.int .i64) x3689, .dat (.int .i64) x3690]), some (.seq (.int .i64) x3691)] => ⟨_, impl_stackMachine_ruleFor x3688 x3689 x3690 x3691, fun (t : Unit) => (.fn 59 [] [.ptr 2 0, .ptr 3 0], [some (.box [.slc 1, .nils, dI x3689, dI x3690]), some (sI x3691), some (.box [.ptr 0 0]), some (.box [.fn 57 [] [.ptr 4 0, .ptr 2 0]]), some (.box [dL x3688])]), [], none⟩
  | _, _ => Ans.no

theorem impl_stackMachine_ruleFor_sound : Sound Tryd.prog 35 F_impl_stackMachine_ruleFor := by
  refine fn_sound' (C := impl_stackMachine_ruleFor_ctx) (c := bodyOf Tryd.f35) (cok_of tys_ok (alln) (alln) (by kernel_rfl)) Tryd.func35 (by kernel_rfl) LL impl_stackMachine_ruleFor_an ?_
  intro avs H r H' h
  unfold F_impl_stackMachine_ruleFor at h
  split at h
  · refine Awp.cast ?_ ?_ ?_ (impl_stackMachine_ruleFor_e _ _ _ _ h) <;> kernel_rfl
  · simp [Ans.no, Ans.run] at h


/-! (*loop.example/headtrees/impl.stackMachine).ruleFor$1 -/

def impl_stackMachine_ruleFor_1_an : Ann := (.seq (.leaf [0, 1, 2, 3]) (.seq (.draw [10, 16] [0, 1, 2, 3, 4, 5, 6, 7, 8, 9, 11, 12, 13, 14, 15, 10, 16, 17, 18, 19] [] [6]) (.leaf [6])))

noncomputable def impl_stackMachine_ruleFor_1_ctx : Ctx := ⟨tlook tys, olook [(58, F_impl_dependents)], ioF, 5, false, []⟩

theorem impl_stackMachine_ruleFor_1_n1_l (x3723 : Int) (x3724 : Int) (x3725 : List Int) (x3726 : Int) (x3727 : Int) (x3728 : List Int) (x3729 : List Int) : Link impl_stackMachine_ruleFor_1_ctx LL (bodyOf Tryd.f57) impl_stackMachine_ruleFor_1_an ⟨mkE 26 0 [(0, dI x3723), (1, dI x3724), (2, .ptr 0 0), (3, .ptr 1 0)], [some (.box [dL x3725]), some (.box [.ptr 2 0]), some (.box [.slc 3, .slc 4, dI x3726, dI x3727]), some (sI x3728), some (sI x3729)]⟩ (impl_stackMachine_ruleFor_1_n1 x3723 x3724 x3725 x3728) (fun (t : Bool) => (Exit.ret, ⟨mkE 26 0 [(6, dB t)], [some (.box [dL x3725]), some (.box [.ptr 2 0]), some (.box [.slc 3, .slc 4, dI x3726, dI x3727]), some (sI x3728), some (sI x3729)]⟩)) := by
  refine Link.of fun K h => ?_
  simp only [impl_stackMachine_ruleFor_1_n1, wpO_bind, wpO_cond, wpO_map, wpO_some] at h
  exact Awp.of (by kernel_rfl) h

theorem impl_stackMachine_ruleFor_1_e (x3723 : Int) (x3724 : Int) (x3725 : List Int) (x3726 : Int) (x3727 : Int) (x3728 : List Int) (x3729 : List Int) {r : AV} {H' : Heap} (h : (Ans.mk _ (impl_stackMachine_ruleFor_1 x3723 x3724 x3725 x3726 x3727 x3728 x3729) (fun (t : Bool) => (dB t, [some (.box [dL x3725]), some (.box [.ptr 2 0]), some (.box [.slc 3, .slc 4, dI x3726, dI x3727]), some (sI x3728), some (sI x3729)])) [] none).run = some (r, H')) : Awp impl_stackMachine_ruleFor_1_ctx LL (bodyOf Tryd.f57) impl_stackMachine_ruleFor_1_an ⟨mkE 26 0 [(0, dI x3723), (1, dI x3724), (2, .ptr 0 0), (3, .ptr 1 0)], [some (.box [dL x3725]), some (.box [.ptr 2 0]), some (.box [.slc 3, .slc 4, dI x3726, dI x3727]), some (sI x3728), some (sI x3729)]⟩ (Ret (tlook tys) Tryd.f57.results.toList r H') :=
  ret_of' (impl_stackMachine_ruleFor_1_n1_l x3723 x3724 x3725 x3726 x3727 x3728 x3729) (by unfold impl_stackMachine_ruleFor_1; kernel_rfl) (by
  intro t
  exact ret_mk [dB t] (by kernel_rfl) (by kernel_rfl) (by kernel_rfl) (by kernel_rfl)) h

def F_impl_stackMachine_ruleFor_1 : Fun := fun avs H =>
  match avs, H with
  | [.dat (.int .i64) x3723, .dat (.int .i64) x3724, .ptr 0 0, .ptr 1 0], [some (.box [.dat (.list (.int .i64)) x3725]), some (.box [.ptr 2 0]), some (.box [.slc 3, .slc 4, .dat (.int .i64) x3726, .dat (.int .i64) x3727]), some (.seq (.int .i64) x3728), some (.seq (.int .i64) x3729)] => ⟨_, impl_stackMachine_ruleFor_1 x3723 x3724 x3725 x3726 x3727 x3728 x3729, fun (t : Bool) => (dB t, [some (.box [dL x3725]), some (.box [.ptr 2 0]), some (.box [.slc 3, .slc 4, dI x3726, dI x3727]), some (sI x3728), some (sI x3729)]), [], none⟩
  | _, _ => Ans.no

theorem impl_stackMachine_ruleFor_1_sound : Sound Tryd.prog 57 F_impl_stackMachine_ruleFor_1 := by
  refine fn_sound' (C := impl_stackMachine_ruleFor_1_ctx) (c := bodyOf Tryd.f57) (cok_of tys_ok (allc impl_dependents_sound alln) (allc Tryd.call58 alln) (by kernel_rfl)) Tryd.func57 (by kernel_rfl) LL impl_stackMachine_ruleFor_1_an ?_
  intro avs H r H' h
  unfold F_impl_stackMachine_ruleFor_1 at h
  split at h
  · refine Awp.cast ?_ ?_ ?_ (impl_stackMachine_ruleFor_1_e _ _ _ _ _ _ _ h) <;> kernel_rfl
  · simp [Ans.no, Ans.run] at h


/-! (*loop.example/headtrees/impl.stackMachine).ruleFor$2 -/

def impl_stackMachine_ruleFor_2_an : Ann := (.seq (.leaf [0, 1]) (.seq (.leaf [1, 3, 4, 5]) (.seq (.block (.seq (.leaf [1, 3, 4, 5, 12]) (.cond (.seq (.leaf [2]) (.leaf [2])) (.seq (.leaf [20]) (.cond (.seq (.leaf [2]) (.leaf [2])) (.leaf [])))))) (.seq (.leaf [2]) (.leaf [2])))))

noncomputable def impl_stackMachine_ruleFor_2_ctx : Ctx := ⟨tlook tys, olook [(60, F_impl_stackMachine_upperTwo), (57, F_impl_stackMachine_ruleFor_1)], ioF, 6, false, []⟩

theorem impl_stackMachine_ruleFor_2_n1_l (x3854 : Int) (x3855 : Int) (x3856 : List Int) (x3857 : List Int) (x3858 : List Int) : Link impl_stackMachine_ruleFor_2_ctx LL (bodyOf Tryd.f59) impl_stackMachine_ruleFor_2_an ⟨mkE 28 0 [(0, .ptr 0 0), (1, .ptr 1 0)], [some (.box [.ptr 2 0]), some (.box [.fn 57 [] [.ptr 3 0, .ptr 0 0]]), some (.box [.slc 4, .slc 5, dI x3854, dI x3855]), some (.box [dL x3856]), some (sI x3857), some (sI x3858)]⟩ (impl_stackMachine_ruleFor_2_n1 x3854 x3855 x3856 x3857 x3858) (fun (t : Int) => (Exit.ret, ⟨mkE 28 0 [(2, dU t)], [some (.box [.ptr 2 0]), some (.box [.fn 57 [] [.ptr 3 0, .ptr 0 0]]), some (.box [.slc 4, .slc 5, dI x3854, dI x3855]), some (.box [dL x3856]), some (sI x3857), some (sI x3858)]⟩)) := by
  refine Link.of fun K h => ?_
  simp only [impl_stackMachine_ruleFor_2_n1, wpO_bind, wpO_cond, wpO_map, wpO_some] at h
  exact Awp.of (by kernel_rfl) h

theorem impl_stackMachine_ruleFor_2_e (x3854 : Int) (x3855 : Int) (x3856 : List Int) (x3857 : List Int) (x3858 : List Int) {r : AV} {H' : Heap} (h : (Ans.mk _ (impl_stackMachine_ruleFor_2 x3854 x3855 x3856 x3857 x3858) (fun (t : Int) => (dU t, [some (.box [.ptr 2 0]), some (.box [.fn 57 [] [.ptr 3 0, .ptr 0 0]]), some (.box [.slc 4, .slc 5, dI x3854, dI x3855]), some (.box [dL x3856]), some (sI x3857), some (sI x3858)])) [] none).run = some (r, H')) : Awp impl_stackMachine_ruleFor_2_ctx LL (bodyOf Tryd.f59) impl_stackMachine_ruleFor_2_an ⟨mkE 28 0 [(0, .ptr 0 0), (1, .ptr 1 0)], [some (.box [.ptr 2 0]), some (.box [.fn 57 [] [.ptr 3 0, .ptr 0 0]]), some (.box [.slc 4, .slc 5, dI x3854, dI x3855]), some (.box [dL x3856]), some (sI x3857), some (sI x3858)]⟩ (Ret (tlook tys) Tryd.f59.results.toList r H') :=
  ret_of' (impl_stackMachine_ruleFor_2_n1_l x3854 x3855 x3856 x3857 x3858) (by unfold impl_stackMachine_ruleFor_2; kernel_rfl) (by
  intro t
  exact ret_mk [dU t] (by kernel_rfl) (by kernel_rfl) (by kernel_rfl) (by kernel_rfl)) h

def F_impl_stackMachine_ruleFor_2 : Fun := fun avs H =>
  match avs, H with
  | [.ptr 0 0, .ptr 1 0], [some (.box [.ptr 2 0]), some (.box [.fn 57 [] [.ptr 3 0, .ptr 0 0]]), some (.box [.slc 4, .slc 5, .dat (.int .i64) x3854, .dat (.int .i64) x3855]), some (.box [.dat (.list (.int .i64)) x3856]), some (.seq (.int .i64) x3857), some (.seq (.int .i64) x3858)] => ⟨_, impl_stackMachine_ruleFor_2 x3854 x3855 x3856 x3857 x3858, fun (t : Int) => (dU t, [some (.box [.ptr 2 0]), some (.box [.fn 57 [] [.ptr 3 0, .ptr 0 0]]), some (.box [.slc 4, .slc 5, dI x3854, dI x3855]), some (.box [dL x3856]), some (sI x3857), some (sI x3858)]), [], none⟩
  | _, _ => Ans.no

theorem impl_stackMachine_ruleFor_2_sound : Sound Tryd.prog 59 F_impl_stackMachine_ruleFor_2 := by
  refine fn_sound' (C := impl_stackMachine_ruleFor_2_ctx) (c := bodyOf Tryd.f59) (cok_of tys_ok (allc impl_stackMachine_upperTwo_sound (allc impl_stackMachine_ruleFor_1_sound alln)) (allc Tryd.call60 (allc Tryd.call57 alln)) (by kernel_rfl)) Tryd.func59 (by kernel_rfl) LL impl_stackMachine_ruleFor_2_an ?_
  intro avs H r H' h
  unfold F_impl_stackMachine_ruleFor_2 at h
  split at h
  · refine Awp.cast ?_ ?_ ?_ (impl_stackMachine_ruleFor_2_e _ _ _ _ _ h) <;> kernel_rfl
  · simp [Ans.no, Ans.run] at h


/-! loop.example/headtrees/impl.MovesFor -/

def impl_MovesFor_an : Ann := (.seq (.leaf [0]) (.seq (.seq (.leaf [0, 11]) (.cond (.seq (.leaf [2, 3]) (.leaf [2, 3])) (.leaf [0]))) (.seq (.leaf [0, 4, 5]) (.seq (.leaf [0, 4, 5, 6]) (.seq (.leaf [0, 4, 5, 6, 7]) (.seq (.seq (.leafF [⟨5, 4, false, some 1, some (.int .i64)⟩] [4, 5, 6, 7, 22, 23]) (.block (.loop (.seq (.leaf [4, 5, 6, 7, 22, 23, 24]) (.seq (.cond (.leaf [4, 5, 6, 7, 22, 23]) (.leaf [7])) (.seq (.block (.seq (.leaf [4, 5, 6, 7, 8, 22, 23]) (.seq (.leaf [4, 5, 6, 7, 8, 22, 23]) (.leaf [4, 5, 6, 7, 22, 23])))) (.leaf [4, 5, 6, 7, 22, 23]))))))) (.seq (.leafF [⟨1, 37, false, none, none⟩] [2, 3]) (.leaf [2, 3]))))))))

noncomputable def impl_MovesFor_ctx : Ctx := ⟨tlook tys, olook [(15, F_impl_FlatOk), (33, F_impl_newStackMachine), (34, F_impl_stackMoves), (35, F_impl_stackMachine_ruleFor), (59, F_impl_stackMachine_ruleFor_2), (54, F_impl_stackMachine_putNext), (55, F_impl_stackMachine_takeBelow), (56, F_impl_stackMachine_takeUpper)], ioF, 0, false, []⟩

theorem impl_MovesFor_n1_l (x3342 : List Int) : Link impl_MovesFor_ctx LL (Code.seq (cq [0] (bodyOf Tryd.f14)) (Code.seq (cq [0,1] (bodyOf Tryd.f14)) (Code.seq (cq [0,1,1] (bodyOf Tryd.f14)) (Code.seq (cq [0,1,1,1] (bodyOf Tryd.f14)) (cq [0,1,1,1,1] (bodyOf Tryd.f14)))))) (Ann.seq (aq [0] impl_MovesFor_an) (Ann.seq (aq [0,1] impl_MovesFor_an) (Ann.seq (aq [0,1,1] impl_MovesFor_an) (Ann.seq (aq [0,1,1,1] impl_MovesFor_an) (aq [0,1,1,1,1] impl_MovesFor_an))))) ⟨mkE 39 0 [(0, dL x3342)], []⟩ (impl_MovesFor_n1 x3342) (Sum.elim (fun (t : (List Int)) => (Exit.normal, ⟨mkE 39 0 [(0, dL x3342), (4, .ptr 0 0), (5, .fmap [(.int .u8 83, .func 54), (.int .u8 76, .func 55), (.int .u8 82, .func 56)]), (6, .fn 59 [] [.ptr 1 0, .ptr 2 0]), (7, .slc 3)], [some (.box [.slc 4, .nils, dI 0, dI 0]), some (.box [.ptr 0 0]), some (.box [.fn 57 [] [.ptr 5 0, .ptr 1 0]]), some (sU ([] : List Int)), some (sI t), some (.box [dL x3342])]⟩)) (fun (t : ByteArray × Bool) => (Exit.ret, ⟨mkE 39 0 [(2, dS t.1), (3, dB t.2)], []⟩))) := by
  refine Link.of fun K h => ?_
  simp only [impl_MovesFor_n1, wpO_bind, wpO_cond, wpO_map, wpO_some] at h
  exact Awp.of (by kernel_rfl) h

theorem impl_MovesFor_n2_l (x3342 : List Int) (x4046 : List Int) : Link impl_MovesFor_ctx LL (cq [0,0,1,1,1,1,1] (bodyOf Tryd.f14)) (aq [0,0,1,1,1,1,1] impl_MovesFor_an) ⟨mkE 39 0 [(0, dL x3342), (4, .ptr 0 0), (5, .fmap [(.int .u8 83, .func 54), (.int .u8 76, .func 55), (.int .u8 82, .func 56)]), (6, .fn 59 [] [.ptr 1 0, .ptr 2 0]), (7, .slc 3)], [some (.box [.slc 4, .nils, dI 0, dI 0]), some (.box [.ptr 0 0]), some (.box [.fn 57 [] [.ptr 5 0, .ptr 1 0]]), some (sU ([] : List Int)), some (sI x4046), some (.box [dL x3342])]⟩ (impl_MovesFor_n2 x3342) (fun (t : Int) => (Exit.normal, ⟨mkE 39 0 [(4, .ptr 0 0), (5, .fmap [(.int .u8 83, .func 54), (.int .u8 76, .func 55), (.int .u8 82, .func 56)]), (6, .fn 59 [] [.ptr 1 0, .ptr 2 0]), (7, .slc 3), (22, dI t), (23, dI 0)], [some (.box [.slc 4, .slc 5, dI 0, dI 0]), some (.box [.ptr 0 0]), some (.box [.fn 57 [] [.ptr 6 0, .ptr 1 0]]), some (sU ([] : List Int)), some (sI x4046), some (sI ([] : List Int)), some (.box [dL x3342])]⟩)) := by
  refine Link.of fun K h => ?_
  simp only [impl_MovesFor_n2, wpO_bind, wpO_cond, wpO_map, wpO_some] at h
  exact Awp.of (by kernel_rfl) h

theorem impl_MovesFor_n3_l (x4051 : Int) (x4123 : Int) (x4124 : Int) (x4125 : Int) (x4126 : List Int) (x4127 : List Int) (x4128 : List Int) (x3342 : List Int) : Link impl_MovesFor_ctx LL (cq [0,0,1,0,1,1,1,1,1] (bodyOf Tryd.f14)) (aq [0,0,1,0,1,1,1,1,1] impl_MovesFor_an) ⟨mkE 39 0 [(4, .ptr 0 0), (5, .fmap [(.int .u8 83, .func 54), (.int .u8 76, .func 55), (.int .u8 82, .func 56)]), (6, .fn 59 [] [.ptr 1 0, .ptr 2 0]), (7, .slc 3), (22, dI x4051), (23, dI x4123)], [some (.box [.slc 4, .slc 5, dI x4124, dI x4125]), some (.box [.ptr 0 0]), some (.box [.fn 57 [] [.ptr 6 0, .ptr 1 0]]), some (sU x4126), some (sI x4127), some (sI x4128), some (.box [dL x3342])]⟩ (impl_MovesFor_n3 x4051 x4123 x4124 x4125 x4126 x4127 x4128 x3342) (Sum.elim (fun (t : Int × Int × Int × (List Int) × (List Int) × (List Int)) => (Exit.normal, ⟨mkE 39 0 [(4, .ptr 0 0), (5, .fmap [(.int .u8 83, .func 54), (.int .u8 76, .func 55), (.int .u8 82, .func 56)]), (6, .fn 59 [] [.ptr 1 0, .ptr 2 0]), (7, .slc 3), (22, dI x4051), (23, dI t.1)], [some (.box [.slc 4, .slc 5, dI t.2.1, dI t.2.2.1]), some (.box [.ptr 0 0]), some (.box [.fn 57 [] [.ptr 6 0, .ptr 1 0]]), some (sU t.2.2.2.1), some (sI t.2.2.2.2.1), some (sI t.2.2.2.2.2), some (.box [dL x3342])]⟩)) (fun (t : (List Int)) => ((Exit.exit 0), ⟨mkE 39 0 [(7, .slc 0)], [some (sU t)]⟩))) := by
  refine Link.of fun K h => ?_
  simp only [impl_MovesFor_n3, wpO_bind, wpO_cond, wpO_map, wpO_some, wpO_none] at h
  exact Awp.of (by kernel_rfl) h

def impl_MovesFor_n4_l (x4051 : Int) (x4046 : List Int) (x3342 : List Int) := (link_loop (mk := fun (s : Int × Int × Int × (List Int) × (List Int) × (List Int)) => ⟨mkE 39 0 [(4, .ptr 0 0), (5, .fmap [(.int .u8 83, .func 54), (.int .u8 76, .func 55), (.int .u8 82, .func 56)]), (6, .fn 59 [] [.ptr 1 0, .ptr 2 0]), (7, .slc 3), (22, dI x4051), (23, dI s.1)], [some (.box [.slc 4, .slc 5, dI s.2.1, dI s.2.2.1]), some (.box [.ptr 0 0]), some (.box [.fn 57 [] [.ptr 6 0, .ptr 1 0]]), some (sU s.2.2.2.1), some (sI s.2.2.2.2.1), some (sI s.2.2.2.2.2), some (.box [dL x3342])]⟩) (fin := (fun (t : (List Int)) => ((Exit.exit 0), ⟨mkE 39 0 [(7, .slc 0)], [some (sU t)]⟩))) (by
  rintro t f K h
  · exact h) (fun s => link_map (impl_MovesFor_n3_l x4051 s.1 s.2.1 s.2.2.1 s.2.2.2.1 s.2.2.2.2.1 s.2.2.2.2.2 x3342) (Sum.elim (fun (t : Int × Int × Int × (List Int) × (List Int) × (List Int)) => Sum.inl (t.1, t.2.1, t.2.2.1, t.2.2.2.1, t.2.2.2.2.1, t.2.2.2.2.2)) (fun (t : (List Int)) => Sum.inr t)) (by
  rintro (t | t)
  · kernel_rfl
  · kernel_rfl)) (0, 0, 0, ([] : List Int), x4046, ([] : List Int)))

def impl_MovesFor_n5_l (x4051 : Int) (x4046 : List Int) (x3342 : List Int) := (link_block (fin2 := (fun (t : (List Int)) => (Exit.normal, ⟨mkE 39 0 [(7, .slc 0)], [some (sU t)]⟩))) (id := 0) (impl_MovesFor_n4_l x4051 x4046 x3342) (fun (t : (List Int)) => t) (by
  rintro t K h
  · exact Eq.mp (by kernel_rfl) h))

def impl_MovesFor_n6_l (x3342 : List Int) (x4046 : List Int) := (link_seq (impl_MovesFor_n2_l x3342 x4046) (fun (t : Int) => (impl_MovesFor_n5_l t x4046 x3342)))

theorem impl_MovesFor_n7_l (x4126 : List Int) : Link impl_MovesFor_ctx LL (cq [1,1,1,1,1,1] (bodyOf Tryd.f14)) (aq [1,1,1,1,1,1] impl_MovesFor_an) ⟨mkE 39 0 [(7, .slc 0)], [some (sU x4126)]⟩ (impl_MovesFor_n7 x4126) (fun (t : ByteArray × Bool) => (Exit.ret, ⟨mkE 39 0 [(2, dS t.1), (3, dB t.2)], []⟩)) := by
  refine Link.of fun K h => ?_
  simp only [impl_MovesFor_n7, wpO_bind, wpO_cond, wpO_map, wpO_some] at h
  exact Awp.of (by kernel_rfl) h

def impl_MovesFor_n8_l (x3342 : List Int) (x4046 : List Int) := (link_seq (impl_MovesFor_n6_l x3342 x4046) (fun (t : (List Int)) => (impl_MovesFor_n7_l t)))

def impl_MovesFor_n9_l (x3342 : List Int) := (link_group (c := (cq [0,1,1,1,1] (bodyOf Tryd.f14))) (a := (aq [0,1,1,1,1] impl_MovesFor_an)) [(cq [0] (bodyOf Tryd.f14)), (cq [0,1] (bodyOf Tryd.f14)), (cq [0,1,1] (bodyOf Tryd.f14)), (cq [0,1,1,1] (bodyOf Tryd.f14))] [(aq [0] impl_MovesFor_an), (aq [0,1] impl_MovesFor_an), (aq [0,1,1] impl_MovesFor_an), (aq [0,1,1,1] impl_MovesFor_an)] rfl (link_seq2 (impl_MovesFor_n1_l x3342) (fun (t : (List Int)) => (impl_MovesFor_n8_l x3342 t)) (fun (t : ByteArray × Bool) => t) (by
  rintro t
  · kernel_rfl) (by
  rintro t f K h
  · exact h)))

theorem impl_MovesFor_e (x3342 : List Int) {r : AV} {H' : Heap} (h : (Ans.mk _ (impl_MovesFor x3342) (fun (t : ByteArray × Bool) => (.tup [dS t.1, dB t.2], [])) [] none).run = some (r, H')) : Awp impl_MovesFor_ctx LL (bodyOf Tryd.f14) impl_MovesFor_an ⟨mkE 39 0 [(0, dL x3342)], []⟩ (Ret (tlook tys) Tryd.f14.results.toList r H') :=
  ret_of' (Link.cast (by kernel_rfl) (by kernel_rfl) (impl_MovesFor_n9_l x3342)) (by unfold impl_MovesFor; kernel_rfl) (by
  intro t
  exact ret_mk [dS t.1, dB t.2] (by kernel_rfl) (by kernel_rfl) (by kernel_rfl) (by kernel_rfl)) h

def F_impl_MovesFor : Fun := fun avs H =>
  match avs, H with
  | [.dat (.list (.int .i64)) x3342], [] => ⟨_, impl_MovesFor x3342, fun (t : ByteArray × Bool) => (.tup [dS t.1, dB t.2], []), [], none⟩
  | _, _ => Ans.no

theorem impl_MovesFor_sound : Sound Tryd.prog 14 F_impl_MovesFor := by
  refine fn_sound' (C := impl_MovesFor_ctx) (c := bodyOf Tryd.f14) (cok_of tys_ok (allc impl_FlatOk_sound (allc impl_newStackMachine_sound (allc impl_stackMoves_sound (allc impl_stackMachine_ruleFor_sound (allc impl_stackMachine_ruleFor_2_sound (allc impl_stackMachine_putNext_sound (allc impl_stackMachine_takeBelow_sound (allc impl_stackMachine_takeUpper_sound alln)))))))) (allc Tryd.call15 (allc Tryd.call33 (allc Tryd.call34 (allc Tryd.call35 (allc Tryd.call59 (allc Tryd.call54 (allc Tryd.call55 (allc Tryd.call56 alln)))))))) (by kernel_rfl)) Tryd.func14 (by kernel_rfl) LL impl_MovesFor_an ?_
  intro avs H r H' h
  unfold F_impl_MovesFor at h
  split at h
  · refine Awp.cast ?_ ?_ ?_ (impl_MovesFor_e _ h) <;> kernel_rfl
  · simp [Ans.no, Ans.run] at h


/-! (*loop.example/headtrees/impl.stackMachine).putNext (impl_stackMachine_putNext_v2) -/

def impl_stackMachine_putNext_v2_an : Ann := (.seq (.leaf [0]) (.seq (.seq (.draw [] [0, 1, 2, 3, 4, 5, 6, 7, 8, 9] [] [0, 12]) (.cond (.seq (.leaf [0, 2]) (.leaf [0, 2])) (.leaf [0]))) (.seq (.leaf [0]) (.seq (.draw [] [0, 1, 2, 3, 4, 5, 6, 7, 8, 9, 10, 11, 12, 13] [] [0]) (.seq (.draw [] [0, 1, 2, 3, 4, 5, 6, 7, 8, 9, 10, 11, 12, 13] [] [0]) (.seq (.leaf [0, 2]) (.leafF [⟨0, 0, true, some 1, none⟩] [0, 2])))))))

noncomputable def impl_stackMachine_putNext_v2_ctx : Ctx := ⟨tlook tys, olook [], ioF, 3, false, [2]⟩

theorem impl_stackMachine_putNext_v2_n1_l (x12324 : Nat) (x12325 : Nat) (x12326 : Int) (x12327 : Int) (x12328 : Int) (x12329 : List Int) (x12330 : List Int) : Link impl_stackMachine_putNext_v2_ctx LL (bodyOf Tryd.f54) impl_stackMachine_putNext_v2_an ⟨mkE 46 0 [(0, .ptr 0 0)], [some (.box [.slc 1, .win 2 x12324 x12325, dI x12326, dI x12327, dW x12328]), some (sI x12329), some (sI x12330)]⟩ (impl_stackMachine_putNext_v2_n1 x12324 x12325 x12326 x12327 x12329 x12330) (fun (t : Bool × Nat × Nat × Int × Int × (List Int)) => (Exit.ret, ⟨mkE 46 0 [(0, .ptr 0 0), (2, dB t.1)], [some (.box [.slc 1, .win 2 t.2.1 t.2.2.1, dI t.2.2.2.1, dI t.2.2.2.2.1, dW x12328]), some (sI x12329), some (sI t.2.2.2.2.2)]⟩)) := by
  refine Link.of fun K h => ?_
  simp only [impl_stackMachine_putNext_v2_n1, wpO_bind, wpO_cond, wpO_map, wpO_some] at h
  exact Awp.of (by kernel_rfl) h

theorem impl_stackMachine_putNext_v2_e (x12324 : Nat) (x12325 : Nat) (x12326 : Int) (x12327 : Int) (x12328 : Int) (x12329 : List Int) (x12330 : List Int) {r : AV} {H' : Heap} (h : (Ans.mk _ (impl_stackMachine_putNext_v2 x12324 x12325 x12326 x12327 x12328 x12329 x12330) (fun (t : Bool × Nat × Nat × Int × Int × (List Int)) => (dB t.1, [some (.box [.slc 1, .win 2 t.2.1 t.2.2.1, dI t.2.2.2.1, dI t.2.2.2.2.1, dW x12328]), some (sI x12329), some (sI t.2.2.2.2.2)])) [2] none).run = some (r, H')) : Awp impl_stackMachine_putNext_v2_ctx LL (bodyOf Tryd.f54) impl_stackMachine_putNext_v2_an ⟨mkE 46 0 [(0, .ptr 0 0)], [some (.box [.slc 1, .win 2 x12324 x12325, dI x12326, dI x12327, dW x12328]), some (sI x12329), some (sI x12330)]⟩ (Ret (tlook tys) Tryd.f54.results.toList r H') :=
  ret_of' (impl_stackMachine_putNext_v2_n1_l x12324 x12325 x12326 x12327 x12328 x12329 x12330) (by unfold impl_stackMachine_putNext_v2; kernel_rfl) (by
  intro t
  exact ret_mk [dB t.1] (by kernel_rfl) (by kernel_rfl) (by kernel_rfl) (by kernel_rfl)) h

def F_impl_stackMachine_putNext_v2 : Fun := fun avs H =>
  match avs, H with
  | [.ptr 0 0], [some (.box [.slc 1, .win 2 x12324 x12325, .dat (.int .i64) x12326, .dat (.int .i64) x12327, .dat (.int .u64) x12328]), some (.seq (.int .i64) x12329), some (.seq (.int .i64) x12330)] => ⟨_, impl_stackMachine_putNext_v2 x12324 x12325 x12326 x12327 x12328 x12329 x12330, fun (t : Bool × Nat × Nat × Int × Int × (List Int)) => (dB t.1, [some (.box [.slc 1, .win 2 t.2.1 t.2.2.1, dI t.2.2.2.1, dI t.2.2.2.2.1, dW x12328]), some (sI x12329), some (sI t.2.2.2.2.2)]), [2], none⟩
  | _, _ => Ans.no

theorem impl_stackMachine_putNext_v2_sound : Sound Tryd.prog 54 F_impl_stackMachine_putNext_v2 := by
  refine fn_sound' (C := impl_stackMachine_putNext_v2_ctx) (c := bodyOf Tryd.f54) (cok_of tys_ok (alln) (alln) (by kernel_rfl)) Tryd.func54 (by kernel_rfl) LL impl_stackMachine_putNext_v2_an ?_
  intro avs H r H' h
  unfold F_impl_stackMachine_putNext_v2 at h
  split at h
  · refine Awp.cast ?_ ?_ ?_ (impl_stackMachine_putNext_v2_e _ _ _ _ _ _ _ h) <;> kernel_rfl
  · simp [Ans.no, Ans.run] at h


/-! loop.example/headtrees/spec.l20Order -/

def spec_l20Order_an : Ann := (.seq (.leaf [0, 1]) (.seq (.leaf [0, 1, 5]) (.seq (.leaf [0, 1, 5, 6]) (.seq (.seq (.leaf [0, 1, 5, 6, 7]) (.block (.loop (.seq (.seq (.leaf [0, 1, 5, 6, 7, 15]) (.cond (.leaf [0, 1, 5, 6, 7]) (.leaf [5]))) (.seq (.block (.seq (.leaf [0, 1, 5, 6, 7, 8]) (.seq (.seq (.leaf [0, 1, 5, 6, 7, 8, 26]) (.cond (.leaf [0, 1, 5, 6, 7, 8]) (.leaf [0, 1, 5, 6, 7, 8]))) (.seq (.leaf [0, 1, 5, 6, 7, 8, 9]) (.seq (.leaf [0, 1, 5, 6, 7, 8, 9]) (.leaf [0, 1, 5, 6, 7])))))) (.leaf [0, 1, 5, 6, 7])))))) (.seq (.leaf [4]) (.leaf [4]))))))

noncomputable def spec_l20Order_ctx : Ctx := ⟨tlook tys, olook [(27, F_spec_l20Rd_pick)], ioF, 1, false, []⟩

theorem spec_l20Order_n1_l (x4319 : Int) (x4320 : List Int) (x4321 : Int) : Link spec_l20Order_ctx LL (Code.seq (cq [0] (bodyOf Tryd.f78)) (Code.seq (cq [0,1] (bodyOf Tryd.f78)) (cq [0,1,1] (bodyOf Tryd.f78)))) (Ann.seq (aq [0] spec_l20Order_an) (Ann.seq (aq [0,1] spec_l20Order_an) (aq [0,1,1] spec_l20Order_an))) ⟨mkE 45 0 [(0, .ptr 0 0), (1, dI x4319)], [some (.box [dV x4320, dI x4321])]⟩ (spec_l20Order_n1 x4320 x4321) (fun (t : Int × Int) => (Exit.normal, ⟨mkE 45 0 [(0, .ptr 0 0), (1, dI x4319), (5, .slc 1), (6, dI t.1)], [some (.box [dV x4320, dI t.2]), some (sI ([] : List Int))]⟩)) := by
  refine Link.of fun K h => ?_
  simp only [spec_l20Order_n1, wpO_bind, wpO_cond, wpO_map, wpO_some] at h
  exact Awp.of (by kernel_rfl) h

theorem spec_l20Order_n2_l (x4319 : Int) (x4323 : Int) (x4320 : List Int) (x4324 : Int) : Link spec_l20Order_ctx LL (cq [0,0,1,1,1] (bodyOf Tryd.f78)) (aq [0,0,1,1,1] spec_l20Order_an) ⟨mkE 45 0 [(0, .ptr 0 0), (1, dI x4319), (5, .slc 1), (6, dI x4323)], [some (.box [dV x4320, dI x4324]), some (sI ([] : List Int))]⟩ (spec_l20Order_n2) (fun (t : Unit) => (Exit.normal, ⟨mkE 45 0 [(0, .ptr 0 0), (1, dI x4319), (5, .slc 1), (6, dI x4323), (7, dI 1)], [some (.box [dV x4320, dI x4324]), some (sI ([] : List Int))]⟩)) := by
  refine Link.of fun K h => ?_
  simp only [spec_l20Order_n2, wpO_bind, wpO_cond, wpO_map, wpO_some] at h
  exact Awp.of (by kernel_rfl) h

theorem spec_l20Order_n3_l (x4319 : Int) (x4323 : Int) (x4466 : Int) (x4320 : List Int) (x4467 : Int) (x4468 : List Int) : Link spec_l20Order_ctx LL (cq [0,0,1,0,1,1,1] (bodyOf Tryd.f78)) (aq [0,0,1,0,1,1,1] spec_l20Order_an) ⟨mkE 45 0 [(0, .ptr 0 0), (1, dI x4319), (5, .slc 1), (6, dI x4323), (7, dI x4466)], [some (.box [dV x4320, dI x4467]), some (sI x4468)]⟩ (spec_l20Order_n3 x4319 x4323 x4466 x4320 x4467 x4468) (Sum.elim (fun (t : Int × Int × (List Int)) => (Exit.normal, ⟨mkE 45 0 [(0, .ptr 0 0), (1, dI x4319), (5, .slc 1), (6, dI x4323), (7, dI t.1)], [some (.box [dV x4320, dI t.2.1]), some (sI t.2.2)]⟩)) (fun (t : Int × (List Int)) => ((Exit.exit 0), ⟨mkE 45 0 [(5, .slc 1)], [some (.box [dV x4320, dI t.1]), some (sI t.2)]⟩))) := by
  refine Link.of fun K h => ?_
  simp only [spec_l20Order_n3, wpO_bind, wpO_cond, wpO_map, wpO_some] at h
  exact Awp.of (by kernel_rfl) h

def spec_l20Order_n4_l (x4319 : Int) (x4323 : Int) (x4320 : List Int) (x4324 : Int) := (link_loop (mk := fun (s : Int × Int × (List Int)) => ⟨mkE 45 0 [(0, .ptr 0 0), (1, dI x4319), (5, .slc 1), (6, dI x4323), (7, dI s.1)], [some (.box [dV x4320, dI s.2.1]), some (sI s.2.2)]⟩) (fin := (fun (t : Int × (List Int)) => ((Exit.exit 0), ⟨mkE 45 0 [(5, .slc 1)], [some (.box [dV x4320, dI t.1]), some (sI t.2)]⟩))) (by
  rintro t f K h
  · exact h) (fun s => link_map (spec_l20Order_n3_l x4319 x4323 s.1 x4320 s.2.1 s.2.2) (Sum.elim (fun (t : Int × Int × (List Int)) => Sum.inl (t.1, t.2.1, t.2.2)) (fun (t : Int × (List Int)) => Sum.inr t)) (by
  rintro (t | t)
  · kernel_rfl
  · kernel_rfl)) (1, x4324, ([] : List Int)))

def spec_l20Order_n5_l (x4319 : Int) (x4323 : Int) (x4320 : List Int) (x4324 : Int) := (link_block (fin2 := (fun (t : Int × (List Int)) => (Exit.normal, ⟨mkE 45 0 [(5, .slc 1)], [some (.box [dV x4320, dI t.1]), some (sI t.2)]⟩))) (id := 0) (spec_l20Order_n4_l x4319 x4323 x4320 x4324) (fun (t : Int × (List Int)) => (t.1, t.2)) (by
  rintro t K h
  · exact Eq.mp (by kernel_rfl) h))

def spec_l20Order_n6_l (x4319 : Int) (x4323 : Int) (x4320 : List Int) (x4324 : Int) := (link_seq (spec_l20Order_n2_l x4319 x4323 x4320 x4324) (fun (t : Unit) => (spec_l20Order_n5_l x4319 x4323 x4320 x4324)))

theorem spec_l20Order_n7_l (x4320 : List Int) (x4467 : Int) (x4468 : List Int) : Link spec_l20Order_ctx LL (cq [1,1,1,1] (bodyOf Tryd.f78)) (aq [1,1,1,1] spec_l20Order_an) ⟨mkE 45 0 [(5, .slc 1)], [some (.box [dV x4320, dI x4467]), some (sI x4468)]⟩ (spec_l20Order_n7 x4467 x4468) (fun (t : Int × (List Int)) => (Exit.ret, ⟨mkE 45 0 [(4, .slc 1)], [some (.box [dV x4320, dI t.1]), some (sI t.2)]⟩)) := by
  refine Link.of fun K h => ?_
  simp only [spec_l20Order_n7, wpO_bind, wpO_cond, wpO_map, wpO_some] at h
  exact Awp.of (by kernel_rfl) h

def spec_l20Order_n8_l (x4319 : Int) (x4323 : Int) (x4320 : List Int) (x4324 : Int) := (link_seq (spec_l20Order_n6_l x4319 x4323 x4320 x4324) (fun (t : Int × (List Int)) => (spec_l20Order_n7_l x4320 t.1 t.2)))

def spec_l20Order_n9_l (x4319 : Int) (x4320 : List Int) (x4321 : Int) := (link_group (c := (cq [0,1,1] (bodyOf Tryd.f78))) (a := (aq [0,1,1] spec_l20Order_an)) [(cq [0] (bodyOf Tryd.f78)), (cq [0,1] (bodyOf Tryd.f78))] [(aq [0] spec_l20Order_an), (aq [0,1] spec_l20Order_an)] rfl (link_seq (spec_l20Order_n1_l x4319 x4320 x4321) (fun (t : Int × Int) => (spec_l20Order_n8_l x4319 t.1 x4320 t.2))))

theorem spec_l20Order_e (x4319 : Int) (x4320 : List Int) (x4321 : Int) {r : AV} {H' : Heap} (h : (Ans.mk _ (spec_l20Order x4319 x4320 x4321) (fun (t : Int × (List Int)) => (.slc 1, [some (.box [dV x4320, dI t.1]), some (sI t.2)])) [] none).run = some (r, H')) : Awp spec_l20Order_ctx LL (bodyOf Tryd.f78) spec_l20Order_an ⟨mkE 45 0 [(0, .ptr 0 0), (1, dI x4319)], [some (.box [dV x4320, dI x4321])]⟩ (Ret (tlook tys) Tryd.f78.results.toList r H') :=
  ret_of' (Link.cast (by kernel_rfl) (by kernel_rfl) (spec_l20Order_n9_l x4319 x4320 x4321)) (by unfold spec_l20Order; kernel_rfl) (by
  intro t
  exact ret_mk [.slc 1] (by kernel_rfl) (by kernel_rfl) (by kernel_rfl) (by kernel_rfl)) h

def F_spec_l20Order : Fun := fun avs H =>
  match avs, H with
  | [.ptr 0 0, .dat (.int .i64) x4319], [some (.box [.dat (.list (.int .u8)) x4320, .dat (.int .i64) x4321])] => ⟨_, spec_l20Order x4319 x4320 x4321, fun (t : Int × (List Int)) => (.slc 1, [some (.box [dV x4320, dI t.1]), some (sI t.2)]), [], none⟩
  | _, _ => Ans.no

theorem spec_l20Order_sound : Sound Tryd.prog 78 F_spec_l20Order := by
  refine fn_sound' (C := spec_l20Order_ctx) (c := bodyOf Tryd.f78) (cok_of tys_ok (allc spec_l20Rd_pick_sound alln) (allc Tryd.call27 alln) (by kernel_rfl)) Tryd.func78 (by kernel_rfl) LL spec_l20Order_an ?_
  intro avs H r H' h
  unfold F_spec_l20Order at h
  split at h
  · refine Awp.cast ?_ ?_ ?_ (spec_l20Order_e _ _ _ h) <;> kernel_rfl
  · simp [Ans.no, Ans.run] at h


/-! loop.example/headtrees/spec.l20Tree -/

def spec_l20Tree_an : Ann := (.seq (.leaf [0, 1]) (.seq (.leaf [0, 1, 5]) (.seq (.leaf [0, 1, 5, 6]) (.seq (.leaf [0, 1, 5, 6, 7]) (.seq (.leaf [0, 1, 5, 6, 7, 8]) (.seq (.seq (.leaf [0, 1, 5, 6, 7, 8, 9]) (.block (.loop (.seq (.seq (.leaf [0, 1, 5, 6, 7, 8, 9, 23]) (.cond (.leaf [0, 1, 5, 6, 7, 8, 9]) (.leaf [0, 1, 5, 7]))) (.seq (.block (.seq (.leaf [0, 1, 5, 6, 7, 8, 9, 10]) (.seq (.seq (.leaf [0, 1, 5, 6, 7, 8, 9, 10, 35]) (.cond (.leaf [0, 1, 5, 6, 7, 8, 9, 10]) (.leaf [0, 1, 5, 6, 7, 8, 9, 10]))) (.draw [] [0, 1, 2, 3, 4, 5, 6, 7, 8, 9, 10, 11] [] [0, 1, 5, 6, 7, 8, 9])))) (.leaf [0, 1, 5, 6, 7, 8, 9])))))) (.seq (.seq (.leaf [0, 5, 7, 51]) (.cond (.seq (.leaf [0, 5, 7, 53]) (.block (.seq (.leaf [0, 5, 7, 53, 63]) (.cond (.seq (.leaf [4]) (.leaf [4])) (.seq (.leaf [0, 5, 7, 53, 66]) (.cond (.seq (.leaf [4]) (.leaf [4])) (.seq (.leaf [0, 5, 7, 69]) (.cond (.seq (.leaf [7]) (.seq (.leaf [4]) (.leaf [4]))) (.leaf [7]))))))))) (.leaf [7]))) (.seq (.leaf [4]) (.leaf [4])))))))))

noncomputable def spec_l20Tree_ctx : Ctx := ⟨tlook tys, olook [(27, F_spec_l20Rd_pick), (78, F_spec_l20Order), (49, F_spec_l20Rd_odd)], ioF, 1, false, []⟩

theorem spec_l20Tree_n1_l (x4308 : Int) (x4309 : List Int) (x4310 : Int) : Link spec_l20Tree_ctx LL (Code.seq (cq [0] (bodyOf Tryd.f63)) (Code.seq (cq [0,1] (bodyOf Tryd.f63)) (Code.seq (cq [0,1,1] (bodyOf Tryd.f63)) (Code.seq (cq [0,1,1,1] (bodyOf Tryd.f63)) (cq [0,1,1,1,1] (bodyOf Tryd.f63)))))) (Ann.seq (aq [0] spec_l20Tree_an) (Ann.seq (aq [0,1] spec_l20Tree_an) (Ann.seq (aq [0,1,1] spec_l20Tree_an) (Ann.seq (aq [0,1,1,1] spec_l20Tree_an) (aq [0,1,1,1,1] spec_l20Tree_an))))) ⟨mkE 80 0 [(0, .ptr 0 0), (1, dI x4308)], [some (.box [dV x4309, dI x4310])]⟩ (spec_l20Tree_n1 x4309 x4310) (fun (t : Int × Int × Int × (List Int) × (List Int)) => (Exit.normal, ⟨mkE 80 0 [(0, .ptr 0 0), (1, dI x4308), (5, dI t.1), (6, .slc 1), (7, .slc 2), (8, dI t.2.1)], [some (.box [dV x4309, dI t.2.2.1]), some (sI t.2.2.2.1), some (sI t.2.2.2.2)]⟩)) := by
  refine Link.of fun K h => ?_
  simp only [spec_l20Tree_n1, wpO_bind, wpO_cond, wpO_map, wpO_some] at h
  exact Awp.of (by kernel_rfl) h

theorem spec_l20Tree_n2_l (x4308 : Int) (x4625 : Int) (x4632 : Int) (x4309 : List Int) (x4633 : Int) (x4628 : List Int) (x4630 : List Int) : Link spec_l20Tree_ctx LL (cq [0,0,1,1,1,1,1] (bodyOf Tryd.f63)) (aq [0,0,1,1,1,1,1] spec_l20Tree_an) ⟨mkE 80 0 [(0, .ptr 0 0), (1, dI x4308), (5, dI x4625), (6, .slc 1), (7, .slc 2), (8, dI x4632)], [some (.box [dV x4309, dI x4633]), some (sI x4628), some (sI x4630)]⟩ (spec_l20Tree_n2) (fun (t : Unit) => (Exit.normal, ⟨mkE 80 0 [(0, .ptr 0 0), (1, dI x4308), (5, dI x4625), (6, .slc 1), (7, .slc 2), (8, dI x4632), (9, dI 1)], [some (.box [dV x4309, dI x4633]), some (sI x4628), some (sI x4630)]⟩)) := by
  refine Link.of fun K h => ?_
  simp only [spec_l20Tree_n2, wpO_bind, wpO_cond, wpO_map, wpO_some] at h
  exact Awp.of (by kernel_rfl) h

theorem spec_l20Tree_n3_l (x4308 : Int) (x4625 : Int) (x4632 : Int) (x4703 : Int) (x4309 : List Int) (x4704 : Int) (x4628 : List Int) (x4705 : List Int) : Link spec_l20Tree_ctx LL (cq [0,0,1,0,1,1,1,1,1] (bodyOf Tryd.f63)) (aq [0,0,1,0,1,1,1,1,1] spec_l20Tree_an) ⟨mkE 80 0 [(0, .ptr 0 0), (1, dI x4308), (5, dI x4625), (6, .slc 1), (7, .slc 2), (8, dI x4632), (9, dI x4703)], [some (.box [dV x4309, dI x4704]), some (sI x4628), some (sI x4705)]⟩ (spec_l20Tree_n3 x4625 x4632 x4703 x4309 x4704 x4628 x4705) (Sum.elim (fun (t : Int × Int × (List Int)) => (Exit.normal, ⟨mkE 80 0 [(0, .ptr 0 0), (1, dI x4308), (5, dI x4625), (6, .slc 1), (7, .slc 2), (8, dI x4632), (9, dI t.1)], [some (.box [dV x4309, dI t.2.1]), some (sI x4628), some (sI t.2.2)]⟩)) (fun (t : Int × (List Int)) => ((Exit.exit 0), ⟨mkE 80 0 [(0, .ptr 0 0), (1, dI x4308), (5, dI x4625), (7, .slc 1)], [some (.box [dV x4309, dI t.1]), some (sI t.2)]⟩))) := by
  refine Link.of fun K h => ?_
  simp only [spec_l20Tree_n3, wpO_bind, wpO_cond, wpO_map, wpO_some] at h
  exact Awp.of (by kernel_rfl) h

def spec_l20Tree_n4_l (x4308 : Int) (x4625 : Int) (x4632 : Int) (x4309 : List Int) (x4633 : Int) (x4628 : List Int) (x4630 : List Int) := (link_loop (mk := fun (s : Int × Int × (List Int)) => ⟨mkE 80 0 [(0, .ptr 0 0), (1, dI x4308), (5, dI x4625), (6, .slc 1), (7, .slc 2), (8, dI x4632), (9, dI s.1)], [some (.box [dV x4309, dI s.2.1]), some (sI x4628), some (sI s.2.2)]⟩) (fin := (fun (t : Int × (List Int)) => ((Exit.exit 0), ⟨mkE 80 0 [(0, .ptr 0 0), (1, dI x4308), (5, dI x4625), (7, .slc 1)], [some (.box [dV x4309, dI t.1]), some (sI t.2)]⟩))) (by
  rintro t f K h
  · exact h) (fun s => link_map (spec_l20Tree_n3_l x4308 x4625 x4632 s.1 x4309 s.2.1 x4628 s.2.2) (Sum.elim (fun (t : Int × Int × (List Int)) => Sum.inl (t.1, t.2.1, t.2.2)) (fun (t : Int × (List Int)) => Sum.inr t)) (by
  rintro (t | t)
  · kernel_rfl
  · kernel_rfl)) (1, x4633, x4630))

def spec_l20Tree_n5_l (x4308 : Int) (x4625 : Int) (x4632 : Int) (x4309 : List Int) (x4633 : Int) (x4628 : List Int) (x4630 : List Int) := (link_block (fin2 := (fun (t : Int × (List Int)) => (Exit.normal, ⟨mkE 80 0 [(0, .ptr 0 0), (1, dI x4308), (5, dI x4625), (7, .slc 1)], [some (.box [dV x4309, dI t.1]), some (sI t.2)]⟩))) (id := 0) (spec_l20Tree_n4_l x4308 x4625 x4632 x4309 x4633 x4628 x4630) (fun (t : Int × (List Int)) => (t.1, t.2)) (by
  rintro t K h
  · exact Eq.mp (by kernel_rfl) h))

def spec_l20Tree_n6_l (x4308 : Int) (x4625 : Int) (x4632 : Int) (x4309 : List Int) (x4633 : Int) (x4628 : List Int) (x4630 : List Int) := (link_seq (spec_l20Tree_n2_l x4308 x4625 x4632 x4309 x4633 x4628 x4630) (fun (t : Unit) => (spec_l20Tree_n5_l x4308 x4625 x4632 x4309 x4633 x4628 x4630)))

theorem spec_l20Tree_n7_l (x4308 : Int) (x4625 : Int) (x4309 : List Int) (x4704 : Int) (x4705 : List Int) : Link spec_l20Tree_ctx LL (cq [1,1,1,1,1,1] (bodyOf Tryd.f63)) (aq [1,1,1,1,1,1] spec_l20Tree_an) ⟨mkE 80 0 [(0, .ptr 0 0), (1, dI x4308), (5, dI x4625), (7, .slc 1)], [some (.box [dV x4309, dI x4704]), some (sI x4705)]⟩ (spec_l20Tree_n7 x4308 x4625 x4309 x4704 x4705) (fun (t : Int × (List Int)) => (Exit.ret, ⟨mkE 80 0 [(4, .slc 1)], [some (.box [dV x4309, dI t.1]), some (sI t.2)]⟩)) := by
  refine Link.of fun K h => ?_
  simp only [spec_l20Tree_n7, wpO_bind, wpO_cond, wpO_map, wpO_some] at h
  exact Awp.of (by kernel_rfl) h

def spec_l20Tree_n8_l (x4308 : Int) (x4625 : Int) (x4632 : Int) (x4309 : List Int) (x4633 : Int) (x4628 : List Int) (x4630 : List Int) := (link_seq (spec_l20Tree_n6_l x4308 x4625 x4632 x4309 x4633 x4628 x4630) (fun (t : Int × (List Int)) => (spec_l20Tree_n7_l x4308 x4625 x4309 t.1 t.2)))

def spec_l20Tree_n9_l (x4308 : Int) (x4309 : List Int) (x4310 : Int) := (link_group (c := (cq [0,1,1,1,1] (bodyOf Tryd.f63))) (a := (aq [0,1,1,1,1] spec_l20Tree_an)) [(cq [0] (bodyOf Tryd.f63)), (cq [0,1] (bodyOf Tryd.f63)), (cq [0,1,1] (bodyOf Tryd.f63)), (cq [0,1,1,1] (bodyOf Tryd.f63))] [(aq [0] spec_l20Tree_an), (aq [0,1] spec_l20Tree_an), (aq [0,1,1] spec_l20Tree_an), (aq [0,1,1,1] spec_l20Tree_an)] rfl (link_seq (spec_l20Tree_n1_l x4308 x4309 x4310) (fun (t : Int × Int × Int × (List Int) × (List Int)) => (spec_l20Tree_n8_l x4308 t.1 t.2.1 x4309 t.2.2.1 t.2.2.2.1 t.2.2.2.2))))

theorem spec_l20Tree_e (x4308 : Int) (x4309 : List Int) (x4310 : Int) {r : AV} {H' : Heap} (h : (Ans.mk _ (spec_l20Tree x4308 x4309 x4310) (fun (t : Int × (List Int)) => (.slc 1, [some (.box [dV x4309, dI t.1]), some (sI t.2)])) [] none).run = some (r, H')) : Awp spec_l20Tree_ctx LL (bodyOf Tryd.f63) spec_l20Tree_an ⟨mkE 80 0 [(0, .ptr 0 0), (1, dI x4308)], [some (.box [dV x4309, dI x4310])]⟩ (Ret (tlook tys) Tryd.f63.results.toList r H') :=
  ret_of' (Link.cast (by kernel_rfl) (by kernel_rfl) (spec_l20Tree_n9_l x4308 x4309 x4310)) (by unfold spec_l20Tree; kernel_rfl) (by
  intro t
  exact ret_mk [.slc 1] (by kernel_rfl) (by kernel_rfl) (by kernel_rfl) (by kernel_rfl)) h

def F_spec_l20Tree : Fun := fun avs H =>
  match avs, H with
  | [.ptr 0 0, .dat (.int .i64) x4308], [some (.box [.dat (.list (.int .u8)) x4309, .dat (.int .i64) x4310])] => ⟨_, spec_l20Tree x4308 x4309 x4310, fun (t : Int × (List Int)) => (.slc 1, [some (.box [dV x4309, dI t.1]), some (sI t.2)]), [], none⟩
  | _, _ => Ans.no

theorem spec_l20Tree_sound : Sound Tryd.prog 63 F_spec_l20Tree := by
  refine fn_sound' (C := spec_l20Tree_ctx) (c := bodyOf Tryd.f63) (cok_of tys_ok (allc spec_l20Rd_pick_sound (allc spec_l20Order_sound (allc spec_l20Rd_odd_sound alln))) (allc Tryd.call27 (allc Tryd.call78 (allc Tryd.call49 alln))) (by kernel_rfl)) Tryd.func63 (by kernel_rfl) LL spec_l20Tree_an ?_
  intro avs H r H' h
  unfold F_spec_l20Tree at h
  split at h
  · refine Awp.cast ?_ ?_ ?_ (spec_l20Tree_e _ _ _ h) <;> kernel_rfl
  · simp [Ans.no, Ans.run] at h


/-! loop.example/headtrees/spec.l20Fill -/

def spec_l20Fill_an : Ann := (.seq (.seq (.leaf [0, 1, 2, 3, 4, 16]) (.cond (.leaf []) (.leaf [0, 1, 2, 3, 4]))) (.seq (.leaf [0, 1, 2, 3, 4, 10]) (.seq (.leaf [0, 1, 2, 3, 10]) (.seq (.leaf [0, 1, 3, 10, 11]) (.seq (.block (.loop (.seq (.seq (.leaf [0, 1, 3, 10, 11, 33]) (.cond (.leaf [0, 1, 3, 10, 11]) (.leaf [0, 1, 3, 10]))) (.block (.seq (.leaf [0, 1, 3, 10, 11, 12]) (.seq (.leaf [0, 1, 3, 10, 12]) (.leaf [0, 1, 3, 10, 11]))))))) (.seq (.leaf [0, 1, 3, 10, 11]) (.block (.loop (.seq (.seq (.leaf [0, 1, 3, 10, 11, 53]) (.cond (.leaf [0, 1, 3, 10, 11]) (.leaf []))) (.block (.seq (.leaf [0, 1, 3, 10, 11, 13]) (.seq (.leaf [0, 1, 3, 10, 13]) (.leaf [0, 1, 3, 10, 11])))))))))))))

def F_spec_l20Fill_fuel (n : Nat) : Fun := fun avs H =>
  match avs, H with
  | [.ptr 0 0, .slc 1, .dat (.int .i64) x4901, .dat (.int .i64) x4902, .dat (.int .i64) x4903], [some (.box [.dat (.list (.int .u8)) x4904, .dat (.int .i64) x4905]), some (.seq (.int .i64) x4906)] => ⟨_, spec_l20Fill_fuel n x4901 x4902 x4903 x4904 x4905 x4906, fun (t : Int × (List Int)) => (.tup [], [some (.box [dV x4904, dI t.1]), some (sI t.2)]), [], none⟩
  | _, _ => Ans.no

noncomputable def spec_l20Fill_ctx (n : Nat) : Ctx := ⟨tlook tys, olook [(27, F_spec_l20Rd_pick), (64, F_spec_l20Fill_fuel n)], ioF, 2, false, []⟩

theorem spec_l20Fill_n1_l (n : Nat) (x4901 : Int) (x4902 : Int) (x4903 : Int) (x4904 : List Int) (x4905 : Int) (x4906 : List Int) : Link (spec_l20Fill_ctx n) LL (Code.seq (cq [0] (bodyOf Tryd.f64)) (Code.seq (cq [0,1] (bodyOf Tryd.f64)) (Code.seq (cq [0,1,1] (bodyOf Tryd.f64)) (cq [0,1,1,1] (bodyOf Tryd.f64))))) (Ann.seq (aq [0] spec_l20Fill_an) (Ann.seq (aq [0,1] spec_l20Fill_an) (Ann.seq (aq [0,1,1] spec_l20Fill_an) (aq [0,1,1,1] spec_l20Fill_an)))) ⟨mkE 70 0 [(0, .ptr 0 0), (1, .slc 1), (2, dI x4901), (3, dI x4902), (4, dI x4903)], [some (.box [dV x4904, dI x4905]), some (sI x4906)]⟩ (spec_l20Fill_n1 (spec_l20Fill_fuel n) x4901 x4902 x4903 x4904 x4905 x4906) (Sum.elim (fun (t : Int × Int × (List Int)) => (Exit.normal, ⟨mkE 70 0 [(0, .ptr 0 0), (1, .slc 1), (3, dI x4902), (10, dI t.1), (11, dI x4901)], [some (.box [dV x4904, dI t.2.1]), some (sI t.2.2)]⟩)) (fun (t : Int × (List Int)) => (Exit.ret, ⟨mkE 70 0 [], [some (.box [dV x4904, dI t.1]), some (sI t.2)]⟩))) := by
  refine Link.of fun K h => ?_
  simp only [spec_l20Fill_n1, wpO_bind, wpO_cond, wpO_map, wpO_some] at h
  exact Awp.of (by kernel_rfl) h

theorem spec_l20Fill_n2_l (n : Nat) (x4902 : Int) (x4977 : Int) (x4992 : Int) (x4904 : List Int) (x4993 : Int) (x4994 : List Int) : Link (spec_l20Fill_ctx n) LL (cq [0,0,0,1,1,1,1] (bodyOf Tryd.f64)) (aq [0,0,0,1,1,1,1] spec_l20Fill_an) ⟨mkE 70 0 [(0, .ptr 0 0), (1, .slc 1), (3, dI x4902), (10, dI x4977), (11, dI x4992)], [some (.box [dV x4904, dI x4993]), some (sI x4994)]⟩ (spec_l20Fill_n2 (spec_l20Fill_fuel n) x4977 x4992 x4904 x4993 x4994) (Sum.elim (fun (t : Int × Int × (List Int)) => (Exit.normal, ⟨mkE 70 0 [(0, .ptr 0 0), (1, .slc 1), (3, dI x4902), (10, dI x4977), (11, dI t.1)], [some (.box [dV x4904, dI t.2.1]), some (sI t.2.2)]⟩)) (fun (t : Int × (List Int)) => ((Exit.exit 0), ⟨mkE 70 0 [(0, .ptr 0 0), (1, .slc 1), (3, dI x4902), (10, dI x4977)], [some (.box [dV x4904, dI t.1]), some (sI t.2)]⟩))) := by
  refine Link.of fun K h => ?_
  simp only [spec_l20Fill_n2, wpO_bind, wpO_cond, wpO_map, wpO_some] at h
  exact Awp.of (by kernel_rfl) h

def spec_l20Fill_n3_l (n : Nat) (x4902 : Int) (x4977 : Int) (x4901 : Int) (x4904 : List Int) (x4976 : Int) (x4980 : List Int) := (link_loop (mk := fun (s : Int × Int × (List Int)) => ⟨mkE 70 0 [(0, .ptr 0 0), (1, .slc 1), (3, dI x4902), (10, dI x4977), (11, dI s.1)], [some (.box [dV x4904, dI s.2.1]), some (sI s.2.2)]⟩) (fin := (fun (t : Int × (List Int)) => ((Exit.exit 0), ⟨mkE 70 0 [(0, .ptr 0 0), (1, .slc 1), (3, dI x4902), (10, dI x4977)], [some (.box [dV x4904, dI t.1]), some (sI t.2)]⟩))) (by
  rintro t f K h
  · exact h) (fun s => link_map (spec_l20Fill_n2_l n x4902 x4977 s.1 x4904 s.2.1 s.2.2) (Sum.elim (fun (t : Int × Int × (List Int)) => Sum.inl (t.1, t.2.1, t.2.2)) (fun (t : Int × (List Int)) => Sum.inr t)) (by
  rintro (t | t)
  · kernel_rfl
  · kernel_rfl)) (x4901, x4976, x4980))

def spec_l20Fill_n4_l (n : Nat) (x4902 : Int) (x4977 : Int) (x4901 : Int) (x4904 : List Int) (x4976 : Int) (x4980 : List Int) := (link_block (fin2 := (fun (t : Int × (List Int)) => (Exit.normal, ⟨mkE 70 0 [(0, .ptr 0 0), (1, .slc 1), (3, dI x4902), (10, dI x4977)], [some (.box [dV x4904, dI t.1]), some (sI t.2)]⟩))) (id := 0) (spec_l20Fill_n3_l n x4902 x4977 x4901 x4904 x4976 x4980) (fun (t : Int × (List Int)) => (t.1, t.2)) (by
  rintro t K h
  · exact Eq.mp (by kernel_rfl) h))

theorem spec_l20Fill_n5_l (n : Nat) (x4902 : Int) (x4977 : Int) (x4904 : List Int) (x4993 : Int) (x4994 : List Int) : Link (spec_l20Fill_ctx n) LL (cq [0,1,1,1,1,1] (bodyOf Tryd.f64)) (aq [0,1,1,1,1,1] spec_l20Fill_an) ⟨mkE 70 0 [(0, .ptr 0 0), (1, .slc 1), (3, dI x4902), (10, dI x4977)], [some (.box [dV x4904, dI x4993]), some (sI x4994)]⟩ (spec_l20Fill_n5 (spec_l20Fill_fuel n) x4977) (fun (t : Int) => (Exit.normal, ⟨mkE 70 0 [(0, .ptr 0 0), (1, .slc 1), (3, dI x4902), (10, dI x4977), (11, dI t)], [some (.box [dV x4904, dI x4993]), some (sI x4994)]⟩)) := by
  refine Link.of fun K h => ?_
  simp only [spec_l20Fill_n5, wpO_bind, wpO_cond, wpO_map, wpO_some] at h
  exact Awp.of (by kernel_rfl) h

theorem spec_l20Fill_n6_l (n : Nat) (x4902 : Int) (x4977 : Int) (x5019 : Int) (x4904 : List Int) (x5020 : Int) (x5021 : List Int) : Link (spec_l20Fill_ctx n) LL (cq [0,0,1,1,1,1,1,1] (bodyOf Tryd.f64)) (aq [0,0,1,1,1,1,1,1] spec_l20Fill_an) ⟨mkE 70 0 [(0, .ptr 0 0), (1, .slc 1), (3, dI x4902), (10, dI x4977), (11, dI x5019)], [some (.box [dV x4904, dI x5020]), some (sI x5021)]⟩ (spec_l20Fill_n6 (spec_l20Fill_fuel n) x4902 x4977 x5019 x4904 x5020 x5021) (Sum.elim (fun (t : Int × Int × (List Int)) => (Exit.normal, ⟨mkE 70 0 [(0, .ptr 0 0), (1, .slc 1), (3, dI x4902), (10, dI x4977), (11, dI t.1)], [some (.box [dV x4904, dI t.2.1]), some (sI t.2.2)]⟩)) (fun (t : Int × (List Int)) => ((Exit.exit 2), ⟨mkE 70 0 [], [some (.box [dV x4904, dI t.1]), some (sI t.2)]⟩))) := by
  refine Link.of fun K h => ?_
  simp only [spec_l20Fill_n6, wpO_bind, wpO_cond, wpO_map, wpO_some] at h
  exact Awp.of (by kernel_rfl) h

def spec_l20Fill_n7_l (n : Nat) (x4902 : Int) (x4977 : Int) (x5006 : Int) (x4904 : List Int) (x4993 : Int) (x4994 : List Int) := (link_loop (mk := fun (s : Int × Int × (List Int)) => ⟨mkE 70 0 [(0, .ptr 0 0), (1, .slc 1), (3, dI x4902), (10, dI x4977), (11, dI s.1)], [some (.box [dV x4904, dI s.2.1]), some (sI s.2.2)]⟩) (fin := (fun (t : Int × (List Int)) => ((Exit.exit 2), ⟨mkE 70 0 [], [some (.box [dV x4904, dI t.1]), some (sI t.2)]⟩))) (by
  rintro t f K h
  · exact h) (fun s => link_map (spec_l20Fill_n6_l n x4902 x4977 s.1 x4904 s.2.1 s.2.2) (Sum.elim (fun (t : Int × Int × (List Int)) => Sum.inl (t.1, t.2.1, t.2.2)) (fun (t : Int × (List Int)) => Sum.inr t)) (by
  rintro (t | t)
  · kernel_rfl
  · kernel_rfl)) (x5006, x4993, x4994))

def spec_l20Fill_n8_l (n : Nat) (x4902 : Int) (x4977 : Int) (x5006 : Int) (x4904 : List Int) (x4993 : Int) (x4994 : List Int) := (link_block (fin2 := (fun (t : Int × (List Int)) => (Exit.normal, ⟨mkE 70 0 [], [some (.box [dV x4904, dI t.1]), some (sI t.2)]⟩))) (id := 2) (spec_l20Fill_n7_l n x4902 x4977 x5006 x4904 x4993 x4994) (fun (t : Int × (List Int)) => (t.1, t.2)) (by
  rintro t K h
  · exact Eq.mp (by kernel_rfl) h))

def spec_l20Fill_n9_l (n : Nat) (x4902 : Int) (x4977 : Int) (x4904 : List Int) (x4993 : Int) (x4994 : List Int) := (link_seq (spec_l20Fill_n5_l n x4902 x4977 x4904 x4993 x4994) (fun (t : Int) => (spec_l20Fill_n8_l n x4902 x4977 t x4904 x4993 x4994)))

def spec_l20Fill_n10_l (n : Nat) (x4902 : Int) (x4977 : Int) (x4901 : Int) (x4904 : List Int) (x4976 : Int) (x4980 : List Int) := (link_seq (spec_l20Fill_n4_l n x4902 x4977 x4901 x4904 x4976 x4980) (fun (t : Int × (List Int)) => (spec_l20Fill_n9_l n x4902 x4977 x4904 t.1 t.2)))

def spec_l20Fill_n11_l (n : Nat) (x4901 : Int) (x4902 : Int) (x4903 : Int) (x4904 : List Int) (x4905 : Int) (x4906 : List Int) := (link_group (c := (cq [0,1,1,1] (bodyOf Tryd.f64))) (a := (aq [0,1,1,1] spec_l20Fill_an)) [(cq [0] (bodyOf Tryd.f64)), (cq [0,1] (bodyOf Tryd.f64)), (cq [0,1,1] (bodyOf Tryd.f64))] [(aq [0] spec_l20Fill_an), (aq [0,1] spec_l20Fill_an), (aq [0,1,1] spec_l20Fill_an)] rfl (link_seq2 (spec_l20Fill_n1_l n x4901 x4902 x4903 x4904 x4905 x4906) (fun (t : Int × Int × (List Int)) => (link_map (fin2 := (Sum.elim (fun (t : Int × (List Int)) => (Exit.normal, ⟨mkE 70 0 [], [some (.box [dV x4904, dI t.1]), some (sI t.2)]⟩)) (fun (t : Int × (List Int)) => (Exit.ret, ⟨mkE 70 0 [], [some (.box [dV x4904, dI t.1]), some (sI t.2)]⟩)))) (spec_l20Fill_n10_l n x4902 t.1 x4901 x4904 t.2.1 t.2.2) (fun (u : Int × (List Int)) => (Sum.inl (u.1, u.2))) (by
  rintro t
  · kernel_rfl))) (fun (t : Int × (List Int)) => (Sum.inr t)) (by
  rintro t
  · kernel_rfl) (by
  rintro t f K h
  · exact h)))

theorem spec_l20Fill_e (n : Nat) (x4901 : Int) (x4902 : Int) (x4903 : Int) (x4904 : List Int) (x4905 : Int) (x4906 : List Int) {r : AV} {H' : Heap} (h : (Ans.mk _ (spec_l20Fill_fuel (n + 1) x4901 x4902 x4903 x4904 x4905 x4906) (fun (t : Int × (List Int)) => (.tup [], [some (.box [dV x4904, dI t.1]), some (sI t.2)])) [] none).run = some (r, H')) : Awp (spec_l20Fill_ctx n) LL (bodyOf Tryd.f64) spec_l20Fill_an ⟨mkE 70 0 [(0, .ptr 0 0), (1, .slc 1), (2, dI x4901), (3, dI x4902), (4, dI x4903)], [some (.box [dV x4904, dI x4905]), some (sI x4906)]⟩ (Ret (tlook tys) Tryd.f64.results.toList r H') :=
  ret_of (Link.cast (by kernel_rfl) (by kernel_rfl) (spec_l20Fill_n11_l n x4901 x4902 x4903 x4904 x4905 x4906)) (Sum.elim (fun (t : Int × (List Int)) => (t.1, t.2)) (fun (t : Int × (List Int)) => t)) (by (show _ = _); kernel_rfl) (by
  rintro (t | t)
  · exact ret_mk [] (by kernel_rfl) (by kernel_rfl) (by kernel_rfl) (by kernel_rfl)
  · exact ret_mk [] (by kernel_rfl) (by kernel_rfl) (by kernel_rfl) (by kernel_rfl)) h

theorem spec_l20Fill_step (n : Nat) (h64 : Sound Tryd.prog 64 (F_spec_l20Fill_fuel n)) : Sound Tryd.prog 64 (F_spec_l20Fill_fuel (n + 1)) := by
  refine fn_sound' (C := spec_l20Fill_ctx n) (c := bodyOf Tryd.f64) (cok_of tys_ok (allc spec_l20Rd_pick_sound (allc h64 alln)) (allc Tryd.call27 (allc Tryd.call64 alln)) (by kernel_rfl)) Tryd.func64 (by kernel_rfl) LL spec_l20Fill_an ?_
  intro avs H r H' h
  unfold F_spec_l20Fill_fuel at h
  split at h
  · refine Awp.cast ?_ ?_ ?_ (spec_l20Fill_e n _ _ _ _ _ _ h) <;> kernel_rfl
  · simp [Ans.no, Ans.run] at h

theorem spec_l20Fill_null : Sound Tryd.prog 64 (F_spec_l20Fill_fuel 0) := by
  intro avs H r H' h
  unfold F_spec_l20Fill_fuel at h
  split at h
  · simp [spec_l20Fill_fuel, spec_l20Fill_knot, Ans.run] at h
  · simp [Ans.no, Ans.run] at h

theorem spec_l20Fill_knot_all : ∀ n, Sound Tryd.prog 64 (F_spec_l20Fill_fuel n)
  | 0 => spec_l20Fill_null
  | n + 1 => by
    have h64 := spec_l20Fill_knot_all n
    exact spec_l20Fill_step n h64

def F_spec_l20Fill : Fun := fun avs H =>
  match avs, H with
  | [.ptr 0 0, .slc 1, .dat (.int .i64) x4901, .dat (.int .i64) x4902, .dat (.int .i64) x4903], [some (.box [.dat (.list (.int .u8)) x4904, .dat (.int .i64) x4905]), some (.seq (.int .i64) x4906)] => ⟨_, spec_l20Fill x4901 x4902 x4903 x4904 x4905 x4906, fun (t : Int × (List Int)) => (.tup [], [some (.box [dV x4904, dI t.1]), some (sI t.2)]), [], none⟩
  | _, _ => Ans.no

theorem spec_l20Fill_sound : Sound Tryd.prog 64 F_spec_l20Fill := by
  have e : F_spec_l20Fill = F_spec_l20Fill_fuel RR := by
    funext avs H
    unfold F_spec_l20Fill F_spec_l20Fill_fuel
    split <;> first | rfl | (simp only [spec_l20Fill])
  rw [e]
  exact (spec_l20Fill_knot_all RR)


/-! loop.example/headtrees/spec.l20Flat -/

def spec_l20Flat_an : Ann := (.seq (.leaf [0, 1]) (.seq (.seq (.leaf [0, 1, 9]) (.cond (.seq (.leaf [4]) (.leaf [4])) (.leaf [0]))) (.seq (.leaf [0, 5]) (.seq (.leaf [0, 5, 6]) (.seq (.leaf [6]) (.seq (.leaf [4]) (.leaf [4])))))))

noncomputable def spec_l20Flat_ctx : Ctx := ⟨tlook tys, olook [(27, F_spec_l20Rd_pick), (63, F_spec_l20Tree), (64, F_spec_l20Fill)], ioF, 1, false, []⟩

theorem spec_l20Flat_n1_l (x4301 : Int) (x4302 : List Int) (x4303 : Int) : Link spec_l20Flat_ctx LL (bodyOf Tryd.f38) spec_l20Flat_an ⟨mkE 23 0 [(0, .ptr 0 0), (1, dI x4301)], [some (.box [dV x4302, dI x4303])]⟩ (spec_l20Flat_n1 x4301 x4302 x4303) (fun (t : Int × (List Int)) => (Exit.ret, ⟨mkE 23 0 [(4, .slc 1)], [some (.box [dV x4302, dI t.1]), some (sI t.2)]⟩)) := by
  refine Link.of fun K h => ?_
  simp only [spec_l20Flat_n1, wpO_bind, wpO_cond, wpO_map, wpO_some] at h
  exact Awp.of (by kernel_rfl) h

theorem spec_l20Flat_e (x4301 : Int) (x4302 : List Int) (x4303 : Int) {r : AV} {H' : Heap} (h : (Ans.mk _ (spec_l20Flat x4301 x4302 x4303) (fun (t : Int × (List Int)) => (.slc 1, [some (.box [dV x4302, dI t.1]), some (sI t.2)])) [] none).run = some (r, H')) : Awp spec_l20Flat_ctx LL (bodyOf Tryd.f38) spec_l20Flat_an ⟨mkE 23 0 [(0, .ptr 0 0), (1, dI x4301)], [some (.box [dV x4302, dI x4303])]⟩ (Ret (tlook tys) Tryd.f38.results.toList r H') :=
  ret_of' (spec_l20Flat_n1_l x4301 x4302 x4303) (by unfold spec_l20Flat; kernel_rfl) (by
  intro t
  exact ret_mk [.slc 1] (by kernel_rfl) (by kernel_rfl) (by kernel_rfl) (by kernel_rfl)) h

def F_spec_l20Flat : Fun := fun avs H =>
  match avs, H with
  | [.ptr 0 0, .dat (.int .i64) x4301], [some (.box [.dat (.list (.int .u8)) x4302, .dat (.int .i64) x4303])] => ⟨_, spec_l20Flat x4301 x4302 x4303, fun (t : Int × (List Int)) => (.slc 1, [some (.box [dV x4302, dI t.1]), some (sI t.2)]), [], none⟩
  | _, _ => Ans.no

theorem spec_l20Flat_sound : Sound Tryd.prog 38 F_spec_l20Flat := by
  refine fn_sound' (C := spec_l20Flat_ctx) (c := bodyOf Tryd.f38) (cok_of tys_ok (allc spec_l20Rd_pick_sound (allc spec_l20Tree_sound (allc spec_l20Fill_sound alln))) (allc Tryd.call27 (allc Tryd.call63 (allc Tryd.call64 alln))) (by kernel_rfl)) Tryd.func38 (by kernel_rfl) LL spec_l20Flat_an ?_
  intro avs H r H' h
  unfold F_spec_l20Flat at h
  split at h
  · refine Awp.cast ?_ ?_ ?_ (spec_l20Flat_e _ _ _ h) <;> kernel_rfl
  · simp [Ans.no, Ans.run] at h


/-! loop.example/headtrees/spec.TreeOk -/

def spec_TreeOk_an : Ann := (.seq (.leaf [0]) (.seq (.leaf [0, 3]) (.seq (.seq (.leaf [0, 3, 12]) (.cond (.seq (.leaf [2]) (.leaf [2])) (.leaf [0, 3]))) (.seq (.leaf [0, 3, 4]) (.seq (.seq (.leaf [0, 3, 4, 5]) (.block (.loop (.seq (.seq (.leaf [0, 3, 4, 5, 15]) (.cond (.leaf [0, 3, 4, 5]) (.leaf [4]))) (.seq (.block (.seq (.seq (.leaf [0, 3, 4, 5, 33]) (.cond (.seq (.leaf [2]) (.leaf [2])) (.leaf [0, 3, 4, 5]))) (.seq (.seq (.leaf [0, 3, 4, 5, 38]) (.cond (.leaf [0, 3, 4, 5]) (.leaf [0, 3, 4, 5]))) (.seq (.leaf [0, 3, 4, 5, 6]) (.seq (.seq (.leaf [0, 3, 4, 5, 6, 7]) (.block (.loop (.seq (.seq (.leaf [0, 3, 4, 5, 6, 7, 49]) (.cond (.leaf [0, 3, 4, 5, 6, 7]) (.leaf [0, 3, 4, 5, 6]))) (.seq (.block (.seq (.leaf [0, 3, 4, 5, 6, 7]) (.seq (.leaf [0, 3, 4, 5, 6, 7, 60]) (.cond (.seq (.leaf [2]) (.leaf [2])) (.leaf [0, 3, 4, 5, 6, 7]))))) (.leaf [0, 3, 4, 5, 6, 7])))))) (.seq (.leaf [0, 3, 4, 5, 62]) (.cond (.seq (.leaf [2]) (.leaf [2])) (.leaf [0, 3, 4, 5])))))))) (.leaf [0, 3, 4, 5])))))) (.seq (.leaf [2]) (.leaf [2])))))))

noncomputable def spec_TreeOk_ctx : Ctx := ⟨tlook tys, olook [(30, F_spec_l1In)], ioF, 0, false, []⟩

theorem spec_TreeOk_n1_l (x5097 : List Int) : Link spec_TreeOk_ctx LL (Code.seq (cq [0] (bodyOf Tryd.f65)) (Code.seq (cq [0,1] (bodyOf Tryd.f65)) (Code.seq (cq [0,1,1] (bodyOf Tryd.f65)) (cq [0,1,1,1] (bodyOf Tryd.f65))))) (Ann.seq (aq [0] spec_TreeOk_an) (Ann.seq (aq [0,1] spec_TreeOk_an) (Ann.seq (aq [0,1,1] spec_TreeOk_an) (aq [0,1,1,1] spec_TreeOk_an)))) ⟨mkE 65 0 [(0, dL x5097)], []⟩ (spec_TreeOk_n1 x5097) (Sum.elim (fun (t : Int) => (Exit.normal, ⟨mkE 65 0 [(0, dL x5097), (3, dI t), (4, dI 0)], []⟩)) (fun (t : Bool) => (Exit.ret, ⟨mkE 65 0 [(2, dB t)], []⟩))) := by
  refine Link.of fun K h => ?_
  simp only [spec_TreeOk_n1, wpO_bind, wpO_cond, wpO_map, wpO_some] at h
  exact Awp.of (by kernel_rfl) h

theorem spec_TreeOk_n2_l (x5097 : List Int) (x5102 : Int) : Link spec_TreeOk_ctx LL (cq [0,0,1,1,1,1] (bodyOf Tryd.f65)) (aq [0,0,1,1,1,1] spec_TreeOk_an) ⟨mkE 65 0 [(0, dL x5097), (3, dI x5102), (4, dI 0)], []⟩ (spec_TreeOk_n2) (fun (t : Unit) => (Exit.normal, ⟨mkE 65 0 [(0, dL x5097), (3, dI x5102), (4, dI 0), (5, dI 0)], []⟩)) := by
  refine Link.of fun K h => ?_
  simp only [spec_TreeOk_n2, wpO_bind, wpO_cond, wpO_map, wpO_some] at h
  exact Awp.of (by kernel_rfl) h

theorem spec_TreeOk_n3_l (x5097 : List Int) (x5102 : Int) (x5169 : Int) (x5170 : Int) : Link spec_TreeOk_ctx LL (cq [0,0,0,1,0,1,1,1,1] (bodyOf Tryd.f65)) (aq [0,0,0,1,0,1,1,1,1] spec_TreeOk_an) ⟨mkE 65 0 [(0, dL x5097), (3, dI x5102), (4, dI x5169), (5, dI x5170)], []⟩ (spec_TreeOk_n3 x5102 x5169 x5170) (Sum.elim (fun (t : Unit) => (Exit.normal, ⟨mkE 65 0 [(0, dL x5097), (3, dI x5102), (4, dI x5169), (5, dI x5170)], []⟩)) (fun (t : Int) => ((Exit.exit 0), ⟨mkE 65 0 [(4, dI t)], []⟩))) := by
  refine Link.of fun K h => ?_
  simp only [spec_TreeOk_n3, wpO_bind, wpO_cond, wpO_map, wpO_some] at h
  exact Awp.of (by kernel_rfl) h

theorem spec_TreeOk_n4_l (x5097 : List Int) (x5102 : Int) (x5169 : Int) (x5170 : Int) : Link spec_TreeOk_ctx LL (Code.seq (cq [0,0,0,1,0,0,1,0,1,1,1,1] (bodyOf Tryd.f65)) (Code.seq (cq [0,1,0,0,1,0,0,1,0,1,1,1,1] (bodyOf Tryd.f65)) (cq [0,1,1,0,0,1,0,0,1,0,1,1,1,1] (bodyOf Tryd.f65)))) (Ann.seq (aq [0,0,0,1,0,0,1,0,1,1,1,1] spec_TreeOk_an) (Ann.seq (aq [0,1,0,0,1,0,0,1,0,1,1,1,1] spec_TreeOk_an) (aq [0,1,1,0,0,1,0,0,1,0,1,1,1,1] spec_TreeOk_an))) ⟨mkE 65 0 [(0, dL x5097), (3, dI x5102), (4, dI x5169), (5, dI x5170)], []⟩ (spec_TreeOk_n4 x5097 x5102 x5169 x5170) (Sum.elim (fun (t : Int × Int) => (Exit.normal, ⟨mkE 65 0 [(0, dL x5097), (3, dI x5102), (4, dI t.1), (5, dI x5170), (6, dI t.2)], []⟩)) (fun (t : Bool) => (Exit.ret, ⟨mkE 65 0 [(2, dB t)], []⟩))) := by
  refine Link.of fun K h => ?_
  simp only [spec_TreeOk_n4, wpO_bind, wpO_cond, wpO_map, wpO_some] at h
  exact Awp.of (by kernel_rfl) h

theorem spec_TreeOk_n5_l (x5097 : List Int) (x5102 : Int) (x5198 : Int) (x5170 : Int) (x5199 : Int) : Link spec_TreeOk_ctx LL (cq [0,0,1,1,1,0,0,1,0,0,1,0,1,1,1,1] (bodyOf Tryd.f65)) (aq [0,0,1,1,1,0,0,1,0,0,1,0,1,1,1,1] spec_TreeOk_an) ⟨mkE 65 0 [(0, dL x5097), (3, dI x5102), (4, dI x5198), (5, dI x5170), (6, dI x5199)], []⟩ (spec_TreeOk_n5) (fun (t : Unit) => (Exit.normal, ⟨mkE 65 0 [(0, dL x5097), (3, dI x5102), (4, dI x5198), (5, dI x5170), (6, dI x5199), (7, dI 0)], []⟩)) := by
  refine Link.of fun K h => ?_
  simp only [spec_TreeOk_n5, wpO_bind, wpO_cond, wpO_map, wpO_some] at h
  exact Awp.of (by kernel_rfl) h

theorem spec_TreeOk_n6_l (x5097 : List Int) (x5102 : Int) (x5198 : Int) (x5170 : Int) (x5215 : Int) (x5216 : Int) : Link spec_TreeOk_ctx LL (cq [0,0,1,0,1,1,1,0,0,1,0,0,1,0,1,1,1,1] (bodyOf Tryd.f65)) (aq [0,0,1,0,1,1,1,0,0,1,0,0,1,0,1,1,1,1] spec_TreeOk_an) ⟨mkE 65 0 [(0, dL x5097), (3, dI x5102), (4, dI x5198), (5, dI x5170), (6, dI x5215), (7, dI x5216)], []⟩ (spec_TreeOk_n6 x5097 x5102 x5215 x5216) (Sum.elim (fun (t : Int × Int) => (Exit.normal, ⟨mkE 65 0 [(0, dL x5097), (3, dI x5102), (4, dI x5198), (5, dI x5170), (6, dI t.1), (7, dI t.2)], []⟩)) (Sum.elim (fun (t : Bool) => (Exit.ret, ⟨mkE 65 0 [(2, dB t)], []⟩)) (fun (t : Int) => ((Exit.exit 2), ⟨mkE 65 0 [(0, dL x5097), (3, dI x5102), (4, dI x5198), (5, dI x5170), (6, dI t)], []⟩)))) := by
  refine Link.of fun K h => ?_
  simp only [spec_TreeOk_n6, wpO_bind, wpO_cond, wpO_map, wpO_some] at h
  exact Awp.of (by kernel_rfl) h

def spec_TreeOk_n7_l (x5097 : List Int) (x5102 : Int) (x5198 : Int) (x5170 : Int) (x5199 : Int) := (link_loop (mk := fun (s : Int × Int) => ⟨mkE 65 0 [(0, dL x5097), (3, dI x5102), (4, dI x5198), (5, dI x5170), (6, dI s.1), (7, dI s.2)], []⟩) (fin := (Sum.elim (fun (t : Bool) => (Exit.ret, ⟨mkE 65 0 [(2, dB t)], []⟩)) (fun (t : Int) => ((Exit.exit 2), ⟨mkE 65 0 [(0, dL x5097), (3, dI x5102), (4, dI x5198), (5, dI x5170), (6, dI t)], []⟩)))) (by
  rintro (t | t) f K h
  · exact h
  · exact h) (fun s => link_map (spec_TreeOk_n6_l x5097 x5102 x5198 x5170 s.1 s.2) (Sum.elim (fun (t : Int × Int) => Sum.inl (t.1, t.2)) (Sum.elim (fun (t : Bool) => Sum.inr (Sum.inl t)) (fun (t : Int) => Sum.inr (Sum.inr t)))) (by
  rintro (t | t | t)
  · kernel_rfl
  · kernel_rfl
  · kernel_rfl)) (x5199, 0))

def spec_TreeOk_n8_l (x5097 : List Int) (x5102 : Int) (x5198 : Int) (x5170 : Int) (x5199 : Int) := (link_block (fin2 := (Sum.elim (fun (t : Int) => (Exit.normal, ⟨mkE 65 0 [(0, dL x5097), (3, dI x5102), (4, dI x5198), (5, dI x5170), (6, dI t)], []⟩)) (fun (t : Bool) => (Exit.ret, ⟨mkE 65 0 [(2, dB t)], []⟩)))) (id := 2) (spec_TreeOk_n7_l x5097 x5102 x5198 x5170 x5199) (Sum.elim (fun (t : Bool) => (Sum.inr t)) (fun (t : Int) => (Sum.inl t))) (by
  rintro (t | t) K h
  · exact Eq.mp (by kernel_rfl) h
  · exact Eq.mp (by kernel_rfl) h))

def spec_TreeOk_n9_l (x5097 : List Int) (x5102 : Int) (x5198 : Int) (x5170 : Int) (x5199 : Int) := (link_seq (spec_TreeOk_n5_l x5097 x5102 x5198 x5170 x5199) (fun (t : Unit) => (spec_TreeOk_n8_l x5097 x5102 x5198 x5170 x5199)))

theorem spec_TreeOk_n10_l (x5097 : List Int) (x5102 : Int) (x5198 : Int) (x5170 : Int) (x5215 : Int) : Link spec_TreeOk_ctx LL (cq [1,1,1,1,0,0,1,0,0,1,0,1,1,1,1] (bodyOf Tryd.f65)) (aq [1,1,1,1,0,0,1,0,0,1,0,1,1,1,1] spec_TreeOk_an) ⟨mkE 65 0 [(0, dL x5097), (3, dI x5102), (4, dI x5198), (5, dI x5170), (6, dI x5215)], []⟩ (spec_TreeOk_n10 x5215) (Sum.elim (fun (t : Unit) => (Exit.normal, ⟨mkE 65 0 [(0, dL x5097), (3, dI x5102), (4, dI x5198), (5, dI x5170)], []⟩)) (fun (t : Bool) => (Exit.ret, ⟨mkE 65 0 [(2, dB t)], []⟩))) := by
  refine Link.of fun K h => ?_
  simp only [spec_TreeOk_n10, wpO_bind, wpO_cond, wpO_map, wpO_some] at h
  exact Awp.of (by kernel_rfl) h

def spec_TreeOk_n11_l (x5097 : List Int) (x5102 : Int) (x5198 : Int) (x5170 : Int) (x5199 : Int) := (link_seq2 (spec_TreeOk_n9_l x5097 x5102 x5198 x5170 x5199) (fun (t : Int) => (spec_TreeOk_n10_l x5097 x5102 x5198 x5170 t)) (fun (t : Bool) => (Sum.inr t)) (by
  rintro t
  · kernel_rfl) (by
  rintro t f K h
  · exact h))

def spec_TreeOk_n12_l (x5097 : List Int) (x5102 : Int) (x5169 : Int) (x5170 : Int) := (link_group (c := (cq [0,1,1,0,0,1,0,0,1,0,1,1,1,1] (bodyOf Tryd.f65))) (a := (aq [0,1,1,0,0,1,0,0,1,0,1,1,1,1] spec_TreeOk_an)) [(cq [0,0,0,1,0,0,1,0,1,1,1,1] (bodyOf Tryd.f65)), (cq [0,1,0,0,1,0,0,1,0,1,1,1,1] (bodyOf Tryd.f65))] [(aq [0,0,0,1,0,0,1,0,1,1,1,1] spec_TreeOk_an), (aq [0,1,0,0,1,0,0,1,0,1,1,1,1] spec_TreeOk_an)] rfl (link_seq2 (spec_TreeOk_n4_l x5097 x5102 x5169 x5170) (fun (t : Int × Int) => (link_map (fin2 := (Sum.elim (fun (t : Int) => (Exit.normal, ⟨mkE 65 0 [(0, dL x5097), (3, dI x5102), (4, dI t), (5, dI x5170)], []⟩)) (fun (t : Bool) => (Exit.ret, ⟨mkE 65 0 [(2, dB t)], []⟩)))) (spec_TreeOk_n11_l x5097 x5102 t.1 x5170 t.2) (Sum.elim (fun (u : Unit) => (Sum.inl t.1)) (fun (u : Bool) => (Sum.inr u))) (by
  rintro (t | t)
  · kernel_rfl
  · kernel_rfl))) (fun (t : Bool) => (Sum.inr t)) (by
  rintro t
  · kernel_rfl) (by
  rintro t f K h
  · exact h)))

def spec_TreeOk_n13_l (x5097 : List Int) (x5102 : Int) (x5169 : Int) (x5170 : Int) := (link_block (fin2 := (Sum.elim (fun (t : Int) => (Exit.normal, ⟨mkE 65 0 [(0, dL x5097), (3, dI x5102), (4, dI t), (5, dI x5170)], []⟩)) (fun (t : Bool) => (Exit.ret, ⟨mkE 65 0 [(2, dB t)], []⟩)))) (id := 1) (spec_TreeOk_n12_l x5097 x5102 x5169 x5170) (Sum.elim (fun (t : Int) => (Sum.inl t)) (fun (t : Bool) => (Sum.inr t))) (by
  rintro (t | t) K h
  · exact Eq.mp (by kernel_rfl) h
  · exact Eq.mp (by kernel_rfl) h))

theorem spec_TreeOk_n14_l (x5097 : List Int) (x5102 : Int) (x5198 : Int) (x5170 : Int) : Link spec_TreeOk_ctx LL (cq [1,1,0,0,1,0,1,1,1,1] (bodyOf Tryd.f65)) (aq [1,1,0,0,1,0,1,1,1,1] spec_TreeOk_an) ⟨mkE 65 0 [(0, dL x5097), (3, dI x5102), (4, dI x5198), (5, dI x5170)], []⟩ (spec_TreeOk_n14 x5170) (fun (t : Int) => (Exit.normal, ⟨mkE 65 0 [(0, dL x5097), (3, dI x5102), (4, dI x5198), (5, dI t)], []⟩)) := by
  refine Link.of fun K h => ?_
  simp only [spec_TreeOk_n14, wpO_bind, wpO_cond, wpO_map, wpO_some] at h
  exact Awp.of (by kernel_rfl) h

def spec_TreeOk_n15_l (x5097 : List Int) (x5102 : Int) (x5169 : Int) (x5170 : Int) := (link_seq2 (spec_TreeOk_n13_l x5097 x5102 x5169 x5170) (fun (t : Int) => (link_map (fin2 := (Sum.elim (fun (t : Int × Int) => (Exit.normal, ⟨mkE 65 0 [(0, dL x5097), (3, dI x5102), (4, dI t.1), (5, dI t.2)], []⟩)) (fun (t : Bool) => (Exit.ret, ⟨mkE 65 0 [(2, dB t)], []⟩)))) (spec_TreeOk_n14_l x5097 x5102 t x5170) (fun (u : Int) => (Sum.inl (t, u))) (by
  rintro t
  · kernel_rfl))) (fun (t : Bool) => (Sum.inr t)) (by
  rintro t
  · kernel_rfl) (by
  rintro t f K h
  · exact h))

def spec_TreeOk_n16_l (x5097 : List Int) (x5102 : Int) (x5169 : Int) (x5170 : Int) := (link_seq2 (spec_TreeOk_n3_l x5097 x5102 x5169 x5170) (fun (t : Unit) => (link_map (fin2 := (Sum.elim (fun (t : Int × Int) => (Exit.normal, ⟨mkE 65 0 [(0, dL x5097), (3, dI x5102), (4, dI t.1), (5, dI t.2)], []⟩)) (Sum.elim (fun (t : Bool) => (Exit.ret, ⟨mkE 65 0 [(2, dB t)], []⟩)) (fun (t : Int) => ((Exit.exit 0), ⟨mkE 65 0 [(4, dI t)], []⟩))))) (spec_TreeOk_n15_l x5097 x5102 x5169 x5170) (Sum.elim (fun (t : Int × Int) => (Sum.inl (t.1, t.2))) (fun (t : Bool) => (Sum.inr (Sum.inl t)))) (by
  rintro (t | t)
  · kernel_rfl
  · kernel_rfl))) (fun (t : Int) => (Sum.inr (Sum.inr t))) (by
  rintro t
  · kernel_rfl) (by
  rintro t f K h
  · exact h))

def spec_TreeOk_n17_l (x5097 : List Int) (x5102 : Int) := (link_loop (mk := fun (s : Int × Int) => ⟨mkE 65 0 [(0, dL x5097), (3, dI x5102), (4, dI s.1), (5, dI s.2)], []⟩) (fin := (Sum.elim (fun (t : Bool) => (Exit.ret, ⟨mkE 65 0 [(2, dB t)], []⟩)) (fun (t : Int) => ((Exit.exit 0), ⟨mkE 65 0 [(4, dI t)], []⟩)))) (by
  rintro (t | t) f K h
  · exact h
  · exact h) (fun s => link_map (spec_TreeOk_n16_l x5097 x5102 s.1 s.2) (Sum.elim (fun (t : Int × Int) => Sum.inl (t.1, t.2)) (Sum.elim (fun (t : Bool) => Sum.inr (Sum.inl t)) (fun (t : Int) => Sum.inr (Sum.inr t)))) (by
  rintro (t | t | t)
  · kernel_rfl
  · kernel_rfl
  · kernel_rfl)) (0, 0))

def spec_TreeOk_n18_l (x5097 : List Int) (x5102 : Int) := (link_block (fin2 := (Sum.elim (fun (t : Int) => (Exit.normal, ⟨mkE 65 0 [(4, dI t)], []⟩)) (fun (t : Bool) => (Exit.ret, ⟨mkE 65 0 [(2, dB t)], []⟩)))) (id := 0) (spec_TreeOk_n17_l x5097 x5102) (Sum.elim (fun (t : Bool) => (Sum.inr t)) (fun (t : Int) => (Sum.inl t))) (by
  rintro (t | t) K h
  · exact Eq.mp (by kernel_rfl) h
  · exact Eq.mp (by kernel_rfl) h))

def spec_TreeOk_n19_l (x5097 : List Int) (x5102 : Int) := (link_seq (spec_TreeOk_n2_l x5097 x5102) (fun (t : Unit) => (spec_TreeOk_n18_l x5097 x5102)))

theorem spec_TreeOk_n20_l (x5169 : Int) : Link spec_TreeOk_ctx LL (cq [1,1,1,1,1] (bodyOf Tryd.f65)) (aq [1,1,1,1,1] spec_TreeOk_an) ⟨mkE 65 0 [(4, dI x5169)], []⟩ (spec_TreeOk_n20 x5169) (fun (t : Bool) => (Exit.ret, ⟨mkE 65 0 [(2, dB t)], []⟩)) := by
  refine Link.of fun K h => ?_
  simp only [spec_TreeOk_n20, wpO_bind, wpO_cond, wpO_map, wpO_some] at h
  exact Awp.of (by kernel_rfl) h

def spec_TreeOk_n21_l (x5097 : List Int) (x5102 : Int) := (link_seq2 (spec_TreeOk_n19_l x5097 x5102) (fun (t : Int) => (spec_TreeOk_n20_l t)) (fun (t : Bool) => t) (by
  rintro t
  · kernel_rfl) (by
  rintro t f K h
  · exact h))

def spec_TreeOk_n22_l (x5097 : List Int) := (link_group (c := (cq [0,1,1,1] (bodyOf Tryd.f65))) (a := (aq [0,1,1,1] spec_TreeOk_an)) [(cq [0] (bodyOf Tryd.f65)), (cq [0,1] (bodyOf Tryd.f65)), (cq [0,1,1] (bodyOf Tryd.f65))] [(aq [0] spec_TreeOk_an), (aq [0,1] spec_TreeOk_an), (aq [0,1,1] spec_TreeOk_an)] rfl (link_seq2 (spec_TreeOk_n1_l x5097) (fun (t : Int) => (spec_TreeOk_n21_l x5097 t)) (fun (t : Bool) => t) (by
  rintro t
  · kernel_rfl) (by
  rintro t f K h
  · exact h)))

theorem spec_TreeOk_e (x5097 : List Int) {r : AV} {H' : Heap} (h : (Ans.mk _ (spec_TreeOk x5097) (fun (t : Bool) => (dB t, [])) [] none).run = some (r, H')) : Awp spec_TreeOk_ctx LL (bodyOf Tryd.f65) spec_TreeOk_an ⟨mkE 65 0 [(0, dL x5097)], []⟩ (Ret (tlook tys) Tryd.f65.results.toList r H') :=
  ret_of' (Link.cast (by kernel_rfl) (by kernel_rfl) (spec_TreeOk_n22_l x5097)) (by unfold spec_TreeOk; kernel_rfl) (by
  intro t
  exact ret_mk [dB t] (by kernel_rfl) (by kernel_rfl) (by kernel_rfl) (by kernel_rfl)) h

def F_spec_TreeOk : Fun := fun avs H =>
  match avs, H with
  | [.dat (.list (.int .i64)) x5097], [] => ⟨_, spec_TreeOk x5097, fun (t : Bool) => (dB t, []), [], none⟩
  | _, _ => Ans.no

theorem spec_TreeOk_sound : Sound Tryd.prog 65 F_spec_TreeOk := by
  refine fn_sound' (C := spec_TreeOk_ctx) (c := bodyOf Tryd.f65) (cok_of tys_ok (allc spec_l1In_sound alln) (allc Tryd.call30 alln) (by kernel_rfl)) Tryd.func65 (by kernel_rfl) LL spec_TreeOk_an ?_
  intro avs H r H' h
  unfold F_spec_TreeOk at h
  split at h
  · refine Awp.cast ?_ ?_ ?_ (spec_TreeOk_e _ h) <;> kernel_rfl
  · simp [Ans.no, Ans.run] at h


/-! loop.example/headtrees/spec.l2Yield -/

def spec_l2Yield_an : Ann := (.seq (.leaf [0, 1]) (.seq (.leaf [0, 1, 5]) (.seq (.seq (.leaf [0, 1, 5, 6]) (.block (.loop (.seq (.seq (.leaf [0, 1, 5, 6, 13]) (.cond (.leaf [0, 1, 5, 6]) (.leaf [5]))) (.seq (.block (.seq (.leaf [0, 1, 5, 6, 21]) (.cond (.leaf [0, 1, 5, 6]) (.leaf [0, 1, 5, 6])))) (.leaf [0, 1, 5, 6])))))) (.seq (.leaf [4]) (.leaf [4])))))

def F_spec_l2Yield_fuel (n : Nat) : Fun := fun avs H =>
  match avs, H with
  | [.dat (.list (.int .i64)) x5242, .dat (.int .i64) x5243], [] => ⟨_, spec_l2Yield_fuel n x5242 x5243, fun (t : Int) => (dI t, []), [], none⟩
  | _, _ => Ans.no

noncomputable def spec_l2Yield_ctx (n : Nat) : Ctx := ⟨tlook tys, olook [(67, F_spec_l2Yield_fuel n)], ioF, 0, false, []⟩

theorem spec_l2Yield_n1_l (n : Nat) (x5242 : List Int) (x5243 : Int) : Link (spec_l2Yield_ctx n) LL (Code.seq (cq [0] (bodyOf Tryd.f67)) (cq [0,1] (bodyOf Tryd.f67))) (Ann.seq (aq [0] spec_l2Yield_an) (aq [0,1] spec_l2Yield_an)) ⟨mkE 29 0 [(0, dL x5242), (1, dI x5243)], []⟩ (spec_l2Yield_n1 (spec_l2Yield_fuel n) x5243) (fun (t : Int) => (Exit.normal, ⟨mkE 29 0 [(0, dL x5242), (1, dI x5243), (5, dI t)], []⟩)) := by
  refine Link.of fun K h => ?_
  simp only [spec_l2Yield_n1, wpO_bind, wpO_cond, wpO_map, wpO_some] at h
  exact Awp.of (by kernel_rfl) h

theorem spec_l2Yield_n2_l (n : Nat) (x5242 : List Int) (x5243 : Int) (x5274 : Int) : Link (spec_l2Yield_ctx n) LL (cq [0,0,1,1] (bodyOf Tryd.f67)) (aq [0,0,1,1] spec_l2Yield_an) ⟨mkE 29 0 [(0, dL x5242), (1, dI x5243), (5, dI x5274)], []⟩ (spec_l2Yield_n2 (spec_l2Yield_fuel n)) (fun (t : Unit) => (Exit.normal, ⟨mkE 29 0 [(0, dL x5242), (1, dI x5243), (5, dI x5274), (6, dI 0)], []⟩)) := by
  refine Link.of fun K h => ?_
  simp only [spec_l2Yield_n2, wpO_bind, wpO_cond, wpO_map, wpO_some] at h
  exact Awp.of (by kernel_rfl) h

theorem spec_l2Yield_n3_l (n : Nat) (x5242 : List Int) (x5243 : Int) (x5295 : Int) (x5296 : Int) : Link (spec_l2Yield_ctx n) LL (cq [0,0,1,0,1,1] (bodyOf Tryd.f67)) (aq [0,0,1,0,1,1] spec_l2Yield_an) ⟨mkE 29 0 [(0, dL x5242), (1, dI x5243), (5, dI x5295), (6, dI x5296)], []⟩ (spec_l2Yield_n3 (spec_l2Yield_fuel n) x5242 x5243 x5295 x5296) (Sum.elim (fun (t : Int × Int) => (Exit.normal, ⟨mkE 29 0 [(0, dL x5242), (1, dI x5243), (5, dI t.1), (6, dI t.2)], []⟩)) (fun (t : Int) => ((Exit.exit 0), ⟨mkE 29 0 [(5, dI t)], []⟩))) := by
  refine Link.of fun K h => ?_
  simp only [spec_l2Yield_n3, wpO_bind, wpO_cond, wpO_map, wpO_some] at h
  exact Awp.of (by kernel_rfl) h

def spec_l2Yield_n4_l (n : Nat) (x5242 : List Int) (x5243 : Int) (x5274 : Int) := (link_loop (mk := fun (s : Int × Int) => ⟨mkE 29 0 [(0, dL x5242), (1, dI x5243), (5, dI s.1), (6, dI s.2)], []⟩) (fin := (fun (t : Int) => ((Exit.exit 0), ⟨mkE 29 0 [(5, dI t)], []⟩))) (by
  rintro t f K h
  · exact h) (fun s => link_map (spec_l2Yield_n3_l n x5242 x5243 s.1 s.2) (Sum.elim (fun (t : Int × Int) => Sum.inl (t.1, t.2)) (fun (t : Int) => Sum.inr t)) (by
  rintro (t | t)
  · kernel_rfl
  · kernel_rfl)) (x5274, 0))

def spec_l2Yield_n5_l (n : Nat) (x5242 : List Int) (x5243 : Int) (x5274 : Int) := (link_block (fin2 := (fun (t : Int) => (Exit.normal, ⟨mkE 29 0 [(5, dI t)], []⟩))) (id := 0) (spec_l2Yield_n4_l n x5242 x5243 x5274) (fun (t : Int) => t) (by
  rintro t K h
  · exact Eq.mp (by kernel_rfl) h))

def spec_l2Yield_n6_l (n : Nat) (x5242 : List Int) (x5243 : Int) (x5274 : Int) := (link_seq (spec_l2Yield_n2_l n x5242 x5243 x5274) (fun (t : Unit) => (spec_l2Yield_n5_l n x5242 x5243 x5274)))

theorem spec_l2Yield_n7_l (n : Nat) (x5295 : Int) : Link (spec_l2Yield_ctx n) LL (cq [1,1,1] (bodyOf Tryd.f67)) (aq [1,1,1] spec_l2Yield_an) ⟨mkE 29 0 [(5, dI x5295)], []⟩ (spec_l2Yield_n7 (spec_l2Yield_fuel n) x5295) (fun (t : Int) => (Exit.ret, ⟨mkE 29 0 [(4, dI t)], []⟩)) := by
  refine Link.of fun K h => ?_
  simp only [spec_l2Yield_n7, wpO_bind, wpO_cond, wpO_map, wpO_some] at h
  exact Awp.of (by kernel_rfl) h

def spec_l2Yield_n8_l (n : Nat) (x5242 : List Int) (x5243 : Int) (x5274 : Int) := (link_seq (spec_l2Yield_n6_l n x5242 x5243 x5274) (fun (t : Int) => (spec_l2Yield_n7_l n t)))

def spec_l2Yield_n9_l (n : Nat) (x5242 : List Int) (x5243 : Int) := (link_group (c := (cq [0,1] (bodyOf Tryd.f67))) (a := (aq [0,1] spec_l2Yield_an)) [(cq [0] (bodyOf Tryd.f67))] [(aq [0] spec_l2Yield_an)] rfl (link_seq (spec_l2Yield_n1_l n x5242 x5243) (fun (t : Int) => (spec_l2Yield_n8_l n x5242 x5243 t))))

theorem spec_l2Yield_e (n : Nat) (x5242 : List Int) (x5243 : Int) {r : AV} {H' : Heap} (h : (Ans.mk _ (spec_l2Yield_fuel (n + 1) x5242 x5243) (fun (t : Int) => (dI t, [])) [] none).run = some (r, H')) : Awp (spec_l2Yield_ctx n) LL (bodyOf Tryd.f67) spec_l2Yield_an ⟨mkE 29 0 [(0, dL x5242), (1, dI x5243)], []⟩ (Ret (tlook tys) Tryd.f67.results.toList r H') :=
  ret_of' (Link.cast (by kernel_rfl) (by kernel_rfl) (spec_l2Yield_n9_l n x5242 x5243)) (by (show _ = _); kernel_rfl) (by
  intro t
  exact ret_mk [dI t] (by kernel_rfl) (by kernel_rfl) (by kernel_rfl) (by kernel_rfl)) h

theorem spec_l2Yield_step (n : Nat) (h67 : Sound Tryd.prog 67 (F_spec_l2Yield_fuel n)) : Sound Tryd.prog 67 (F_spec_l2Yield_fuel (n + 1)) := by
  refine fn_sound' (C := spec_l2Yield_ctx n) (c := bodyOf Tryd.f67) (cok_of tys_ok (allc h67 alln) (allc Tryd.call67 alln) (by kernel_rfl)) Tryd.func67 (by kernel_rfl) LL spec_l2Yield_an ?_
  intro avs H r H' h
  unfold F_spec_l2Yield_fuel at h
  split at h
  · refine Awp.cast ?_ ?_ ?_ (spec_l2Yield_e n _ _ h) <;> kernel_rfl
  · simp [Ans.no, Ans.run] at h

theorem spec_l2Yield_null : Sound Tryd.prog 67 (F_spec_l2Yield_fuel 0) := by
  intro avs H r H' h
  unfold F_spec_l2Yield_fuel at h
  split at h
  · simp [spec_l2Yield_fuel, spec_l2Yield_knot, Ans.run] at h
  · simp [Ans.no, Ans.run] at h

theorem spec_l2Yield_knot_all : ∀ n, Sound Tryd.prog 67 (F_spec_l2Yield_fuel n)
  | 0 => spec_l2Yield_null
  | n + 1 => by
    have h67 := spec_l2Yield_knot_all n
    exact spec_l2Yield_step n h67

def F_spec_l2Yield : Fun := fun avs H =>
  match avs, H with
  | [.dat (.list (.int .i64)) x5242, .dat (.int .i64) x5243], [] => ⟨_, spec_l2Yield x5242 x5243, fun (t : Int) => (dI t, []), [], none⟩
  | _, _ => Ans.no

theorem spec_l2Yield_sound : Sound Tryd.prog 67 F_spec_l2Yield := by
  have e : F_spec_l2Yield = F_spec_l2Yield_fuel RR := by
    funext avs H
    unfold F_spec_l2Yield F_spec_l2Yield_fuel
    split <;> first | rfl | (simp only [spec_l2Yield])
  rw [e]
  exact (spec_l2Yield_knot_all RR)


/-! loop.example/headtrees/spec.l3Row -/

def spec_l3Row_an : Ann := (.seq (.leaf [0]) (.seq (.block (.loop (.seq (.seq (.leaf [0, 5]) (.cond (.leaf [0]) (.leaf [0]))) (.block (.leaf [0]))))) (.seq (.leaf [2]) (.leaf [2]))))

noncomputable def spec_l3Row_ctx : Ctx := ⟨tlook tys, olook [], ioF, 0, false, []⟩

theorem spec_l3Row_n1_l (x5318 : Int) : Link spec_l3Row_ctx LL (cq [0] (bodyOf Tryd.f66)) (aq [0] spec_l3Row_an) ⟨mkE 13 0 [(0, dI x5318)], []⟩ (spec_l3Row_n1) (fun (t : Unit) => (Exit.normal, ⟨mkE 13 0 [(0, dI x5318)], []⟩)) := by
  refine Link.of fun K h => ?_
  simp only [spec_l3Row_n1, wpO_bind, wpO_cond, wpO_map, wpO_some] at h
  exact Awp.of (by kernel_rfl) h

theorem spec_l3Row_n2_l (x5324 : Int) : Link spec_l3Row_ctx LL (cq [0,0,0,1] (bodyOf Tryd.f66)) (aq [0,0,0,1] spec_l3Row_an) ⟨mkE 13 0 [(0, dI x5324)], []⟩ (spec_l3Row_n2 x5324) (Sum.elim (fun (t : Int) => (Exit.normal, ⟨mkE 13 0 [(0, dI t)], []⟩)) (fun (t : Int) => ((Exit.exit 0), ⟨mkE 13 0 [(0, dI t)], []⟩))) := by
  refine Link.of fun K h => ?_
  simp only [spec_l3Row_n2, wpO_bind, wpO_cond, wpO_map, wpO_some] at h
  exact Awp.of (by kernel_rfl) h

def spec_l3Row_n3_l (x5318 : Int) := (link_loop (mk := fun (s : Int) => ⟨mkE 13 0 [(0, dI s)], []⟩) (fin := (fun (t : Int) => ((Exit.exit 0), ⟨mkE 13 0 [(0, dI t)], []⟩))) (by
  rintro t f K h
  · exact h) (fun s => link_map (spec_l3Row_n2_l s) (Sum.elim (fun (t : Int) => Sum.inl t) (fun (t : Int) => Sum.inr t)) (by
  rintro (t | t)
  · kernel_rfl
  · kernel_rfl)) x5318)

def spec_l3Row_n4_l (x5318 : Int) := (link_block (fin2 := (fun (t : Int) => (Exit.normal, ⟨mkE 13 0 [(0, dI t)], []⟩))) (id := 0) (spec_l3Row_n3_l x5318) (fun (t : Int) => t) (by
  rintro t K h
  · exact Eq.mp (by kernel_rfl) h))

theorem spec_l3Row_n5_l (x5324 : Int) : Link spec_l3Row_ctx LL (cq [1,1] (bodyOf Tryd.f66)) (aq [1,1] spec_l3Row_an) ⟨mkE 13 0 [(0, dI x5324)], []⟩ (spec_l3Row_n5 x5324) (fun (t : Bool) => (Exit.ret, ⟨mkE 13 0 [(2, dB t)], []⟩)) := by
  refine Link.of fun K h => ?_
  simp only [spec_l3Row_n5, wpO_bind, wpO_cond, wpO_map, wpO_some] at h
  exact Awp.of (by kernel_rfl) h

def spec_l3Row_n6_l (x5318 : Int) := (link_seq (spec_l3Row_n4_l x5318) (fun (t : Int) => (spec_l3Row_n5_l t)))

def spec_l3Row_n7_l (x5318 : Int) := (link_seq (spec_l3Row_n1_l x5318) (fun (t : Unit) => (spec_l3Row_n6_l x5318)))

theorem spec_l3Row_e (x5318 : Int) {r : AV} {H' : Heap} (h : (Ans.mk _ (spec_l3Row x5318) (fun (t : Bool) => (dB t, [])) [] none).run = some (r, H')) : Awp spec_l3Row_ctx LL (bodyOf Tryd.f66) spec_l3Row_an ⟨mkE 13 0 [(0, dI x5318)], []⟩ (Ret (tlook tys) Tryd.f66.results.toList r H') :=
  ret_of' (Link.cast (by kernel_rfl) (by kernel_rfl) (spec_l3Row_n7_l x5318)) (by unfold spec_l3Row; kernel_rfl) (by
  intro t
  exact ret_mk [dB t] (by kernel_rfl) (by kernel_rfl) (by kernel_rfl) (by kernel_rfl)) h

def F_spec_l3Row : Fun := fun avs H =>
  match avs, H with
  | [.dat (.int .i64) x5318], [] => ⟨_, spec_l3Row x5318, fun (t : Bool) => (dB t, []), [], none⟩
  | _, _ => Ans.no

theorem spec_l3Row_sound : Sound Tryd.prog 66 F_spec_l3Row := by
  refine fn_sound' (C := spec_l3Row_ctx) (c := bodyOf Tryd.f66) (cok_of tys_ok (alln) (alln) (by kernel_rfl)) Tryd.func66 (by kernel_rfl) LL spec_l3Row_an ?_
  intro avs H r H' h
  unfold F_spec_l3Row at h
  split at h
  · refine Awp.cast ?_ ?_ ?_ (spec_l3Row_e _ h) <;> kernel_rfl
  · simp [Ans.no, Ans.run] at h


/-! loop.example/headtrees/spec.FlatOk -/

def spec_FlatOk_an : Ann := (.seq (.leaf [0]) (.seq (.seq (.leaf [0, 3]) (.block (.loop (.seq (.seq (.leaf [0, 3, 11]) (.cond (.leaf [0, 3]) (.leaf [0]))) (.seq (.block (.seq (.leaf [0, 3, 18]) (.cond (.seq (.leaf [2]) (.leaf [2])) (.leaf [0, 3])))) (.leaf [0, 3])))))) (.seq (.leaf [2]) (.leaf [2]))))

noncomputable def spec_FlatOk_ctx : Ctx := ⟨tlook tys, olook [(65, F_spec_TreeOk), (67, F_spec_l2Yield), (66, F_spec_l3Row)], ioF, 0, false, []⟩

theorem spec_FlatOk_n1_l (x5094 : List Int) : Link spec_FlatOk_ctx LL (cq [0] (bodyOf Tryd.f39)) (aq [0] spec_FlatOk_an) ⟨mkE 21 0 [(0, dL x5094)], []⟩ (spec_FlatOk_n1) (fun (t : Unit) => (Exit.normal, ⟨mkE 21 0 [(0, dL x5094)], []⟩)) := by
  refine Link.of fun K h => ?_
  simp only [spec_FlatOk_n1, wpO_bind, wpO_cond, wpO_map, wpO_some] at h
  exact Awp.of (by kernel_rfl) h

theorem spec_FlatOk_n2_l (x5094 : List Int) : Link spec_FlatOk_ctx LL (cq [0,0,1] (bodyOf Tryd.f39)) (aq [0,0,1] spec_FlatOk_an) ⟨mkE 21 0 [(0, dL x5094)], []⟩ (spec_FlatOk_n2) (fun (t : Unit) => (Exit.normal, ⟨mkE 21 0 [(0, dL x5094), (3, dI 1)], []⟩)) := by
  refine Link.of fun K h => ?_
  simp only [spec_FlatOk_n2, wpO_bind, wpO_cond, wpO_map, wpO_some] at h
  exact Awp.of (by kernel_rfl) h

theorem spec_FlatOk_n3_l (x5094 : List Int) (x5345 : Int) : Link spec_FlatOk_ctx LL (cq [0,0,1,0,1] (bodyOf Tryd.f39)) (aq [0,0,1,0,1] spec_FlatOk_an) ⟨mkE 21 0 [(0, dL x5094), (3, dI x5345)], []⟩ (spec_FlatOk_n3 x5094 x5345) (Sum.elim (fun (t : Int) => (Exit.normal, ⟨mkE 21 0 [(0, dL x5094), (3, dI t)], []⟩)) (Sum.elim (fun (t : Bool) => (Exit.ret, ⟨mkE 21 0 [(2, dB t)], []⟩)) (fun (t : Unit) => ((Exit.exit 0), ⟨mkE 21 0 [(0, dL x5094)], []⟩)))) := by
  refine Link.of fun K h => ?_
  simp only [spec_FlatOk_n3, wpO_bind, wpO_cond, wpO_map, wpO_some] at h
  exact Awp.of (by kernel_rfl) h

def spec_FlatOk_n4_l (x5094 : List Int) := (link_loop (mk := fun (s : Int) => ⟨mkE 21 0 [(0, dL x5094), (3, dI s)], []⟩) (fin := (Sum.elim (fun (t : Bool) => (Exit.ret, ⟨mkE 21 0 [(2, dB t)], []⟩)) (fun (t : Unit) => ((Exit.exit 0), ⟨mkE 21 0 [(0, dL x5094)], []⟩)))) (by
  rintro (t | t) f K h
  · exact h
  · exact h) (fun s => link_map (spec_FlatOk_n3_l x5094 s) (Sum.elim (fun (t : Int) => Sum.inl t) (Sum.elim (fun (t : Bool) => Sum.inr (Sum.inl t)) (fun (t : Unit) => Sum.inr (Sum.inr t)))) (by
  rintro (t | t | t)
  · kernel_rfl
  · kernel_rfl
  · kernel_rfl)) 1)

def spec_FlatOk_n5_l (x5094 : List Int) := (link_block (fin2 := (Sum.elim (fun (t : Unit) => (Exit.normal, ⟨mkE 21 0 [(0, dL x5094)], []⟩)) (fun (t : Bool) => (Exit.ret, ⟨mkE 21 0 [(2, dB t)], []⟩)))) (id := 0) (spec_FlatOk_n4_l x5094) (Sum.elim (fun (t : Bool) => (Sum.inr t)) (fun (t : Unit) => (Sum.inl ()))) (by
  rintro (t | t) K h
  · exact Eq.mp (by kernel_rfl) h
  · exact Eq.mp (by kernel_rfl) h))

def spec_FlatOk_n6_l (x5094 : List Int) := (link_seq (spec_FlatOk_n2_l x5094) (fun (t : Unit) => (spec_FlatOk_n5_l x5094)))

theorem spec_FlatOk_n7_l (x5094 : List Int) : Link spec_FlatOk_ctx LL (cq [1,1] (bodyOf Tryd.f39)) (aq [1,1] spec_FlatOk_an) ⟨mkE 21 0 [(0, dL x5094)], []⟩ (spec_FlatOk_n7 x5094) (fun (t : Bool) => (Exit.ret, ⟨mkE 21 0 [(2, dB t)], []⟩)) := by
  refine Link.of fun K h => ?_
  simp only [spec_FlatOk_n7, wpO_bind, wpO_cond, wpO_map, wpO_some] at h
  exact Awp.of (by kernel_rfl) h

def spec_FlatOk_n8_l (x5094 : List Int) := (link_seq2 (spec_FlatOk_n6_l x5094) (fun (t : Unit) => (spec_FlatOk_n7_l x5094)) (fun (t : Bool) => t) (by
  rintro t
  · kernel_rfl) (by
  rintro t f K h
  · exact h))

def spec_FlatOk_n9_l (x5094 : List Int) := (link_seq (spec_FlatOk_n1_l x5094) (fun (t : Unit) => (spec_FlatOk_n8_l x5094)))

theorem spec_FlatOk_e (x5094 : List Int) {r : AV} {H' : Heap} (h : (Ans.mk _ (spec_FlatOk x5094) (fun (t : Bool) => (dB t, [])) [] none).run = some (r, H')) : Awp spec_FlatOk_ctx LL (bodyOf Tryd.f39) spec_FlatOk_an ⟨mkE 21 0 [(0, dL x5094)], []⟩ (Ret (tlook tys) Tryd.f39.results.toList r H') :=
  ret_of' (Link.cast (by kernel_rfl) (by kernel_rfl) (spec_FlatOk_n9_l x5094)) (by unfold spec_FlatOk; kernel_rfl) (by
  intro t
  exact ret_mk [dB t] (by kernel_rfl) (by kernel_rfl) (by kernel_rfl) (by kernel_rfl)) h

def F_spec_FlatOk : Fun := fun avs H =>
  match avs, H with
  | [.dat (.list (.int .i64)) x5094], [] => ⟨_, spec_FlatOk x5094, fun (t : Bool) => (dB t, []), [], none⟩
  | _, _ => Ans.no

theorem spec_FlatOk_sound : Sound Tryd.prog 39 F_spec_FlatOk := by
  refine fn_sound' (C := spec_FlatOk_ctx) (c := bodyOf Tryd.f39) (cok_of tys_ok (allc spec_TreeOk_sound (allc spec_l2Yield_sound (allc spec_l3Row_sound alln))) (allc Tryd.call65 (allc Tryd.call67 (allc Tryd.call66 alln))) (by kernel_rfl)) Tryd.func39 (by kernel_rfl) LL spec_FlatOk_an ?_
  intro avs H r H' h
  unfold F_spec_FlatOk at h
  split at h
  · refine Awp.cast ?_ ?_ ?_ (spec_FlatOk_e _ h) <;> kernel_rfl
  · simp [Ans.no, Ans.run] at h


/-! loop.example/headtrees/spec.l7Rule -/

def spec_l7Rule_an : Ann := (.seq (.leaf [0, 1, 2]) (.seq (.leaf [0, 1, 2, 7]) (.seq (.seq (.leaf [0, 1, 2, 7, 14]) (.cond (.seq (.leaf [6]) (.leaf [6])) (.leaf [0, 1, 2, 7]))) (.seq (.leaf [0, 1, 2, 7, 8]) (.seq (.block (.seq (.leaf [0, 1, 2, 7, 8, 19]) (.cond (.seq (.leaf [6]) (.leaf [6])) (.seq (.leaf [0, 1, 2, 7, 27]) (.cond (.seq (.leaf [6]) (.leaf [6])) (.leaf [0, 1, 2, 7])))))) (.seq (.seq (.leaf [0, 1, 2, 7, 9]) (.block (.loop (.seq (.seq (.leaf [0, 1, 2, 7, 9, 37]) (.cond (.leaf [0, 1, 2, 7, 9]) (.leaf []))) (.seq (.block (.seq (.draw [] [0, 1, 2, 3, 4, 5, 6, 7, 8, 9, 10, 11, 12, 13, 14, 15, 16, 17, 18, 19, 20, 21] [] [0, 1, 2, 7, 9, 61]) (.cond (.seq (.leaf [6]) (.leaf [6])) (.leaf [0, 1, 2, 7, 9])))) (.leaf [0, 1, 2, 7, 9])))))) (.seq (.leaf [6]) (.leaf [6]))))))))

noncomputable def spec_l7Rule_ctx : Ctx := ⟨tlook tys, olook [], ioF, 0, false, []⟩

theorem spec_l7Rule_n1_l (x6596 : List Int) (x6597 : List Int) (x6598 : Int) : Link spec_l7Rule_ctx LL (Code.seq (cq [0] (bodyOf Tryd.f48)) (Code.seq (cq [0,1] (bodyOf Tryd.f48)) (Code.seq (cq [0,1,1] (bodyOf Tryd.f48)) (Code.seq (cq [0,1,1,1] (bodyOf Tryd.f48)) (cq [0,1,1,1,1] (bodyOf Tryd.f48)))))) (Ann.seq (aq [0] spec_l7Rule_an) (Ann.seq (aq [0,1] spec_l7Rule_an) (Ann.seq (aq [0,1,1] spec_l7Rule_an) (Ann.seq (aq [0,1,1,1] spec_l7Rule_an) (aq [0,1,1,1,1] spec_l7Rule_an))))) ⟨mkE 62 0 [(0, dL x6596), (1, dL x6597), (2, dI x6598)], []⟩ (spec_l7Rule_n1 x6596 x6597 x6598) (Sum.elim (fun (t : Int) => (Exit.normal, ⟨mkE 62 0 [(0, dL x6596), (1, dL x6597), (2, dI x6598), (7, dI t)], []⟩)) (fun (t : ByteArray) => (Exit.ret, ⟨mkE 62 0 [(6, dS t)], []⟩))) := by
  refine Link.of fun K h => ?_
  simp only [spec_l7Rule_n1, wpO_bind, wpO_cond, wpO_map, wpO_some] at h
  exact Awp.of (by kernel_rfl) h

theorem spec_l7Rule_n2_l (x6596 : List Int) (x6597 : List Int) (x6598 : Int) (x6609 : Int) : Link spec_l7Rule_ctx LL (cq [0,0,1,1,1,1,1] (bodyOf Tryd.f48)) (aq [0,0,1,1,1,1,1] spec_l7Rule_an) ⟨mkE 62 0 [(0, dL x6596), (1, dL x6597), (2, dI x6598), (7, dI x6609)], []⟩ (spec_l7Rule_n2) (fun (t : Unit) => (Exit.normal, ⟨mkE 62 0 [(0, dL x6596), (1, dL x6597), (2, dI x6598), (7, dI x6609), (9, dI 0)], []⟩)) := by
  refine Link.of fun K h => ?_
  simp only [spec_l7Rule_n2, wpO_bind, wpO_cond, wpO_map, wpO_some] at h
  exact Awp.of (by kernel_rfl) h

theorem spec_l7Rule_n3_l (x6596 : List Int) (x6597 : List Int) (x6598 : Int) (x6609 : Int) (x6639 : Int) : Link spec_l7Rule_ctx LL (cq [0,0,1,0,1,1,1,1,1] (bodyOf Tryd.f48)) (aq [0,0,1,0,1,1,1,1,1] spec_l7Rule_an) ⟨mkE 62 0 [(0, dL x6596), (1, dL x6597), (2, dI x6598), (7, dI x6609), (9, dI x6639)], []⟩ (spec_l7Rule_n3 x6596 x6597 x6598 x6609 x6639) (Sum.elim (fun (t : Int) => (Exit.normal, ⟨mkE 62 0 [(0, dL x6596), (1, dL x6597), (2, dI x6598), (7, dI x6609), (9, dI t)], []⟩)) (Sum.elim (fun (t : ByteArray) => (Exit.ret, ⟨mkE 62 0 [(6, dS t)], []⟩)) (fun (t : Unit) => ((Exit.exit 1), ⟨mkE 62 0 [], []⟩)))) := by
  refine Link.of fun K h => ?_
  simp only [spec_l7Rule_n3, wpO_bind, wpO_cond, wpO_map, wpO_some] at h
  exact Awp.of (by kernel_rfl) h

def spec_l7Rule_n4_l (x6596 : List Int) (x6597 : List Int) (x6598 : Int) (x6609 : Int) := (link_loop (mk := fun (s : Int) => ⟨mkE 62 0 [(0, dL x6596), (1, dL x6597), (2, dI x6598), (7, dI x6609), (9, dI s)], []⟩) (fin := (Sum.elim (fun (t : ByteArray) => (Exit.ret, ⟨mkE 62 0 [(6, dS t)], []⟩)) (fun (t : Unit) => ((Exit.exit 1), ⟨mkE 62 0 [], []⟩)))) (by
  rintro (t | t) f K h
  · exact h
  · exact h) (fun s => link_map (spec_l7Rule_n3_l x6596 x6597 x6598 x6609 s) (Sum.elim (fun (t : Int) => Sum.inl t) (Sum.elim (fun (t : ByteArray) => Sum.inr (Sum.inl t)) (fun (t : Unit) => Sum.inr (Sum.inr t)))) (by
  rintro (t | t | t)
  · kernel_rfl
  · kernel_rfl
  · kernel_rfl)) 0)

def spec_l7Rule_n5_l (x6596 : List Int) (x6597 : List Int) (x6598 : Int) (x6609 : Int) := (link_block (fin2 := (Sum.elim (fun (t : Unit) => (Exit.normal, ⟨mkE 62 0 [], []⟩)) (fun (t : ByteArray) => (Exit.ret, ⟨mkE 62 0 [(6, dS t)], []⟩)))) (id := 1) (spec_l7Rule_n4_l x6596 x6597 x6598 x6609) (Sum.elim (fun (t : ByteArray) => (Sum.inr t)) (fun (t : Unit) => (Sum.inl ()))) (by
  rintro (t | t) K h
  · exact Eq.mp (by kernel_rfl) h
  · exact Eq.mp (by kernel_rfl) h))

def spec_l7Rule_n6_l (x6596 : List Int) (x6597 : List Int) (x6598 : Int) (x6609 : Int) := (link_seq (spec_l7Rule_n2_l x6596 x6597 x6598 x6609) (fun (t : Unit) => (spec_l7Rule_n5_l x6596 x6597 x6598 x6609)))

theorem spec_l7Rule_n7_l : Link spec_l7Rule_ctx LL (cq [1,1,1,1,1,1] (bodyOf Tryd.f48)) (aq [1,1,1,1,1,1] spec_l7Rule_an) ⟨mkE 62 0 [], []⟩ (spec_l7Rule_n7) (fun (t : ByteArray) => (Exit.ret, ⟨mkE 62 0 [(6, dS t)], []⟩)) := by
  refine Link.of fun K h => ?_
  simp only [spec_l7Rule_n7, wpO_bind, wpO_cond, wpO_map, wpO_some] at h
  exact Awp.of (by kernel_rfl) h

def spec_l7Rule_n8_l (x6596 : List Int) (x6597 : List Int) (x6598 : Int) (x6609 : Int) := (link_seq2 (spec_l7Rule_n6_l x6596 x6597 x6598 x6609) (fun (t : Unit) => (spec_l7Rule_n7_l)) (fun (t : ByteArray) => t) (by
  rintro t
  · kernel_rfl) (by
  rintro t f K h
  · exact h))

def spec_l7Rule_n9_l (x6596 : List Int) (x6597 : List Int) (x6598 : Int) := (link_group (c := (cq [0,1,1,1,1] (bodyOf Tryd.f48))) (a := (aq [0,1,1,1,1] spec_l7Rule_an)) [(cq [0] (bodyOf Tryd.f48)), (cq [0,1] (bodyOf Tryd.f48)), (cq [0,1,1] (bodyOf Tryd.f48)), (cq [0,1,1,1] (bodyOf Tryd.f48))] [(aq [0] spec_l7Rule_an), (aq [0,1] spec_l7Rule_an), (aq [0,1,1] spec_l7Rule_an), (aq [0,1,1,1] spec_l7Rule_an)] rfl (link_seq2 (spec_l7Rule_n1_l x6596 x6597 x6598) (fun (t : Int) => (spec_l7Rule_n8_l x6596 x6597 x6598 t)) (fun (t : ByteArray) => t) (by
  rintro t
  · kernel_rfl) (by
  rintro t f K h
  · exact h)))

theorem spec_l7Rule_e (x6596 : List Int) (x6597 : List Int) (x6598 : Int) {r : AV} {H' : Heap} (h : (Ans.mk _ (spec_l7Rule x6596 x6597 x6598) (fun (t : ByteArray) => (dS t, [])) [] none).run = some (r, H')) : Awp spec_l7Rule_ctx LL (bodyOf Tryd.f48) spec_l7Rule_an ⟨mkE 62 0 [(0, dL x6596), (1, dL x6597), (2, dI x6598)], []⟩ (Ret (tlook tys) Tryd.f48.results.toList r H') :=
  ret_of' (Link.cast (by kernel_rfl) (by kernel_rfl) (spec_l7Rule_n9_l x6596 x6597 x6598)) (by unfold spec_l7Rule; kernel_rfl) (by
  intro t
  exact ret_mk [dS t] (by kernel_rfl) (by kernel_rfl) (by kernel_rfl) (by kernel_rfl)) h

def F_spec_l7Rule : Fun := fun avs H =>
  match avs, H with
  | [.dat (.list (.int .i64)) x6596, .dat (.list (.int .i64)) x6597, .dat (.int .i64) x6598], [] => ⟨_, spec_l7Rule x6596 x6597 x6598, fun (t : ByteArray) => (dS t, []), [], none⟩
  | _, _ => Ans.no

theorem spec_l7Rule_sound : Sound Tryd.prog 48 F_spec_l7Rule := by
  refine fn_sound' (C := spec_l7Rule_ctx) (c := bodyOf Tryd.f48) (cok_of tys_ok (alln) (alln) (by kernel_rfl)) Tryd.func48 (by kernel_rfl) LL spec_l7Rule_an ?_
  intro avs H r H' h
  unfold F_spec_l7Rule at h
  split at h
  · refine Awp.cast ?_ ?_ ?_ (spec_l7Rule_e _ _ _ h) <;> kernel_rfl
  · simp [Ans.no, Ans.run] at h


/-! loop.example/headtrees/spec.l7Step -/

def spec_l7Step_an : Ann := (.seq (.leaf [0, 1, 2, 3]) (.seq (.leaf [0, 1, 2, 3, 11]) (.seq (.block (.seq (.leaf [0, 1, 2, 3, 11, 15]) (.cond (.seq (.leaf [8, 9, 10]) (.leafF [⟨0, 8, false, none, none⟩] [8, 9, 10])) (.seq (.leaf [0, 1, 2, 3, 11, 32]) (.cond (.seq (.leaf [1, 2, 11]) (.seq (.leaf [8, 9, 10]) (.leafF [⟨0, 8, false, none, none⟩] [8, 9, 10]))) (.seq (.leaf [0, 1, 2, 3, 11, 70]) (.cond (.seq (.leaf [1, 2]) (.seq (.leaf [8, 9, 10]) (.leafF [⟨0, 8, false, none, none⟩] [8, 9, 10]))) (.seq (.leaf [1, 2, 11, 99]) (.cond (.seq (.leaf [8, 9, 10]) (.leafF [⟨0, 8, false, none, none⟩] [8, 9, 10])) (.leaf [1, 2])))))))))) (.seq (.leaf [8, 9, 10]) (.leaf [8, 9, 10])))))

noncomputable def spec_l7Step_ctx : Ctx := ⟨tlook tys, olook [], ioF, 1, false, []⟩

theorem spec_l7Step_n1_l (x6663 : List Int) (x6664 : Int) (x6665 : Int) (x6666 : List Int) : Link spec_l7Step_ctx LL (Code.seq (cq [0] (bodyOf Tryd.f46)) (cq [0,1] (bodyOf Tryd.f46))) (Ann.seq (aq [0] spec_l7Step_an) (aq [0,1] spec_l7Step_an)) ⟨mkE 125 0 [(0, .slc 0), (1, dL x6663), (2, dI x6664), (3, dU x6665)], [some (sI x6666)]⟩ (spec_l7Step_n1 x6663) (fun (t : Int) => (Exit.normal, ⟨mkE 125 0 [(0, .slc 0), (1, dL x6663), (2, dI x6664), (3, dU x6665), (11, dI t)], [some (sI x6666)]⟩)) := by
  refine Link.of fun K h => ?_
  simp only [spec_l7Step_n1, wpO_bind, wpO_cond, wpO_map, wpO_some] at h
  exact Awp.of (by kernel_rfl) h

theorem spec_l7Step_n2_l (x6663 : List Int) (x6664 : Int) (x6665 : Int) (x7195 : Int) (x6666 : List Int) : Link spec_l7Step_ctx LL (cq [0,0,0,1,1] (bodyOf Tryd.f46)) (aq [0,0,0,1,1] spec_l7Step_an) ⟨mkE 125 0 [(0, .slc 0), (1, dL x6663), (2, dI x6664), (3, dU x6665), (11, dI x7195)], [some (sI x6666)]⟩ (spec_l7Step_n2 x6664 x6665 x6666) (fun (t : Bool) => (Exit.normal, ⟨mkE 125 0 [(0, .slc 0), (1, dL x6663), (2, dI x6664), (3, dU x6665), (11, dI x7195), (15, dB t)], [some (sI x6666)]⟩)) := by
  refine Link.of fun K h => ?_
  simp only [spec_l7Step_n2, wpO_bind, wpO_cond, wpO_map, wpO_some] at h
  exact Awp.of (by kernel_rfl) h

theorem spec_l7Step_n3_l (x6663 : List Int) (x6664 : Int) (x6665 : Int) (x7195 : Int) (x7456 : Bool) (x6666 : List Int) : Link spec_l7Step_ctx LL (cq [0,1,0,0,1,1] (bodyOf Tryd.f46)) (aq [0,1,0,0,1,1] spec_l7Step_an) ⟨mkE 125 0 [(0, .slc 0), (1, dL x6663), (2, dI x6664), (3, dU x6665), (11, dI x7195), (15, dB x7456)], [some (sI x6666)]⟩ (spec_l7Step_n3 x6663 x6664 x6666) (fun (t : (List Int) × Int × Bool × (List Int)) => (Exit.ret, ⟨mkE 125 0 [(8, dL t.1), (9, dI t.2.1), (10, dB t.2.2.1)], [some (sI t.2.2.2)]⟩)) := by
  refine Link.of fun K h => ?_
  simp only [spec_l7Step_n3, wpO_bind, wpO_cond, wpO_map, wpO_some] at h
  exact Awp.of (by kernel_rfl) h

theorem spec_l7Step_n4_l (x6663 : List Int) (x6664 : Int) (x6665 : Int) (x7195 : Int) (x7456 : Bool) (x6666 : List Int) : Link spec_l7Step_ctx LL (cq [0,1,1,0,0,1,1] (bodyOf Tryd.f46)) (aq [0,1,1,0,0,1,1] spec_l7Step_an) ⟨mkE 125 0 [(0, .slc 0), (1, dL x6663), (2, dI x6664), (3, dU x6665), (11, dI x7195), (15, dB x7456)], [some (sI x6666)]⟩ (spec_l7Step_n4 x6663 x6664 x6665 x7195 x6666) (fun (t : Bool) => (Exit.normal, ⟨mkE 125 0 [(0, .slc 0), (1, dL x6663), (2, dI x6664), (3, dU x6665), (11, dI x7195), (32, dB t)], [some (sI x6666)]⟩)) := by
  refine Link.of fun K h => ?_
  simp only [spec_l7Step_n4, wpO_bind, wpO_cond, wpO_map, wpO_some] at h
  exact Awp.of (by kernel_rfl) h

theorem spec_l7Step_n5_l (x6663 : List Int) (x6664 : Int) (x6665 : Int) (x7195 : Int) (x7654 : Bool) (x6666 : List Int) : Link spec_l7Step_ctx LL (cq [1,1,1,0,0,1,1] (bodyOf Tryd.f46)) (aq [1,1,1,0,0,1,1] spec_l7Step_an) ⟨mkE 125 0 [(0, .slc 0), (1, dL x6663), (2, dI x6664), (3, dU x6665), (11, dI x7195), (32, dB x7654)], [some (sI x6666)]⟩ (spec_l7Step_n5 x6663 x6664 x6665 x7195 x7654 x6666) (Sum.elim (fun (t : Unit) => (Exit.normal, ⟨mkE 125 0 [(1, dL x6663), (2, dI x6664)], [some (sI x6666)]⟩)) (fun (t : (List Int) × Int × Bool × (List Int)) => (Exit.ret, ⟨mkE 125 0 [(8, dL t.1), (9, dI t.2.1), (10, dB t.2.2.1)], [some (sI t.2.2.2)]⟩))) := by
  refine Link.of fun K h => ?_
  simp only [spec_l7Step_n5, wpO_bind, wpO_cond, wpO_map, wpO_some] at h
  exact Awp.of (by kernel_rfl) h

def spec_l7Step_n6_l (x6663 : List Int) (x6664 : Int) (x6665 : Int) (x7195 : Int) (x7456 : Bool) (x6666 : List Int) := (link_seq (spec_l7Step_n4_l x6663 x6664 x6665 x7195 x7456 x6666) (fun (t : Bool) => (spec_l7Step_n5_l x6663 x6664 x6665 x7195 t x6666)))

def spec_l7Step_n7_l (x6663 : List Int) (x6664 : Int) (x6665 : Int) (x7195 : Int) (x7456 : Bool) (x6666 : List Int) := (link_cond (c := .tmp 15) (g := x7456) (by kernel_rfl) ((link_map (fin2 := (Sum.elim (fun (t : Unit) => (Exit.normal, ⟨mkE 125 0 [(1, dL x6663), (2, dI x6664)], [some (sI x6666)]⟩)) (fun (t : (List Int) × Int × Bool × (List Int)) => (Exit.ret, ⟨mkE 125 0 [(8, dL t.1), (9, dI t.2.1), (10, dB t.2.2.1)], [some (sI t.2.2.2)]⟩)))) (spec_l7Step_n3_l x6663 x6664 x6665 x7195 x7456 x6666) (fun (t : (List Int) × Int × Bool × (List Int)) => (Sum.inr t)) (by
  rintro t
  · kernel_rfl))) ((spec_l7Step_n6_l x6663 x6664 x6665 x7195 x7456 x6666)))

def spec_l7Step_n8_l (x6663 : List Int) (x6664 : Int) (x6665 : Int) (x7195 : Int) (x6666 : List Int) := (link_seq (spec_l7Step_n2_l x6663 x6664 x6665 x7195 x6666) (fun (t : Bool) => (spec_l7Step_n7_l x6663 x6664 x6665 x7195 t x6666)))

def spec_l7Step_n9_l (x6663 : List Int) (x6664 : Int) (x6665 : Int) (x7195 : Int) (x6666 : List Int) := (link_block (fin2 := (Sum.elim (fun (t : Unit) => (Exit.normal, ⟨mkE 125 0 [(1, dL x6663), (2, dI x6664)], [some (sI x6666)]⟩)) (fun (t : (List Int) × Int × Bool × (List Int)) => (Exit.ret, ⟨mkE 125 0 [(8, dL t.1), (9, dI t.2.1), (10, dB t.2.2.1)], [some (sI t.2.2.2)]⟩)))) (id := 0) (spec_l7Step_n8_l x6663 x6664 x6665 x7195 x6666) (Sum.elim (fun (t : Unit) => (Sum.inl ())) (fun (t : (List Int) × Int × Bool × (List Int)) => (Sum.inr t))) (by
  rintro (t | t) K h
  · exact Eq.mp (by kernel_rfl) h
  · exact Eq.mp (by kernel_rfl) h))

theorem spec_l7Step_n10_l (x6663 : List Int) (x6664 : Int) (x6666 : List Int) : Link spec_l7Step_ctx LL (cq [1,1,1] (bodyOf Tryd.f46)) (aq [1,1,1] spec_l7Step_an) ⟨mkE 125 0 [(1, dL x6663), (2, dI x6664)], [some (sI x6666)]⟩ (spec_l7Step_n10 x6663 x6664 x6666) (fun (t : (List Int) × Int × Bool × (List Int)) => (Exit.ret, ⟨mkE 125 0 [(8, dL t.1), (9, dI t.2.1), (10, dB t.2.2.1)], [some (sI t.2.2.2)]⟩)) := by
  refine Link.of fun K h => ?_
  simp only [spec_l7Step_n10, wpO_bind, wpO_cond, wpO_map, wpO_some] at h
  exact Awp.of (by kernel_rfl) h

def spec_l7Step_n11_l (x6663 : List Int) (x6664 : Int) (x6665 : Int) (x7195 : Int) (x6666 : List Int) := (link_seq2 (spec_l7Step_n9_l x6663 x6664 x6665 x7195 x6666) (fun (t : Unit) => (spec_l7Step_n10_l x6663 x6664 x6666)) (fun (t : (List Int) × Int × Bool × (List Int)) => t) (by
  rintro t
  · kernel_rfl) (by
  rintro t f K h
  · exact h))

def spec_l7Step_n12_l (x6663 : List Int) (x6664 : Int) (x6665 : Int) (x6666 : List Int) := (link_group (c := (cq [0,1] (bodyOf Tryd.f46))) (a := (aq [0,1] spec_l7Step_an)) [(cq [0] (bodyOf Tryd.f46))] [(aq [0] spec_l7Step_an)] rfl (link_seq (spec_l7Step_n1_l x6663 x6664 x6665 x6666) (fun (t : Int) => (spec_l7Step_n11_l x6663 x6664 x6665 t x6666))))

theorem spec_l7Step_e (x6663 : List Int) (x6664 : Int) (x6665 : Int) (x6666 : List Int) {r : AV} {H' : Heap} (h : (Ans.mk _ (spec_l7Step x6663 x6664 x6665 x6666) (fun (t : (List Int) × Int × Bool × (List Int)) => (.tup [dL t.1, dI t.2.1, dB t.2.2.1], [some (sI t.2.2.2)])) [] none).run = some (r, H')) : Awp spec_l7Step_ctx LL (bodyOf Tryd.f46) spec_l7Step_an ⟨mkE 125 0 [(0, .slc 0), (1, dL x6663), (2, dI x6664), (3, dU x6665)], [some (sI x6666)]⟩ (Ret (tlook tys) Tryd.f46.results.toList r H') :=
  ret_of' (Link.cast (by kernel_rfl) (by kernel_rfl) (spec_l7Step_n12_l x6663 x6664 x6665 x6666)) (by unfold spec_l7Step; kernel_rfl) (by
  intro t
  exact ret_mk [dL t.1, dI t.2.1, dB t.2.2.1] (by kernel_rfl) (by kernel_rfl) (by kernel_rfl) (by kernel_rfl)) h

def F_spec_l7Step : Fun := fun avs H =>
  match avs, H with
  | [.slc 0, .dat (.list (.int .i64)) x6663, .dat (.int .i64) x6664, .dat (.int .u8) x6665], [some (.seq (.int .i64) x6666)] => ⟨_, spec_l7Step x6663 x6664 x6665 x6666, fun (t : (List Int) × Int × Bool × (List Int)) => (.tup [dL t.1, dI t.2.1, dB t.2.2.1], [some (sI t.2.2.2)]), [], none⟩
  | _, _ => Ans.no

theorem spec_l7Step_sound : Sound Tryd.prog 46 F_spec_l7Step := by
  refine fn_sound' (C := spec_l7Step_ctx) (c := bodyOf Tryd.f46) (cok_of tys_ok (alln) (alln) (by kernel_rfl)) Tryd.func46 (by kernel_rfl) LL spec_l7Step_an ?_
  intro avs H r H' h
  unfold F_spec_l7Step at h
  split at h
  · refine Awp.cast ?_ ?_ ?_ (spec_l7Step_e _ _ _ _ h) <;> kernel_rfl
  · simp [Ans.no, Ans.run] at h


/-! loop.example/headtrees/spec.EagerFor -/

def spec_EagerFor_an : Ann := (.seq (.leaf [0]) (.seq (.seq (.leaf [0, 15]) (.cond (.seq (.leaf [2, 3]) (.leaf [2, 3])) (.leaf [0]))) (.seq (.leaf [0, 4]) (.seq (.seq (.leaf [0, 4, 5]) (.block (.loop (.seq (.seq (.leaf [0, 4, 5, 20]) (.cond (.leaf [0, 4, 5]) (.leaf [0, 4]))) (.seq (.block (.leaf [0, 4, 5])) (.leaf [0, 4, 5])))))) (.seq (.leaf [0, 4, 6]) (.seq (.leaf [0, 4, 6, 7]) (.seq (.leafF [⟨1, 6, false, none, none⟩] [0, 4, 6, 7, 8]) (.seq (.block (.loop (.seq (.seq (.leaf [0, 4, 6, 7, 8, 30]) (.cond (.leaf [0, 4, 6, 7, 8]) (.leaf [7]))) (.block (.seq (.leaf [0, 4, 6, 7, 8, 9]) (.seq (.leafF [⟨5, 37, false, none, none⟩] [0, 4, 7, 9, 10, 11, 12]) (.seq (.seq (.leaf [0, 4, 7, 9, 10, 11, 46]) (.cond (.seq (.leaf [2, 3]) (.leaf [2, 3])) (.leaf [0, 4, 7, 9, 10, 11]))) (.seq (.leaf [0, 4, 6, 7, 9, 11]) (.seq (.leaf [0, 4, 6, 7, 8, 9]) (.leaf [0, 4, 6, 7, 8])))))))))) (.seq (.leaf [2, 3]) (.leaf [2, 3]))))))))))

noncomputable def spec_EagerFor_ctx : Ctx := ⟨tlook tys, olook [(39, F_spec_FlatOk), (48, F_spec_l7Rule), (46, F_spec_l7Step)], ioF, 0, false, []⟩

theorem spec_EagerFor_n1_l (x6555 : List Int) : Link spec_EagerFor_ctx LL (Code.seq (cq [0] (bodyOf Tryd.f23)) (Code.seq (cq [0,1] (bodyOf Tryd.f23)) (cq [0,1,1] (bodyOf Tryd.f23)))) (Ann.seq (aq [0] spec_EagerFor_an) (Ann.seq (aq [0,1] spec_EagerFor_an) (aq [0,1,1] spec_EagerFor_an))) ⟨mkE 53 0 [(0, dL x6555)], []⟩ (spec_EagerFor_n1 x6555) (Sum.elim (fun (t : Unit) => (Exit.normal, ⟨mkE 53 0 [(0, dL x6555), (4, .slc 0)], [some (sI ([] : List Int))]⟩)) (fun (t : ByteArray × Bool) => (Exit.ret, ⟨mkE 53 0 [(2, dS t.1), (3, dB t.2)], []⟩))) := by
  refine Link.of fun K h => ?_
  simp only [spec_EagerFor_n1, wpO_bind, wpO_cond, wpO_map, wpO_some] at h
  exact Awp.of (by kernel_rfl) h

theorem spec_EagerFor_n2_l (x6555 : List Int) : Link spec_EagerFor_ctx LL (cq [0,0,1,1,1] (bodyOf Tryd.f23)) (aq [0,0,1,1,1] spec_EagerFor_an) ⟨mkE 53 0 [(0, dL x6555), (4, .slc 0)], [some (sI ([] : List Int))]⟩ (spec_EagerFor_n2) (fun (t : Unit) => (Exit.normal, ⟨mkE 53 0 [(0, dL x6555), (4, .slc 0), (5, dI 0)], [some (sI ([] : List Int))]⟩)) := by
  refine Link.of fun K h => ?_
  simp only [spec_EagerFor_n2, wpO_bind, wpO_cond, wpO_map, wpO_some] at h
  exact Awp.of (by kernel_rfl) h

theorem spec_EagerFor_n3_l (x6555 : List Int) (x7792 : Int) (x7793 : List Int) : Link spec_EagerFor_ctx LL (cq [0,0,1,0,1,1,1] (bodyOf Tryd.f23)) (aq [0,0,1,0,1,1,1] spec_EagerFor_an) ⟨mkE 53 0 [(0, dL x6555), (4, .slc 0), (5, dI x7792)], [some (sI x7793)]⟩ (spec_EagerFor_n3 x6555 x7792 x7793) (Sum.elim (fun (t : Int × (List Int)) => (Exit.normal, ⟨mkE 53 0 [(0, dL x6555), (4, .slc 0), (5, dI t.1)], [some (sI t.2)]⟩)) (fun (t : (List Int)) => ((Exit.exit 0), ⟨mkE 53 0 [(0, dL x6555), (4, .slc 0)], [some (sI t)]⟩))) := by
  refine Link.of fun K h => ?_
  simp only [spec_EagerFor_n3, wpO_bind, wpO_cond, wpO_map, wpO_some] at h
  exact Awp.of (by kernel_rfl) h

def spec_EagerFor_n4_l (x6555 : List Int) := (link_loop (mk := fun (s : Int × (List Int)) => ⟨mkE 53 0 [(0, dL x6555), (4, .slc 0), (5, dI s.1)], [some (sI s.2)]⟩) (fin := (fun (t : (List Int)) => ((Exit.exit 0), ⟨mkE 53 0 [(0, dL x6555), (4, .slc 0)], [some (sI t)]⟩))) (by
  rintro t f K h
  · exact h) (fun s => link_map (spec_EagerFor_n3_l x6555 s.1 s.2) (Sum.elim (fun (t : Int × (List Int)) => Sum.inl (t.1, t.2)) (fun (t : (List Int)) => Sum.inr t)) (by
  rintro (t | t)
  · kernel_rfl
  · kernel_rfl)) (0, ([] : List Int)))

def spec_EagerFor_n5_l (x6555 : List Int) := (link_block (fin2 := (fun (t : (List Int)) => (Exit.normal, ⟨mkE 53 0 [(0, dL x6555), (4, .slc 0)], [some (sI t)]⟩))) (id := 0) (spec_EagerFor_n4_l x6555) (fun (t : (List Int)) => t) (by
  rintro t K h
  · exact Eq.mp (by kernel_rfl) h))

def spec_EagerFor_n6_l (x6555 : List Int) := (link_seq (spec_EagerFor_n2_l x6555) (fun (t : Unit) => (spec_EagerFor_n5_l x6555)))

theorem spec_EagerFor_n7_l (x6555 : List Int) (x7793 : List Int) : Link spec_EagerFor_ctx LL (Code.seq (cq [0,1,1,1,1] (bodyOf Tryd.f23)) (Code.seq (cq [0,1,1,1,1,1] (bodyOf Tryd.f23)) (cq [0,1,1,1,1,1,1] (bodyOf Tryd.f23)))) (Ann.seq (aq [0,1,1,1,1] spec_EagerFor_an) (Ann.seq (aq [0,1,1,1,1,1] spec_EagerFor_an) (aq [0,1,1,1,1,1,1] spec_EagerFor_an))) ⟨mkE 53 0 [(0, dL x6555), (4, .slc 0)], [some (sI x7793)]⟩ (spec_EagerFor_n7) (fun (t : Unit) => (Exit.normal, ⟨mkE 53 0 [(0, dL x6555), (4, .slc 0), (6, dL ([] : List Int)), (7, dS ByteArray.empty), (8, dI 1)], [some (sI x7793)]⟩)) := by
  refine Link.of fun K h => ?_
  simp only [spec_EagerFor_n7, wpO_bind, wpO_cond, wpO_map, wpO_some] at h
  exact Awp.of (by kernel_rfl) h

theorem spec_EagerFor_n8_l (x6555 : List Int) (x7822 : List Int) (x7823 : ByteArray) (x7824 : Int) (x7825 : List Int) : Link spec_EagerFor_ctx LL (cq [0,0,0,1,1,1,1,1,1,1] (bodyOf Tryd.f23)) (aq [0,0,0,1,1,1,1,1,1,1] spec_EagerFor_an) ⟨mkE 53 0 [(0, dL x6555), (4, .slc 0), (6, dL x7822), (7, dS x7823), (8, dI x7824)], [some (sI x7825)]⟩ (spec_EagerFor_n8 x6555 x7822 x7823 x7824 x7825) (Sum.elim (fun (t : (List Int) × ByteArray × Int × (List Int)) => (Exit.normal, ⟨mkE 53 0 [(0, dL x6555), (4, .slc 0), (6, dL t.1), (7, dS t.2.1), (8, dI t.2.2.1)], [some (sI t.2.2.2)]⟩)) (Sum.elim (fun (t : ByteArray × Bool) => (Exit.ret, ⟨mkE 53 0 [(2, dS t.1), (3, dB t.2)], []⟩)) (fun (t : ByteArray) => ((Exit.exit 2), ⟨mkE 53 0 [(7, dS t)], []⟩)))) := by
  refine Link.of fun K h => ?_
  simp only [spec_EagerFor_n8, wpO_bind, wpO_cond, wpO_map, wpO_some] at h
  exact Awp.of (by kernel_rfl) h

def spec_EagerFor_n9_l (x6555 : List Int) (x7793 : List Int) := (link_loop (mk := fun (s : (List Int) × ByteArray × Int × (List Int)) => ⟨mkE 53 0 [(0, dL x6555), (4, .slc 0), (6, dL s.1), (7, dS s.2.1), (8, dI s.2.2.1)], [some (sI s.2.2.2)]⟩) (fin := (Sum.elim (fun (t : ByteArray × Bool) => (Exit.ret, ⟨mkE 53 0 [(2, dS t.1), (3, dB t.2)], []⟩)) (fun (t : ByteArray) => ((Exit.exit 2), ⟨mkE 53 0 [(7, dS t)], []⟩)))) (by
  rintro (t | t) f K h
  · exact h
  · exact h) (fun s => link_map (spec_EagerFor_n8_l x6555 s.1 s.2.1 s.2.2.1 s.2.2.2) (Sum.elim (fun (t : (List Int) × ByteArray × Int × (List Int)) => Sum.inl (t.1, t.2.1, t.2.2.1, t.2.2.2)) (Sum.elim (fun (t : ByteArray × Bool) => Sum.inr (Sum.inl t)) (fun (t : ByteArray) => Sum.inr (Sum.inr t)))) (by
  rintro (t | t | t)
  · kernel_rfl
  · kernel_rfl
  · kernel_rfl)) (([] : List Int), ByteArray.empty, 1, x7793))

def spec_EagerFor_n10_l (x6555 : List Int) (x7793 : List Int) := (link_block (fin2 := (Sum.elim (fun (t : ByteArray) => (Exit.normal, ⟨mkE 53 0 [(7, dS t)], []⟩)) (fun (t : ByteArray × Bool) => (Exit.ret, ⟨mkE 53 0 [(2, dS t.1), (3, dB t.2)], []⟩)))) (id := 2) (spec_EagerFor_n9_l x6555 x7793) (Sum.elim (fun (t : ByteArray × Bool) => (Sum.inr t)) (fun (t : ByteArray) => (Sum.inl t))) (by
  rintro (t | t) K h
  · exact Eq.mp (by kernel_rfl) h
  · exact Eq.mp (by kernel_rfl) h))

theorem spec_EagerFor_n11_l (x7823 : ByteArray) : Link spec_EagerFor_ctx LL (cq [1,1,1,1,1,1,1,1] (bodyOf Tryd.f23)) (aq [1,1,1,1,1,1,1,1] spec_EagerFor_an) ⟨mkE 53 0 [(7, dS x7823)], []⟩ (spec_EagerFor_n11 x7823) (fun (t : ByteArray × Bool) => (Exit.ret, ⟨mkE 53 0 [(2, dS t.1), (3, dB t.2)], []⟩)) := by
  refine Link.of fun K h => ?_
  simp only [spec_EagerFor_n11, wpO_bind, wpO_cond, wpO_map, wpO_some] at h
  exact Awp.of (by kernel_rfl) h

def spec_EagerFor_n12_l (x6555 : List Int) (x7793 : List Int) := (link_seq2 (spec_EagerFor_n10_l x6555 x7793) (fun (t : ByteArray) => (spec_EagerFor_n11_l t)) (fun (t : ByteArray × Bool) => t) (by
  rintro t
  · kernel_rfl) (by
  rintro t f K h
  · exact h))

def spec_EagerFor_n13_l (x6555 : List Int) (x7793 : List Int) := (link_group (c := (cq [0,1,1,1,1,1,1] (bodyOf Tryd.f23))) (a := (aq [0,1,1,1,1,1,1] spec_EagerFor_an)) [(cq [0,1,1,1,1] (bodyOf Tryd.f23)), (cq [0,1,1,1,1,1] (bodyOf Tryd.f23))] [(aq [0,1,1,1,1] spec_EagerFor_an), (aq [0,1,1,1,1,1] spec_EagerFor_an)] rfl (link_seq (spec_EagerFor_n7_l x6555 x7793) (fun (t : Unit) => (spec_EagerFor_n12_l x6555 x7793))))

def spec_EagerFor_n14_l (x6555 : List Int) := (link_seq (spec_EagerFor_n6_l x6555) (fun (t : (List Int)) => (spec_EagerFor_n13_l x6555 t)))

def spec_EagerFor_n15_l (x6555 : List Int) := (link_group (c := (cq [0,1,1] (bodyOf Tryd.f23))) (a := (aq [0,1,1] spec_EagerFor_an)) [(cq [0] (bodyOf Tryd.f23)), (cq [0,1] (bodyOf Tryd.f23))] [(aq [0] spec_EagerFor_an), (aq [0,1] spec_EagerFor_an)] rfl (link_seq2 (spec_EagerFor_n1_l x6555) (fun (t : Unit) => (spec_EagerFor_n14_l x6555)) (fun (t : ByteArray × Bool) => t) (by
  rintro t
  · kernel_rfl) (by
  rintro t f K h
  · exact h)))

theorem spec_EagerFor_e (x6555 : List Int) {r : AV} {H' : Heap} (h : (Ans.mk _ (spec_EagerFor x6555) (fun (t : ByteArray × Bool) => (.tup [dS t.1, dB t.2], [])) [] none).run = some (r, H')) : Awp spec_EagerFor_ctx LL (bodyOf Tryd.f23) spec_EagerFor_an ⟨mkE 53 0 [(0, dL x6555)], []⟩ (Ret (tlook tys) Tryd.f23.results.toList r H') :=
  ret_of' (Link.cast (by kernel_rfl) (by kernel_rfl) (spec_EagerFor_n15_l x6555)) (by unfold spec_EagerFor; kernel_rfl) (by
  intro t
  exact ret_mk [dS t.1, dB t.2] (by kernel_rfl) (by kernel_rfl) (by kernel_rfl) (by kernel_rfl)) h

def F_spec_EagerFor : Fun := fun avs H =>
  match avs, H with
  | [.dat (.list (.int .i64)) x6555], [] => ⟨_, spec_EagerFor x6555, fun (t : ByteArray × Bool) => (.tup [dS t.1, dB t.2], []), [], none⟩
  | _, _ => Ans.no

theorem spec_EagerFor_sound : Sound Tryd.prog 23 F_spec_EagerFor := by
  refine fn_sound' (C := spec_EagerFor_ctx) (c := bodyOf Tryd.f23) (cok_of tys_ok (allc spec_FlatOk_sound (allc spec_l7Rule_sound (allc spec_l7Step_sound alln))) (allc Tryd.call39 (allc Tryd.call48 (allc Tryd.call46 alln))) (by kernel_rfl)) Tryd.func23 (by kernel_rfl) LL spec_EagerFor_an ?_
  intro avs H r H' h
  unfold F_spec_EagerFor at h
  split at h
  · refine Awp.cast ?_ ?_ ?_ (spec_EagerFor_e _ h) <;> kernel_rfl
  · simp [Ans.no, Ans.run] at h


end Go.Rv
