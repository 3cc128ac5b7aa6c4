/-
  The checked code answers as the plain functions do; written by program. Conditions: none.
-/
import Derived.Test.YtiokdplogigiaaaGN
import Derived.Test.YtiokdplogigiaaaProg
set_option linter.unusedVariables false
set_option linter.unusedSimpArgs false
set_option maxRecDepth 100000
namespace Go.Rv
open Go.Proofs
theorem ty3 : TIOk Try.prog 3 ⟨.int .i64, 1, 8, some (.int .i64), [.int .i64 0]⟩ := ⟨⟨infoOf (Try.prog.info? 3), by kernel_rfl, by kernel_rfl, by kernel_rfl, .int .i64 0, by kernel_rfl, by kernel_rfl⟩, (by kernel_rfl : Try.prog.underlying 3 = some (.int .i64))⟩
theorem ty4 : TIOk Try.prog 4 ⟨.bool, 1, 1, some .bool, [.bool false]⟩ := ⟨⟨infoOf (Try.prog.info? 4), by kernel_rfl, by kernel_rfl, by kernel_rfl, .bool false, by kernel_rfl, by kernel_rfl⟩, (by kernel_rfl : Try.prog.underlying 4 = some .bool)⟩
theorem ty5 : TIOk Try.prog 5 ⟨.int .u8, 1, 1, some (.int .u8), [.int .u8 0]⟩ := ⟨⟨infoOf (Try.prog.info? 5), by kernel_rfl, by kernel_rfl, by kernel_rfl, .int .u8 0, by kernel_rfl, by kernel_rfl⟩, (by kernel_rfl : Try.prog.underlying 5 = some (.int .u8))⟩
theorem ty9 : TIOk Try.prog 9 ⟨.str, 1, 16, some .str, [.string ByteArray.empty]⟩ := ⟨⟨infoOf (Try.prog.info? 9), by kernel_rfl, by kernel_rfl, by kernel_rfl, .string ByteArray.empty, by kernel_rfl, by kernel_rfl⟩, (by kernel_rfl : Try.prog.underlying 9 = some .string)⟩
theorem ty22 : TIOk Try.prog 22 ⟨.slice 5, 1, 24, some (.list (.int .u8)), [.slice none 0 0]⟩ := ⟨⟨infoOf (Try.prog.info? 22), by kernel_rfl, by kernel_rfl, by kernel_rfl, .slice none 0 0, by kernel_rfl, by kernel_rfl⟩, (by kernel_rfl : Try.prog.underlying 22 = some (.slice 5))⟩
theorem ty28 : TIOk Try.prog 28 ⟨.slice 3, 1, 24, some (.list (.int .i64)), [.slice none 0 0]⟩ := ⟨⟨infoOf (Try.prog.info? 28), by kernel_rfl, by kernel_rfl, by kernel_rfl, .slice none 0 0, by kernel_rfl, by kernel_rfl⟩, (by kernel_rfl : Try.prog.underlying 28 = some (.slice 3))⟩
theorem ty38 : TIOk Try.prog 38 ⟨.strct [(0, 28), (1, 28), (2, 3), (3, 3)], 4, 64, some (.pair (.list (.int .i64)) (.pair (.list (.int .i64)) (.pair (.int .i64) (.pair (.int .i64) .unit)))), [.slice none 0 0, .slice none 0 0, .int .i64 0, .int .i64 0]⟩ := ⟨⟨infoOf (Try.prog.info? 38), by kernel_rfl, by kernel_rfl, by kernel_rfl, .agg #[.slice none 0 0, .slice none 0 0, .int .i64 0, .int .i64 0], by kernel_rfl, by kernel_rfl⟩, ⟨fieldsOf (Try.prog.underlying 38), by kernel_rfl, by kernel_rfl⟩⟩
theorem ty43 : TIOk Try.prog 43 ⟨.meths [("loop.example/headtrees/impl.putNext", 37)], 1, 8, none, [.pointer none]⟩ := ⟨⟨infoOf (Try.prog.info? 43), by kernel_rfl, by kernel_rfl, by kernel_rfl, .pointer none, by kernel_rfl, by kernel_rfl⟩, ⟨⟨51, by kernel_rfl⟩, by kernel_rfl⟩⟩
theorem ty46 : TIOk Try.prog 46 ⟨.map 5 62, 1, 8, none, [.map none]⟩ := ⟨⟨infoOf (Try.prog.info? 46), by kernel_rfl, by kernel_rfl, by kernel_rfl, .map none, by kernel_rfl, by kernel_rfl⟩, (by kernel_rfl : Try.prog.underlying 46 = some (.map 5 62))⟩
theorem ty49 : TIOk Try.prog 49 ⟨.int .u64, 1, 8, some (.int .u64), [.int .u64 0]⟩ := ⟨⟨infoOf (Try.prog.info? 49), by kernel_rfl, by kernel_rfl, by kernel_rfl, .int .u64 0, by kernel_rfl, by kernel_rfl⟩, (by kernel_rfl : Try.prog.underlying 49 = some (.int .u64))⟩
theorem ty51 : TIOk Try.prog 51 ⟨.strct [(0, 38), (4, 49)], 5, 72, some (.pair (.pair (.list (.int .i64)) (.pair (.list (.int .i64)) (.pair (.int .i64) (.pair (.int .i64) .unit)))) (.pair (.int .u64) .unit)), [.slice none 0 0, .slice none 0 0, .int .i64 0, .int .i64 0, .int .u64 0]⟩ := ⟨⟨infoOf (Try.prog.info? 51), by kernel_rfl, by kernel_rfl, by kernel_rfl, .agg #[.slice none 0 0, .slice none 0 0, .int .i64 0, .int .i64 0, .int .u64 0], by kernel_rfl, by kernel_rfl⟩, ⟨fieldsOf (Try.prog.underlying 51), by kernel_rfl, by kernel_rfl⟩⟩
theorem ty58 : TIOk Try.prog 58 ⟨.map 5 69, 1, 8, none, [.map none]⟩ := ⟨⟨infoOf (Try.prog.info? 58), by kernel_rfl, by kernel_rfl, by kernel_rfl, .map none, by kernel_rfl, by kernel_rfl⟩, (by kernel_rfl : Try.prog.underlying 58 = some (.map 5 69))⟩
theorem ty62 : TIOk Try.prog 62 ⟨.scalar, 1, 8, none, [.nilFunc]⟩ := ⟨⟨infoOf (Try.prog.info? 62), by kernel_rfl, by kernel_rfl, by kernel_rfl, .nilFunc, by kernel_rfl, by kernel_rfl⟩, ⟨descOf (Try.prog.underlying 62), by kernel_rfl, by kernel_rfl⟩⟩
theorem ty66 : TIOk Try.prog 66 ⟨.strct [(0, 22), (1, 3)], 2, 32, some (.pair (.list (.int .u8)) (.pair (.int .i64) .unit)), [.slice none 0 0, .int .i64 0]⟩ := ⟨⟨infoOf (Try.prog.info? 66), by kernel_rfl, by kernel_rfl, by kernel_rfl, .agg #[.slice none 0 0, .int .i64 0], by kernel_rfl, by kernel_rfl⟩, ⟨fieldsOf (Try.prog.underlying 66), by kernel_rfl, by kernel_rfl⟩⟩
theorem ty67 : TIOk Try.prog 67 ⟨.slice 9, 1, 24, some (.list .str), [.slice none 0 0]⟩ := ⟨⟨infoOf (Try.prog.info? 67), by kernel_rfl, by kernel_rfl, by kernel_rfl, .slice none 0 0, by kernel_rfl, by kernel_rfl⟩, (by kernel_rfl : Try.prog.underlying 67 = some (.slice 9))⟩
theorem ty69 : TIOk Try.prog 69 ⟨.scalar, 1, 8, none, [.nilFunc]⟩ := ⟨⟨infoOf (Try.prog.info? 69), by kernel_rfl, by kernel_rfl, by kernel_rfl, .nilFunc, by kernel_rfl, by kernel_rfl⟩, ⟨descOf (Try.prog.underlying 69), by kernel_rfl, by kernel_rfl⟩⟩
theorem ty72 : TIOk Try.prog 72 ⟨.strct [(0, 28), (1, 3), (2, 3)], 3, 40, some (.pair (.list (.int .i64)) (.pair (.int .i64) (.pair (.int .i64) .unit))), [.slice none 0 0, .int .i64 0, .int .i64 0]⟩ := ⟨⟨infoOf (Try.prog.info? 72), by kernel_rfl, by kernel_rfl, by kernel_rfl, .agg #[.slice none 0 0, .int .i64 0, .int .i64 0], by kernel_rfl, by kernel_rfl⟩, ⟨fieldsOf (Try.prog.underlying 72), by kernel_rfl, by kernel_rfl⟩⟩
theorem ty83 : TIOk Try.prog 83 ⟨.int .u64, 1, 8, some (.int .u64), [.int .u64 0]⟩ := ⟨⟨infoOf (Try.prog.info? 83), by kernel_rfl, by kernel_rfl, by kernel_rfl, .int .u64 0, by kernel_rfl, by kernel_rfl⟩, (by kernel_rfl : Try.prog.underlying 83 = some (.int .u64))⟩
def tys : List (TypeId × TI) := [(3, ⟨.int .i64, 1, 8, some (.int .i64), [.int .i64 0]⟩), (4, ⟨.bool, 1, 1, some .bool, [.bool false]⟩), (5, ⟨.int .u8, 1, 1, some (.int .u8), [.int .u8 0]⟩), (9, ⟨.str, 1, 16, some .str, [.string ByteArray.empty]⟩), (22, ⟨.slice 5, 1, 24, some (.list (.int .u8)), [.slice none 0 0]⟩), (28, ⟨.slice 3, 1, 24, some (.list (.int .i64)), [.slice none 0 0]⟩), (38, ⟨.strct [(0, 28), (1, 28), (2, 3), (3, 3)], 4, 64, some (.pair (.list (.int .i64)) (.pair (.list (.int .i64)) (.pair (.int .i64) (.pair (.int .i64) .unit)))), [.slice none 0 0, .slice none 0 0, .int .i64 0, .int .i64 0]⟩), (43, ⟨.meths [("loop.example/headtrees/impl.putNext", 37)], 1, 8, none, [.pointer none]⟩), (46, ⟨.map 5 62, 1, 8, none, [.map none]⟩), (49, ⟨.int .u64, 1, 8, some (.int .u64), [.int .u64 0]⟩), (51, ⟨.strct [(0, 38), (4, 49)], 5, 72, some (.pair (.pair (.list (.int .i64)) (.pair (.list (.int .i64)) (.pair (.int .i64) (.pair (.int .i64) .unit)))) (.pair (.int .u64) .unit)), [.slice none 0 0, .slice none 0 0, .int .i64 0, .int .i64 0, .int .u64 0]⟩), (58, ⟨.map 5 69, 1, 8, none, [.map none]⟩), (62, ⟨.scalar, 1, 8, none, [.nilFunc]⟩), (66, ⟨.strct [(0, 22), (1, 3)], 2, 32, some (.pair (.list (.int .u8)) (.pair (.int .i64) .unit)), [.slice none 0 0, .int .i64 0]⟩), (67, ⟨.slice 9, 1, 24, some (.list .str), [.slice none 0 0]⟩), (69, ⟨.scalar, 1, 8, none, [.nilFunc]⟩), (72, ⟨.strct [(0, 28), (1, 3), (2, 3)], 3, 40, some (.pair (.list (.int .i64)) (.pair (.int .i64) (.pair (.int .i64) .unit))), [.slice none 0 0, .int .i64 0, .int .i64 0]⟩), (83, ⟨.int .u64, 1, 8, some (.int .u64), [.int .u64 0]⟩)]
theorem tys_ok : TOk Try.prog (tlook tys) := tok_of (List.forall_mem_cons.2 ⟨ty3, List.forall_mem_cons.2 ⟨ty4, List.forall_mem_cons.2 ⟨ty5, List.forall_mem_cons.2 ⟨ty9, List.forall_mem_cons.2 ⟨ty22, List.forall_mem_cons.2 ⟨ty28, List.forall_mem_cons.2 ⟨ty38, List.forall_mem_cons.2 ⟨ty43, List.forall_mem_cons.2 ⟨ty46, List.forall_mem_cons.2 ⟨ty49, List.forall_mem_cons.2 ⟨ty51, List.forall_mem_cons.2 ⟨ty58, List.forall_mem_cons.2 ⟨ty62, List.forall_mem_cons.2 ⟨ty66, List.forall_mem_cons.2 ⟨ty67, List.forall_mem_cons.2 ⟨ty69, List.forall_mem_cons.2 ⟨ty72, List.forall_mem_cons.2 ⟨ty83, by simp⟩⟩⟩⟩⟩⟩⟩⟩⟩⟩⟩⟩⟩⟩⟩⟩⟩⟩)
def ioF (f : FuncId) (i : Nat) : Bool := [(14, 0), (23, 0)].any fun (p : Nat × Nat) => Nat.beq p.1 f && Nat.beq p.2 i


/-! loop.example/headtrees/spec.l20Open -/

def spec_l20Open_an : Ann := (.seq (.leaf [0]) (.seq (.seq (.leaf [0, 5]) (.cond (.leaf [0]) (.leaf [0]))) (.seq (.leaf [2]) (.leaf [2]))))

noncomputable def spec_l20Open_ctx : Ctx := ⟨tlook tys, olook [], ioF, 0, false, []⟩

theorem spec_l20Open_n1_l (x14 : List Int) : Link spec_l20Open_ctx LL (bodyOf Try.f28) spec_l20Open_an (⟨mkE 11 0 [(0, .dat (.list (.int .u8)) x14)], []⟩ : St) (spec_l20Open_n1 x14) (fun (t : (List Int)) => (Exit.ret, (⟨mkE 11 0 [(2, .ptr 0 0)], [some (.box [.dat (.list (.int .u8)) t, .dat (.int .i64) 0])]⟩ : St))) := by
  refine Link.of fun K h => ?_
  simp only [spec_l20Open_n1, wpO_bind, wpO_cond, wpO_map, wpO_some] at h
  exact Awp.of (by kernel_rfl) h

theorem spec_l20Open_e (x14 : List Int) {r : AV} {H' : Heap} (h : (Ans.mk _ (spec_l20Open x14) (fun (t : (List Int)) => (.ptr 0 0, [some (.box [.dat (.list (.int .u8)) t, .dat (.int .i64) 0])])) [] none).run = some (r, H')) : Awp spec_l20Open_ctx LL (bodyOf Try.f28) spec_l20Open_an (⟨mkE 11 0 [(0, .dat (.list (.int .u8)) x14)], []⟩ : St) (Ret (tlook tys) Try.f28.results.toList r H') :=
  ret_of' (spec_l20Open_n1_l x14) (by unfold spec_l20Open; kernel_rfl) (by
  intro t
  exact ret_mk [.ptr 0 0] (by kernel_rfl) (by kernel_rfl) (by kernel_rfl) (by kernel_rfl)) h

def F_spec_l20Open : Fun := fun avs H =>
  match avs, H with
  | [.dat (.list (.int .u8)) x14], [] => ⟨_, spec_l20Open x14, fun (t : (List Int)) => (.ptr 0 0, [some (.box [.dat (.list (.int .u8)) t, .dat (.int .i64) 0])]), [], none⟩
  | _, _ => Ans.no

theorem spec_l20Open_sound : Sound Try.prog 28 F_spec_l20Open := by
  refine fn_sound' (C := spec_l20Open_ctx) (c := bodyOf Try.f28) (cok_of tys_ok (by simp) (by simp) (by kernel_rfl)) Try.func28 (by kernel_rfl) LL spec_l20Open_an ?_
  intro avs H r H' h
  unfold F_spec_l20Open at h
  split at h
  · refine Awp.cast ?_ ?_ ?_ (spec_l20Open_e _ h) <;> kernel_rfl
  · simp [Ans.no, Ans.run] at h


/-! (*loop.example/headtrees/spec.l20Rd).pick -/

def spec_l20Rd_pick_an : Ann := (.seq (.leaf [0, 1]) (.seq (.leaf [0, 1]) (.seq (.seq (.leaf [0, 1, 24]) (.cond (.seq (.leaf [4]) (.leaf [4])) (.leaf [0, 1]))) (.seq (.leaf [0, 1, 5]) (.seq (.seq (.leaf [0, 1, 5, 36]) (.cond (.seq (.leaf [4]) (.leaf [4])) (.leaf [0, 1, 5]))) (.seq (.draw [] [0, 1, 2, 3, 4, 5, 6, 7, 8, 9, 10, 11, 12, 13, 14, 15, 16, 17, 18, 19, 20, 21, 22, 23, 24, 25, 26, 27, 28, 29, 30, 31, 32, 33, 34, 35, 36, 37, 38, 39, 40, 41, 42, 43, 44, 45] [] [1, 6]) (.seq (.leaf [1, 6]) (.seq (.leaf [4]) (.leaf [4])))))))))

noncomputable def spec_l20Rd_pick_ctx : Ctx := ⟨tlook tys, olook [], ioF, 1, false, []⟩

theorem spec_l20Rd_pick_n1_l (x36 : Int) (x37 : List Int) (x38 : Int) : Link spec_l20Rd_pick_ctx LL (bodyOf Try.f29) spec_l20Rd_pick_an (⟨mkE 99 0 [(0, .ptr 0 0), (1, .dat (.int .i64) x36)], [some (.box [.dat (.list (.int .u8)) x37, .dat (.int .i64) x38])]⟩ : St) (spec_l20Rd_pick_n1 x36 x37 x38) (fun (t : Int × Int) => (Exit.ret, (⟨mkE 99 0 [(4, .dat (.int .i64) t.1)], [some (.box [.dat (.list (.int .u8)) x37, .dat (.int .i64) t.2])]⟩ : St))) := by
  refine Link.of fun K h => ?_
  simp only [spec_l20Rd_pick_n1, wpO_bind, wpO_cond, wpO_map, wpO_some] at h
  exact Awp.of (by kernel_rfl) h

theorem spec_l20Rd_pick_e (x36 : Int) (x37 : List Int) (x38 : Int) {r : AV} {H' : Heap} (h : (Ans.mk _ (spec_l20Rd_pick x36 x37 x38) (fun (t : Int × Int) => (.dat (.int .i64) t.1, [some (.box [.dat (.list (.int .u8)) x37, .dat (.int .i64) t.2])])) [] none).run = some (r, H')) : Awp spec_l20Rd_pick_ctx LL (bodyOf Try.f29) spec_l20Rd_pick_an (⟨mkE 99 0 [(0, .ptr 0 0), (1, .dat (.int .i64) x36)], [some (.box [.dat (.list (.int .u8)) x37, .dat (.int .i64) x38])]⟩ : St) (Ret (tlook tys) Try.f29.results.toList r H') :=
  ret_of' (spec_l20Rd_pick_n1_l x36 x37 x38) (by unfold spec_l20Rd_pick; kernel_rfl) (by
  intro t
  exact ret_mk [.dat (.int .i64) t.1] (by kernel_rfl) (by kernel_rfl) (by kernel_rfl) (by kernel_rfl)) h

def F_spec_l20Rd_pick : Fun := fun avs H =>
  match avs, H with
  | [.ptr 0 0, .dat (.int .i64) x36], [some (.box [.dat (.list (.int .u8)) x37, .dat (.int .i64) x38])] => ⟨_, spec_l20Rd_pick x36 x37 x38, fun (t : Int × Int) => (.dat (.int .i64) t.1, [some (.box [.dat (.list (.int .u8)) x37, .dat (.int .i64) t.2])]), [], none⟩
  | _, _ => Ans.no

theorem spec_l20Rd_pick_sound : Sound Try.prog 29 F_spec_l20Rd_pick := by
  refine fn_sound' (C := spec_l20Rd_pick_ctx) (c := bodyOf Try.f29) (cok_of tys_ok (by simp) (by simp) (by kernel_rfl)) Try.func29 (by kernel_rfl) LL spec_l20Rd_pick_an ?_
  intro avs H r H' h
  unfold F_spec_l20Rd_pick at h
  split at h
  · refine Awp.cast ?_ ?_ ?_ (spec_l20Rd_pick_e _ _ _ h) <;> kernel_rfl
  · simp [Ans.no, Ans.run] at h


/-! (*loop.example/headtrees/spec.l20Rd).odd -/

def spec_l20Rd_odd_an : Ann := (.seq (.leaf [0, 1]) (.seq (.leaf [4]) (.leaf [4])))

noncomputable def spec_l20Rd_odd_ctx : Ctx := ⟨tlook tys, olook [(29, F_spec_l20Rd_pick)], ioF, 1, false, []⟩

theorem spec_l20Rd_odd_n1_l (x353 : Int) (x354 : List Int) (x355 : Int) : Link spec_l20Rd_odd_ctx LL (bodyOf Try.f42) spec_l20Rd_odd_an (⟨mkE 15 0 [(0, .ptr 0 0), (1, .dat (.int .i64) x353)], [some (.box [.dat (.list (.int .u8)) x354, .dat (.int .i64) x355])]⟩ : St) (spec_l20Rd_odd_n1 x353 x354 x355) (fun (t : Bool × Int) => (Exit.ret, (⟨mkE 15 0 [(4, .dat .bool t.1)], [some (.box [.dat (.list (.int .u8)) x354, .dat (.int .i64) t.2])]⟩ : St))) := by
  refine Link.of fun K h => ?_
  simp only [spec_l20Rd_odd_n1, wpO_bind, wpO_cond, wpO_map, wpO_some] at h
  exact Awp.of (by kernel_rfl) h

theorem spec_l20Rd_odd_e (x353 : Int) (x354 : List Int) (x355 : Int) {r : AV} {H' : Heap} (h : (Ans.mk _ (spec_l20Rd_odd x353 x354 x355) (fun (t : Bool × Int) => (.dat .bool t.1, [some (.box [.dat (.list (.int .u8)) x354, .dat (.int .i64) t.2])])) [] none).run = some (r, H')) : Awp spec_l20Rd_odd_ctx LL (bodyOf Try.f42) spec_l20Rd_odd_an (⟨mkE 15 0 [(0, .ptr 0 0), (1, .dat (.int .i64) x353)], [some (.box [.dat (.list (.int .u8)) x354, .dat (.int .i64) x355])]⟩ : St) (Ret (tlook tys) Try.f42.results.toList r H') :=
  ret_of' (spec_l20Rd_odd_n1_l x353 x354 x355) (by unfold spec_l20Rd_odd; kernel_rfl) (by
  intro t
  exact ret_mk [.dat .bool t.1] (by kernel_rfl) (by kernel_rfl) (by kernel_rfl) (by kernel_rfl)) h

def F_spec_l20Rd_odd : Fun := fun avs H =>
  match avs, H with
  | [.ptr 0 0, .dat (.int .i64) x353], [some (.box [.dat (.list (.int .u8)) x354, .dat (.int .i64) x355])] => ⟨_, spec_l20Rd_odd x353 x354 x355, fun (t : Bool × Int) => (.dat .bool t.1, [some (.box [.dat (.list (.int .u8)) x354, .dat (.int .i64) t.2])]), [], none⟩
  | _, _ => Ans.no

theorem spec_l20Rd_odd_sound : Sound Try.prog 42 F_spec_l20Rd_odd := by
  refine fn_sound' (C := spec_l20Rd_odd_ctx) (c := bodyOf Try.f42) (cok_of tys_ok (List.forall_mem_cons.2 ⟨spec_l20Rd_pick_sound, by simp⟩) (List.forall_mem_cons.2 ⟨Try.call29, by simp⟩) (by kernel_rfl)) Try.func42 (by kernel_rfl) LL spec_l20Rd_odd_an ?_
  intro avs H r H' h
  unfold F_spec_l20Rd_odd at h
  split at h
  · refine Awp.cast ?_ ?_ ?_ (spec_l20Rd_odd_e _ _ _ h) <;> kernel_rfl
  · simp [Ans.no, Ans.run] at h


/-! loop.example/headtrees/spec.l20Moves -/

def spec_l20Moves_an : Ann := (.seq (.leaf [0, 1]) (.seq (.leaf [0, 1, 5]) (.seq (.leaf [0, 1, 5, 6]) (.seq (.leaf [0, 5, 6, 7]) (.seq (.block (.loop (.seq (.seq (.leaf [0, 5, 6, 7, 15]) (.cond (.leaf [0, 5, 6, 7]) (.leaf [0, 5]))) (.block (.seq (.seq (.leaf [0, 5, 6, 7, 26]) (.cond (.seq (.leaf [0, 5, 6, 7]) (.seq (.leaf [0, 5, 6, 7]) (.seq (.leaf [0, 5, 6, 7]) (.leaf [0, 5, 6, 7])))) (.leaf [0, 5, 6, 7]))) (.seq (.leaf [0, 5, 6, 7]) (.leaf [0, 5, 6, 7]))))))) (.seq (.seq (.leaf [0, 5, 48]) (.cond (.seq (.leaf [0, 5, 8]) (.seq (.draw [3, 2, 12] [0, 1, 2, 3, 4, 9, 10, 11, 12, 5, 6, 7, 8, 13, 14] [] [4]) (.leaf [4]))) (.leaf [5]))) (.seq (.leaf [4]) (.leaf [4]))))))))

noncomputable def spec_l20Moves_ctx : Ctx := ⟨tlook tys, olook [(29, F_spec_l20Rd_pick), (42, F_spec_l20Rd_odd)], ioF, 1, false, []⟩

theorem spec_l20Moves_n1_l (x214 : Int) (x215 : List Int) (x216 : Int) : Link spec_l20Moves_ctx LL (Code.seq (Code.fst (bodyOf Try.f30)) (Code.seq (Code.fst (Code.snd (bodyOf Try.f30))) (Code.seq (Code.fst (Code.snd (Code.snd (bodyOf Try.f30)))) (Code.fst (Code.snd (Code.snd (Code.snd (bodyOf Try.f30)))))))) (Ann.seq (Ann.fst spec_l20Moves_an) (Ann.seq (Ann.fst (Ann.snd spec_l20Moves_an)) (Ann.seq (Ann.fst (Ann.snd (Ann.snd spec_l20Moves_an))) (Ann.fst (Ann.snd (Ann.snd (Ann.snd spec_l20Moves_an))))))) (⟨mkE 68 0 [(0, .ptr 0 0), (1, .dat (.int .i64) x214)], [some (.box [.dat (.list (.int .u8)) x215, .dat (.int .i64) x216])]⟩ : St) (spec_l20Moves_n1) (fun (t : Unit) => (Exit.normal, (⟨mkE 68 0 [(0, .ptr 0 0), (5, .dat .str ByteArray.empty), (6, .dat (.int .i64) 0), (7, .dat (.int .i64) x214)], [some (.box [.dat (.list (.int .u8)) x215, .dat (.int .i64) x216])]⟩ : St))) := by
  refine Link.of fun K h => ?_
  simp only [spec_l20Moves_n1, wpO_bind, wpO_cond, wpO_map, wpO_some] at h
  exact Awp.of (by kernel_rfl) h

theorem spec_l20Moves_n2_l (x735 : ByteArray) (x736 : Int) (x737 : Int) (x215 : List Int) (x738 : Int) : Link spec_l20Moves_ctx LL (Code.fst (Code.fst (Code.fst (Code.snd (Code.snd (Code.snd (Code.snd (bodyOf Try.f30)))))))) (Ann.fst (Ann.fst (Ann.fst (Ann.snd (Ann.snd (Ann.snd (Ann.snd spec_l20Moves_an))))))) (⟨mkE 68 0 [(0, .ptr 0 0), (5, .dat .str x735), (6, .dat (.int .i64) x736), (7, .dat (.int .i64) x737)], [some (.box [.dat (.list (.int .u8)) x215, .dat (.int .i64) x738])]⟩ : St) (spec_l20Moves_n2 x735 x736 x737 x215 x738) (Sum.elim (fun (t : ByteArray × Int × Int × Int) => (Exit.normal, (⟨mkE 68 0 [(0, .ptr 0 0), (5, .dat .str t.1), (6, .dat (.int .i64) t.2.1), (7, .dat (.int .i64) t.2.2.1)], [some (.box [.dat (.list (.int .u8)) x215, .dat (.int .i64) t.2.2.2])]⟩ : St))) (fun (t : ByteArray × Int) => ((Exit.exit 0), (⟨mkE 68 0 [(0, .ptr 0 0), (5, .dat .str t.1)], [some (.box [.dat (.list (.int .u8)) x215, .dat (.int .i64) t.2])]⟩ : St)))) := by
  refine Link.of fun K h => ?_
  simp only [spec_l20Moves_n2, wpO_bind, wpO_cond, wpO_map, wpO_some] at h
  exact Awp.of (by kernel_rfl) h

theorem spec_l20Moves_n3_l (x214 : Int) (x215 : List Int) (x216 : Int) : Link spec_l20Moves_ctx LL (Code.fst (Code.fst (Code.snd (Code.snd (Code.snd (Code.snd (bodyOf Try.f30))))))) (Ann.fst (Ann.fst (Ann.snd (Ann.snd (Ann.snd (Ann.snd spec_l20Moves_an)))))) (⟨mkE 68 0 [(0, .ptr 0 0), (5, .dat .str ByteArray.empty), (6, .dat (.int .i64) 0), (7, .dat (.int .i64) x214)], [some (.box [.dat (.list (.int .u8)) x215, .dat (.int .i64) x216])]⟩ : St) (spec_l20Moves_n3 x214 x215 x216) (fun (t : ByteArray × Int) => ((Exit.exit 0), (⟨mkE 68 0 [(0, .ptr 0 0), (5, .dat .str t.1)], [some (.box [.dat (.list (.int .u8)) x215, .dat (.int .i64) t.2])]⟩ : St))) := by
  unfold spec_l20Moves_n3
  exact Link.cast (by kernel_rfl) (by kernel_rfl) (link_loop (mk := fun (s : ByteArray × Int × Int × Int) => (⟨mkE 68 0 [(0, .ptr 0 0), (5, .dat .str s.1), (6, .dat (.int .i64) s.2.1), (7, .dat (.int .i64) s.2.2.1)], [some (.box [.dat (.list (.int .u8)) x215, .dat (.int .i64) s.2.2.2])]⟩ : St)) (fin := (fun (t : ByteArray × Int) => ((Exit.exit 0), (⟨mkE 68 0 [(0, .ptr 0 0), (5, .dat .str t.1)], [some (.box [.dat (.list (.int .u8)) x215, .dat (.int .i64) t.2])]⟩ : St)))) (by
  rintro t f K h
  · exact h) (fun s => link_map (spec_l20Moves_n2_l s.1 s.2.1 s.2.2.1 x215 s.2.2.2) (Sum.elim (fun (t : ByteArray × Int × Int × Int) => Sum.inl (t.1, t.2.1, t.2.2.1, t.2.2.2)) (fun (t : ByteArray × Int) => Sum.inr t)) (by
  rintro (t | t)
  · kernel_rfl
  · kernel_rfl)) (ByteArray.empty, 0, x214, x216))

theorem spec_l20Moves_n4_l (x214 : Int) (x215 : List Int) (x216 : Int) : Link spec_l20Moves_ctx LL (Code.fst (Code.snd (Code.snd (Code.snd (Code.snd (bodyOf Try.f30)))))) (Ann.fst (Ann.snd (Ann.snd (Ann.snd (Ann.snd spec_l20Moves_an))))) (⟨mkE 68 0 [(0, .ptr 0 0), (5, .dat .str ByteArray.empty), (6, .dat (.int .i64) 0), (7, .dat (.int .i64) x214)], [some (.box [.dat (.list (.int .u8)) x215, .dat (.int .i64) x216])]⟩ : St) (spec_l20Moves_n4 x214 x215 x216) (fun (t : ByteArray × Int) => (Exit.normal, (⟨mkE 68 0 [(0, .ptr 0 0), (5, .dat .str t.1)], [some (.box [.dat (.list (.int .u8)) x215, .dat (.int .i64) t.2])]⟩ : St))) := by
  unfold spec_l20Moves_n4
  exact Link.cast (by kernel_rfl) (by kernel_rfl) (link_block (id := 0) (spec_l20Moves_n3_l x214 x215 x216) (fun (t : ByteArray × Int) => (t.1, t.2)) (by
  rintro t K h
  · exact Eq.mp (by kernel_rfl) h))

theorem spec_l20Moves_n5_l (x735 : ByteArray) (x215 : List Int) (x738 : Int) : Link spec_l20Moves_ctx LL (Code.snd (Code.snd (Code.snd (Code.snd (Code.snd (bodyOf Try.f30)))))) (Ann.snd (Ann.snd (Ann.snd (Ann.snd (Ann.snd spec_l20Moves_an))))) (⟨mkE 68 0 [(0, .ptr 0 0), (5, .dat .str x735)], [some (.box [.dat (.list (.int .u8)) x215, .dat (.int .i64) x738])]⟩ : St) (spec_l20Moves_n5 x735 x215 x738) (fun (t : ByteArray × Int) => (Exit.ret, (⟨mkE 68 0 [(4, .dat .str t.1)], [some (.box [.dat (.list (.int .u8)) x215, .dat (.int .i64) t.2])]⟩ : St))) := by
  refine Link.of fun K h => ?_
  simp only [spec_l20Moves_n5, wpO_bind, wpO_cond, wpO_map, wpO_some] at h
  exact Awp.of (by kernel_rfl) h

theorem spec_l20Moves_n6_l (x214 : Int) (x215 : List Int) (x216 : Int) : Link spec_l20Moves_ctx LL (Code.snd (Code.snd (Code.snd (Code.snd (bodyOf Try.f30))))) (Ann.snd (Ann.snd (Ann.snd (Ann.snd spec_l20Moves_an)))) (⟨mkE 68 0 [(0, .ptr 0 0), (5, .dat .str ByteArray.empty), (6, .dat (.int .i64) 0), (7, .dat (.int .i64) x214)], [some (.box [.dat (.list (.int .u8)) x215, .dat (.int .i64) x216])]⟩ : St) (spec_l20Moves_n6 x214 x215 x216) (fun (t : ByteArray × Int) => (Exit.ret, (⟨mkE 68 0 [(4, .dat .str t.1)], [some (.box [.dat (.list (.int .u8)) x215, .dat (.int .i64) t.2])]⟩ : St))) := by
  unfold spec_l20Moves_n6
  exact Link.cast (by kernel_rfl) (by kernel_rfl) (link_seq (b := (Code.snd (Code.snd (Code.snd (Code.snd (Code.snd (bodyOf Try.f30))))))) (y := (Ann.snd (Ann.snd (Ann.snd (Ann.snd (Ann.snd spec_l20Moves_an)))))) (spec_l20Moves_n4_l x214 x215 x216) (fun (t : ByteArray × Int) => (spec_l20Moves_n5_l t.1 x215 t.2)))

theorem spec_l20Moves_n7_l (x214 : Int) (x215 : List Int) (x216 : Int) : Link spec_l20Moves_ctx LL (bodyOf Try.f30) spec_l20Moves_an (⟨mkE 68 0 [(0, .ptr 0 0), (1, .dat (.int .i64) x214)], [some (.box [.dat (.list (.int .u8)) x215, .dat (.int .i64) x216])]⟩ : St) (spec_l20Moves_n7 x214 x215 x216) (fun (t : ByteArray × Int) => (Exit.ret, (⟨mkE 68 0 [(4, .dat .str t.1)], [some (.box [.dat (.list (.int .u8)) x215, .dat (.int .i64) t.2])]⟩ : St))) := by
  unfold spec_l20Moves_n7
  exact Link.cast (by kernel_rfl) (by kernel_rfl) (link_group (c := (Code.fst (Code.snd (Code.snd (Code.snd (bodyOf Try.f30)))))) (a := (Ann.fst (Ann.snd (Ann.snd (Ann.snd spec_l20Moves_an))))) [(Code.fst (bodyOf Try.f30)), (Code.fst (Code.snd (bodyOf Try.f30))), (Code.fst (Code.snd (Code.snd (bodyOf Try.f30))))] [(Ann.fst spec_l20Moves_an), (Ann.fst (Ann.snd spec_l20Moves_an)), (Ann.fst (Ann.snd (Ann.snd spec_l20Moves_an)))] rfl (link_seq (b := (Code.snd (Code.snd (Code.snd (Code.snd (bodyOf Try.f30)))))) (y := (Ann.snd (Ann.snd (Ann.snd (Ann.snd spec_l20Moves_an))))) (spec_l20Moves_n1_l x214 x215 x216) (fun (t : Unit) => (spec_l20Moves_n6_l x214 x215 x216))))

theorem spec_l20Moves_e (x214 : Int) (x215 : List Int) (x216 : Int) {r : AV} {H' : Heap} (h : (Ans.mk _ (spec_l20Moves x214 x215 x216) (fun (t : ByteArray × Int) => (.dat .str t.1, [some (.box [.dat (.list (.int .u8)) x215, .dat (.int .i64) t.2])])) [] none).run = some (r, H')) : Awp spec_l20Moves_ctx LL (bodyOf Try.f30) spec_l20Moves_an (⟨mkE 68 0 [(0, .ptr 0 0), (1, .dat (.int .i64) x214)], [some (.box [.dat (.list (.int .u8)) x215, .dat (.int .i64) x216])]⟩ : St) (Ret (tlook tys) Try.f30.results.toList r H') :=
  ret_of' (spec_l20Moves_n7_l x214 x215 x216) (by unfold spec_l20Moves; kernel_rfl) (by
  intro t
  exact ret_mk [.dat .str t.1] (by kernel_rfl) (by kernel_rfl) (by kernel_rfl) (by kernel_rfl)) h

def F_spec_l20Moves : Fun := fun avs H =>
  match avs, H with
  | [.ptr 0 0, .dat (.int .i64) x214], [some (.box [.dat (.list (.int .u8)) x215, .dat (.int .i64) x216])] => ⟨_, spec_l20Moves x214 x215 x216, fun (t : ByteArray × Int) => (.dat .str t.1, [some (.box [.dat (.list (.int .u8)) x215, .dat (.int .i64) t.2])]), [], none⟩
  | _, _ => Ans.no

theorem spec_l20Moves_sound : Sound Try.prog 30 F_spec_l20Moves := by
  refine fn_sound' (C := spec_l20Moves_ctx) (c := bodyOf Try.f30) (cok_of tys_ok (List.forall_mem_cons.2 ⟨spec_l20Rd_pick_sound, List.forall_mem_cons.2 ⟨spec_l20Rd_odd_sound, by simp⟩⟩) (List.forall_mem_cons.2 ⟨Try.call29, List.forall_mem_cons.2 ⟨Try.call42, by simp⟩⟩) (by kernel_rfl)) Try.func30 (by kernel_rfl) LL spec_l20Moves_an ?_
  intro avs H r H' h
  unfold F_spec_l20Moves at h
  split at h
  · refine Awp.cast ?_ ?_ ?_ (spec_l20Moves_e _ _ _ h) <;> kernel_rfl
  · simp [Ans.no, Ans.run] at h


/-! loop.example/headtrees/spec.DrawRunStack -/

def spec_DrawRunStack_an : Ann := (.seq (.leaf [0]) (.seq (.leaf [4]) (.seq (.leaf [4, 5]) (.seq (.leaf [2, 3]) (.leaf [2, 3])))))

noncomputable def spec_DrawRunStack_ctx : Ctx := ⟨tlook tys, olook [(28, F_spec_l20Open), (29, F_spec_l20Rd_pick), (30, F_spec_l20Moves)], ioF, 0, false, []⟩

theorem spec_DrawRunStack_n1_l (x13 : List Int) : Link spec_DrawRunStack_ctx LL (bodyOf Try.f18) spec_DrawRunStack_an (⟨mkE 23 0 [(0, .dat (.list (.int .u8)) x13)], []⟩ : St) (spec_DrawRunStack_n1 x13) (fun (t : Int × ByteArray) => (Exit.ret, (⟨mkE 23 0 [(2, .dat (.int .i64) t.1), (3, .dat .str t.2)], []⟩ : St))) := by
  refine Link.of fun K h => ?_
  simp only [spec_DrawRunStack_n1, wpO_bind, wpO_cond, wpO_map, wpO_some] at h
  exact Awp.of (by kernel_rfl) h

theorem spec_DrawRunStack_e (x13 : List Int) {r : AV} {H' : Heap} (h : (Ans.mk _ (spec_DrawRunStack x13) (fun (t : Int × ByteArray) => (.tup [.dat (.int .i64) t.1, .dat .str t.2], [])) [] none).run = some (r, H')) : Awp spec_DrawRunStack_ctx LL (bodyOf Try.f18) spec_DrawRunStack_an (⟨mkE 23 0 [(0, .dat (.list (.int .u8)) x13)], []⟩ : St) (Ret (tlook tys) Try.f18.results.toList r H') :=
  ret_of' (spec_DrawRunStack_n1_l x13) (by unfold spec_DrawRunStack; kernel_rfl) (by
  intro t
  exact ret_mk [.dat (.int .i64) t.1, .dat .str t.2] (by kernel_rfl) (by kernel_rfl) (by kernel_rfl) (by kernel_rfl)) h

def F_spec_DrawRunStack : Fun := fun avs H =>
  match avs, H with
  | [.dat (.list (.int .u8)) x13], [] => ⟨_, spec_DrawRunStack x13, fun (t : Int × ByteArray) => (.tup [.dat (.int .i64) t.1, .dat .str t.2], []), [], none⟩
  | _, _ => Ans.no

theorem spec_DrawRunStack_sound : Sound Try.prog 18 F_spec_DrawRunStack := by
  refine fn_sound' (C := spec_DrawRunStack_ctx) (c := bodyOf Try.f18) (cok_of tys_ok (List.forall_mem_cons.2 ⟨spec_l20Open_sound, List.forall_mem_cons.2 ⟨spec_l20Rd_pick_sound, List.forall_mem_cons.2 ⟨spec_l20Moves_sound, by simp⟩⟩⟩) (List.forall_mem_cons.2 ⟨Try.call28, List.forall_mem_cons.2 ⟨Try.call29, List.forall_mem_cons.2 ⟨Try.call30, by simp⟩⟩⟩) (by kernel_rfl)) Try.func18 (by kernel_rfl) LL spec_DrawRunStack_an ?_
  intro avs H r H' h
  unfold F_spec_DrawRunStack at h
  split at h
  · refine Awp.cast ?_ ?_ ?_ (spec_DrawRunStack_e _ h) <;> kernel_rfl
  · simp [Ans.no, Ans.run] at h


/-! loop.example/headtrees/spec.DrawDeepestStack -/

def spec_DrawDeepestStack_an : Ann := (.seq (.leaf [0]) (.seq (.leaf [2, 3]) (.leaf [2, 3])))

noncomputable def spec_DrawDeepestStack_ctx : Ctx := ⟨tlook tys, olook [(18, F_spec_DrawRunStack)], ioF, 0, false, []⟩

theorem spec_DrawDeepestStack_n1_l (x10 : List Int) : Link spec_DrawDeepestStack_ctx LL (bodyOf Try.f7) spec_DrawDeepestStack_an (⟨mkE 8 0 [(0, .dat (.list (.int .u8)) x10)], []⟩ : St) (spec_DrawDeepestStack_n1 x10) (fun (t : Int × ByteArray) => (Exit.ret, (⟨mkE 8 0 [(2, .dat (.int .i64) t.1), (3, .dat .str t.2)], []⟩ : St))) := by
  refine Link.of fun K h => ?_
  simp only [spec_DrawDeepestStack_n1, wpO_bind, wpO_cond, wpO_map, wpO_some] at h
  exact Awp.of (by kernel_rfl) h

theorem spec_DrawDeepestStack_e (x10 : List Int) {r : AV} {H' : Heap} (h : (Ans.mk _ (spec_DrawDeepestStack x10) (fun (t : Int × ByteArray) => (.tup [.dat (.int .i64) t.1, .dat .str t.2], [])) [] none).run = some (r, H')) : Awp spec_DrawDeepestStack_ctx LL (bodyOf Try.f7) spec_DrawDeepestStack_an (⟨mkE 8 0 [(0, .dat (.list (.int .u8)) x10)], []⟩ : St) (Ret (tlook tys) Try.f7.results.toList r H') :=
  ret_of' (spec_DrawDeepestStack_n1_l x10) (by unfold spec_DrawDeepestStack; kernel_rfl) (by
  intro t
  exact ret_mk [.dat (.int .i64) t.1, .dat .str t.2] (by kernel_rfl) (by kernel_rfl) (by kernel_rfl) (by kernel_rfl)) h

def F_spec_DrawDeepestStack : Fun := fun avs H =>
  match avs, H with
  | [.dat (.list (.int .u8)) x10], [] => ⟨_, spec_DrawDeepestStack x10, fun (t : Int × ByteArray) => (.tup [.dat (.int .i64) t.1, .dat .str t.2], []), [], none⟩
  | _, _ => Ans.no

theorem spec_DrawDeepestStack_sound : Sound Try.prog 7 F_spec_DrawDeepestStack := by
  refine fn_sound' (C := spec_DrawDeepestStack_ctx) (c := bodyOf Try.f7) (cok_of tys_ok (List.forall_mem_cons.2 ⟨spec_DrawRunStack_sound, by simp⟩) (List.forall_mem_cons.2 ⟨Try.call18, by simp⟩) (by kernel_rfl)) Try.func7 (by kernel_rfl) LL spec_DrawDeepestStack_an ?_
  intro avs H r H' h
  unfold F_spec_DrawDeepestStack at h
  split at h
  · refine Awp.cast ?_ ?_ ?_ (spec_DrawDeepestStack_e _ h) <;> kernel_rfl
  · simp [Ans.no, Ans.run] at h


/-! loop.example/headtrees/impl.newStackMachine -/

def impl_newStackMachine_an : Ann := (.seq (.leaf [0]) (.seq (.leaf [2]) (.leaf [2])))

noncomputable def impl_newStackMachine_ctx : Ctx := ⟨tlook tys, olook [], ioF, 0, false, []⟩

theorem impl_newStackMachine_n1_l (x917 : Int) : Link impl_newStackMachine_ctx LL (bodyOf Try.f31) impl_newStackMachine_an (⟨mkE 7 0 [(0, .dat (.int .i64) x917)], []⟩ : St) (impl_newStackMachine_n1 x917) (fun (t : (List Int)) => (Exit.ret, (⟨mkE 7 0 [(2, .ptr 0 0)], [some (.box [.slc 1, .nils, .dat (.int .i64) 0, .dat (.int .i64) 0]), some (.seq (.int .i64) t)]⟩ : St))) := by
  refine Link.of fun K h => ?_
  simp only [impl_newStackMachine_n1, wpO_bind, wpO_cond, wpO_map, wpO_some] at h
  exact Awp.of (by kernel_rfl) h

theorem impl_newStackMachine_e (x917 : Int) {r : AV} {H' : Heap} (h : (Ans.mk _ (impl_newStackMachine x917) (fun (t : (List Int)) => (.ptr 0 0, [some (.box [.slc 1, .nils, .dat (.int .i64) 0, .dat (.int .i64) 0]), some (.seq (.int .i64) t)])) [] none).run = some (r, H')) : Awp impl_newStackMachine_ctx LL (bodyOf Try.f31) impl_newStackMachine_an (⟨mkE 7 0 [(0, .dat (.int .i64) x917)], []⟩ : St) (Ret (tlook tys) Try.f31.results.toList r H') :=
  ret_of' (impl_newStackMachine_n1_l x917) (by unfold impl_newStackMachine; kernel_rfl) (by
  intro t
  exact ret_mk [.ptr 0 0] (by kernel_rfl) (by kernel_rfl) (by kernel_rfl) (by kernel_rfl)) h

def F_impl_newStackMachine : Fun := fun avs H =>
  match avs, H with
  | [.dat (.int .i64) x917], [] => ⟨_, impl_newStackMachine x917, fun (t : (List Int)) => (.ptr 0 0, [some (.box [.slc 1, .nils, .dat (.int .i64) 0, .dat (.int .i64) 0]), some (.seq (.int .i64) t)]), [], none⟩
  | _, _ => Ans.no

theorem impl_newStackMachine_sound : Sound Try.prog 31 F_impl_newStackMachine := by
  refine fn_sound' (C := impl_newStackMachine_ctx) (c := bodyOf Try.f31) (cok_of tys_ok (by simp) (by simp) (by kernel_rfl)) Try.func31 (by kernel_rfl) LL impl_newStackMachine_an ?_
  intro avs H r H' h
  unfold F_impl_newStackMachine at h
  split at h
  · refine Awp.cast ?_ ?_ ?_ (impl_newStackMachine_e _ h) <;> kernel_rfl
  · simp [Ans.no, Ans.run] at h


/-! loop.example/headtrees/impl.stackMoves -/

def F_impl_stackMoves : Fun := F_map [(.int .u8 83, .func 37), (.int .u8 76, .func 43), (.int .u8 82, .func 44)]

theorem impl_stackMoves_sound : Sound Try.prog 33 F_impl_stackMoves :=
  mapfn_sound (mt := 58) (kt := 5) (et := 69) (d := .int .u8) Try.func33 (by kernel_rfl) (by kernel_rfl) (by kernel_rfl) (by kernel_rfl) (by kernel_rfl)


/-! (*loop.example/headtrees/impl.stackMachine).putNext -/

def impl_stackMachine_putNext_an : Ann := (.seq (.leaf [0]) (.seq (.seq (.draw [] [0, 1, 2, 3, 4, 5, 6, 7, 8, 9] [] [0, 12]) (.cond (.seq (.leaf [2]) (.leaf [2])) (.leaf [0]))) (.seq (.leaf [0]) (.seq (.draw [] [0, 1, 2, 3, 4, 5, 6, 7, 8, 9, 10, 11, 12, 13] [] [0]) (.seq (.draw [] [0, 1, 2, 3, 4, 5, 6, 7, 8, 9, 10, 11, 12, 13] [] []) (.seq (.leaf [2]) (.leaf [2])))))))

noncomputable def impl_stackMachine_putNext_ctx : Ctx := ⟨tlook tys, olook [], ioF, 3, false, [2]⟩

theorem impl_stackMachine_putNext_n1_l (x1211 : Int) (x1212 : Int) (x1213 : List Int) (x1214 : List Int) : Link impl_stackMachine_putNext_ctx LL (bodyOf Try.f37) impl_stackMachine_putNext_an (⟨mkE 46 0 [(0, .ptr 0 0)], [some (.box [.slc 1, .slc 2, .dat (.int .i64) x1211, .dat (.int .i64) x1212]), some (.seq (.int .i64) x1213), some (.seq (.int .i64) x1214)]⟩ : St) (impl_stackMachine_putNext_n1 x1211 x1212 x1213 x1214) (fun (t : Bool × Int × Int × (List Int)) => (Exit.ret, (⟨mkE 46 0 [(2, .dat .bool t.1)], [some (.box [.slc 1, .slc 2, .dat (.int .i64) t.2.1, .dat (.int .i64) t.2.2.1]), some (.seq (.int .i64) x1213), some (.seq (.int .i64) t.2.2.2)]⟩ : St))) := by
  refine Link.of fun K h => ?_
  simp only [impl_stackMachine_putNext_n1, wpO_bind, wpO_cond, wpO_map, wpO_some] at h
  exact Awp.of (by kernel_rfl) h

theorem impl_stackMachine_putNext_e (x1211 : Int) (x1212 : Int) (x1213 : List Int) (x1214 : List Int) {r : AV} {H' : Heap} (h : (Ans.mk _ (impl_stackMachine_putNext x1211 x1212 x1213 x1214) (fun (t : Bool × Int × Int × (List Int)) => (.dat .bool t.1, [some (.box [.slc 1, .slc 2, .dat (.int .i64) t.2.1, .dat (.int .i64) t.2.2.1]), some (.seq (.int .i64) x1213), some (.seq (.int .i64) t.2.2.2)])) [2] none).run = some (r, H')) : Awp impl_stackMachine_putNext_ctx LL (bodyOf Try.f37) impl_stackMachine_putNext_an (⟨mkE 46 0 [(0, .ptr 0 0)], [some (.box [.slc 1, .slc 2, .dat (.int .i64) x1211, .dat (.int .i64) x1212]), some (.seq (.int .i64) x1213), some (.seq (.int .i64) x1214)]⟩ : St) (Ret (tlook tys) Try.f37.results.toList r H') :=
  ret_of' (impl_stackMachine_putNext_n1_l x1211 x1212 x1213 x1214) (by unfold impl_stackMachine_putNext; kernel_rfl) (by
  intro t
  exact ret_mk [.dat .bool t.1] (by kernel_rfl) (by kernel_rfl) (by kernel_rfl) (by kernel_rfl)) h

def F_impl_stackMachine_putNext : Fun := fun avs H =>
  match avs, H with
  | [.ptr 0 0], [some (.box [.slc 1, .slc 2, .dat (.int .i64) x1211, .dat (.int .i64) x1212]), some (.seq (.int .i64) x1213), some (.seq (.int .i64) x1214)] => ⟨_, impl_stackMachine_putNext x1211 x1212 x1213 x1214, fun (t : Bool × Int × Int × (List Int)) => (.dat .bool t.1, [some (.box [.slc 1, .slc 2, .dat (.int .i64) t.2.1, .dat (.int .i64) t.2.2.1]), some (.seq (.int .i64) x1213), some (.seq (.int .i64) t.2.2.2)]), [2], none⟩
  | _, _ => Ans.no

theorem impl_stackMachine_putNext_sound : Sound Try.prog 37 F_impl_stackMachine_putNext := by
  refine fn_sound' (C := impl_stackMachine_putNext_ctx) (c := bodyOf Try.f37) (cok_of tys_ok (by simp) (by simp) (by kernel_rfl)) Try.func37 (by kernel_rfl) LL impl_stackMachine_putNext_an ?_
  intro avs H r H' h
  unfold F_impl_stackMachine_putNext at h
  split at h
  · refine Awp.cast ?_ ?_ ?_ (impl_stackMachine_putNext_e _ _ _ _ h) <;> kernel_rfl
  · simp [Ans.no, Ans.run] at h


/-! (*loop.example/headtrees/impl.stackMachine).upperTwo -/

def impl_stackMachine_upperTwo_an : Ann := (.seq (.leaf [0]) (.seq (.leaf [0, 5]) (.seq (.seq (.leaf [0, 5, 12]) (.cond (.seq (.leaf [2, 3, 4]) (.leaf [2, 3, 4])) (.leaf [0, 5]))) (.seq (.draw [] [0, 1, 2, 3, 4, 5, 6, 7, 8, 9, 10, 11, 12, 13, 14, 15, 16, 17, 18] [] [2, 3, 4]) (.leaf [2, 3, 4])))))

noncomputable def impl_stackMachine_upperTwo_ctx : Ctx := ⟨tlook tys, olook [], ioF, 3, false, []⟩

theorem impl_stackMachine_upperTwo_n1_l (x1055 : Int) (x1056 : Int) (x1057 : List Int) (x1058 : List Int) : Link impl_stackMachine_upperTwo_ctx LL (bodyOf Try.f51) impl_stackMachine_upperTwo_an (⟨mkE 29 0 [(0, .ptr 0 0)], [some (.box [.slc 1, .slc 2, .dat (.int .i64) x1055, .dat (.int .i64) x1056]), some (.seq (.int .i64) x1057), some (.seq (.int .i64) x1058)]⟩ : St) (impl_stackMachine_upperTwo_n1 x1058) (fun (t : Int × Int × Bool) => (Exit.ret, (⟨mkE 29 0 [(2, .dat (.int .i64) t.1), (3, .dat (.int .i64) t.2.1), (4, .dat .bool t.2.2)], [some (.box [.slc 1, .slc 2, .dat (.int .i64) x1055, .dat (.int .i64) x1056]), some (.seq (.int .i64) x1057), some (.seq (.int .i64) x1058)]⟩ : St))) := by
  refine Link.of fun K h => ?_
  simp only [impl_stackMachine_upperTwo_n1, wpO_bind, wpO_cond, wpO_map, wpO_some] at h
  exact Awp.of (by kernel_rfl) h

theorem impl_stackMachine_upperTwo_e (x1055 : Int) (x1056 : Int) (x1057 : List Int) (x1058 : List Int) {r : AV} {H' : Heap} (h : (Ans.mk _ (impl_stackMachine_upperTwo x1055 x1056 x1057 x1058) (fun (t : Int × Int × Bool) => (.tup [.dat (.int .i64) t.1, .dat (.int .i64) t.2.1, .dat .bool t.2.2], [some (.box [.slc 1, .slc 2, .dat (.int .i64) x1055, .dat (.int .i64) x1056]), some (.seq (.int .i64) x1057), some (.seq (.int .i64) x1058)])) [] none).run = some (r, H')) : Awp impl_stackMachine_upperTwo_ctx LL (bodyOf Try.f51) impl_stackMachine_upperTwo_an (⟨mkE 29 0 [(0, .ptr 0 0)], [some (.box [.slc 1, .slc 2, .dat (.int .i64) x1055, .dat (.int .i64) x1056]), some (.seq (.int .i64) x1057), some (.seq (.int .i64) x1058)]⟩ : St) (Ret (tlook tys) Try.f51.results.toList r H') :=
  ret_of' (impl_stackMachine_upperTwo_n1_l x1055 x1056 x1057 x1058) (by unfold impl_stackMachine_upperTwo; kernel_rfl) (by
  intro t
  exact ret_mk [.dat (.int .i64) t.1, .dat (.int .i64) t.2.1, .dat .bool t.2.2] (by kernel_rfl) (by kernel_rfl) (by kernel_rfl) (by kernel_rfl)) h

def F_impl_stackMachine_upperTwo : Fun := fun avs H =>
  match avs, H with
  | [.ptr 0 0], [some (.box [.slc 1, .slc 2, .dat (.int .i64) x1055, .dat (.int .i64) x1056]), some (.seq (.int .i64) x1057), some (.seq (.int .i64) x1058)] => ⟨_, impl_stackMachine_upperTwo x1055 x1056 x1057 x1058, fun (t : Int × Int × Bool) => (.tup [.dat (.int .i64) t.1, .dat (.int .i64) t.2.1, .dat .bool t.2.2], [some (.box [.slc 1, .slc 2, .dat (.int .i64) x1055, .dat (.int .i64) x1056]), some (.seq (.int .i64) x1057), some (.seq (.int .i64) x1058)]), [], none⟩
  | _, _ => Ans.no

theorem impl_stackMachine_upperTwo_sound : Sound Try.prog 51 F_impl_stackMachine_upperTwo := by
  refine fn_sound' (C := impl_stackMachine_upperTwo_ctx) (c := bodyOf Try.f51) (cok_of tys_ok (by simp) (by simp) (by kernel_rfl)) Try.func51 (by kernel_rfl) LL impl_stackMachine_upperTwo_an ?_
  intro avs H r H' h
  unfold F_impl_stackMachine_upperTwo at h
  split at h
  · refine Awp.cast ?_ ?_ ?_ (impl_stackMachine_upperTwo_e _ _ _ _ h) <;> kernel_rfl
  · simp [Ans.no, Ans.run] at h


/-! (*loop.example/headtrees/impl.stackMachine).join -/

def impl_stackMachine_join_an : Ann := (.seq (.leaf [0, 2]) (.draw [] [0, 1, 2, 3, 4, 5, 6, 7, 8, 9, 10, 11, 12, 13, 14, 15, 16, 17] [] []))

noncomputable def impl_stackMachine_join_ctx : Ctx := ⟨tlook tys, olook [], ioF, 3, false, [2]⟩

theorem impl_stackMachine_join_n1_l (x1089 : Int) (x1090 : Int) (x1091 : Int) (x1092 : Int) (x1093 : List Int) (x1094 : List Int) : Link impl_stackMachine_join_ctx LL (bodyOf Try.f52) impl_stackMachine_join_an (⟨mkE 31 0 [(0, .ptr 0 0), (1, .dat (.int .i64) x1089), (2, .dat (.int .i64) x1090)], [some (.box [.slc 1, .slc 2, .dat (.int .i64) x1091, .dat (.int .i64) x1092]), some (.seq (.int .i64) x1093), some (.seq (.int .i64) x1094)]⟩ : St) (impl_stackMachine_join_n1 x1089 x1090 x1093 x1094) (fun (t : (List Int) × (List Int)) => (Exit.normal, (⟨mkE 31 0 [], [some (.box [.slc 1, .slc 2, .dat (.int .i64) x1091, .dat (.int .i64) x1092]), some (.seq (.int .i64) t.1), some (.seq (.int .i64) t.2)]⟩ : St))) := by
  refine Link.of fun K h => ?_
  simp only [impl_stackMachine_join_n1, wpO_bind, wpO_cond, wpO_map, wpO_some] at h
  exact Awp.of (by kernel_rfl) h

theorem impl_stackMachine_join_e (x1089 : Int) (x1090 : Int) (x1091 : Int) (x1092 : Int) (x1093 : List Int) (x1094 : List Int) {r : AV} {H' : Heap} (h : (Ans.mk _ (impl_stackMachine_join x1089 x1090 x1091 x1092 x1093 x1094) (fun (t : (List Int) × (List Int)) => (.tup [], [some (.box [.slc 1, .slc 2, .dat (.int .i64) x1091, .dat (.int .i64) x1092]), some (.seq (.int .i64) t.1), some (.seq (.int .i64) t.2)])) [2] none).run = some (r, H')) : Awp impl_stackMachine_join_ctx LL (bodyOf Try.f52) impl_stackMachine_join_an (⟨mkE 31 0 [(0, .ptr 0 0), (1, .dat (.int .i64) x1089), (2, .dat (.int .i64) x1090)], [some (.box [.slc 1, .slc 2, .dat (.int .i64) x1091, .dat (.int .i64) x1092]), some (.seq (.int .i64) x1093), some (.seq (.int .i64) x1094)]⟩ : St) (Ret (tlook tys) Try.f52.results.toList r H') :=
  ret_of (impl_stackMachine_join_n1_l x1089 x1090 x1091 x1092 x1093 x1094) (fun (t : (List Int) × (List Int)) => (t.1, t.2)) (by unfold impl_stackMachine_join; kernel_rfl) (by
  rintro t
  · exact ret_mk [] (by kernel_rfl) (by kernel_rfl) (by kernel_rfl) (by kernel_rfl)) h

def F_impl_stackMachine_join : Fun := fun avs H =>
  match avs, H with
  | [.ptr 0 0, .dat (.int .i64) x1089, .dat (.int .i64) x1090], [some (.box [.slc 1, .slc 2, .dat (.int .i64) x1091, .dat (.int .i64) x1092]), some (.seq (.int .i64) x1093), some (.seq (.int .i64) x1094)] => ⟨_, impl_stackMachine_join x1089 x1090 x1091 x1092 x1093 x1094, fun (t : (List Int) × (List Int)) => (.tup [], [some (.box [.slc 1, .slc 2, .dat (.int .i64) x1091, .dat (.int .i64) x1092]), some (.seq (.int .i64) t.1), some (.seq (.int .i64) t.2)]), [2], none⟩
  | _, _ => Ans.no

theorem impl_stackMachine_join_sound : Sound Try.prog 52 F_impl_stackMachine_join := by
  refine fn_sound' (C := impl_stackMachine_join_ctx) (c := bodyOf Try.f52) (cok_of tys_ok (by simp) (by simp) (by kernel_rfl)) Try.func52 (by kernel_rfl) LL impl_stackMachine_join_an ?_
  intro avs H r H' h
  unfold F_impl_stackMachine_join at h
  split at h
  · refine Awp.cast ?_ ?_ ?_ (impl_stackMachine_join_e _ _ _ _ _ _ h) <;> kernel_rfl
  · simp [Ans.no, Ans.run] at h


/-! (*loop.example/headtrees/impl.stackMachine).takeBelow -/

def impl_stackMachine_takeBelow_an : Ann := (.seq (.leaf [0]) (.seq (.leaf [0, 3, 4, 5]) (.seq (.seq (.leaf [0, 3, 4, 5, 12]) (.cond (.leaf [5]) (.leaf [5]))) (.seq (.leaf [2]) (.leaf [2])))))

noncomputable def impl_stackMachine_takeBelow_ctx : Ctx := ⟨tlook tys, olook [(51, F_impl_stackMachine_upperTwo), (52, F_impl_stackMachine_join)], ioF, 3, false, [2]⟩

theorem impl_stackMachine_takeBelow_n1_l (x1265 : Int) (x1266 : Int) (x1267 : List Int) (x1268 : List Int) : Link impl_stackMachine_takeBelow_ctx LL (bodyOf Try.f43) impl_stackMachine_takeBelow_an (⟨mkE 18 0 [(0, .ptr 0 0)], [some (.box [.slc 1, .slc 2, .dat (.int .i64) x1265, .dat (.int .i64) x1266]), some (.seq (.int .i64) x1267), some (.seq (.int .i64) x1268)]⟩ : St) (impl_stackMachine_takeBelow_n1 x1265 x1266 x1267 x1268) (fun (t : Bool × (List Int) × (List Int)) => (Exit.ret, (⟨mkE 18 0 [(2, .dat .bool t.1)], [some (.box [.slc 1, .slc 2, .dat (.int .i64) x1265, .dat (.int .i64) x1266]), some (.seq (.int .i64) t.2.1), some (.seq (.int .i64) t.2.2)]⟩ : St))) := by
  refine Link.of fun K h => ?_
  simp only [impl_stackMachine_takeBelow_n1, wpO_bind, wpO_cond, wpO_map, wpO_some] at h
  exact Awp.of (by kernel_rfl) h

theorem impl_stackMachine_takeBelow_e (x1265 : Int) (x1266 : Int) (x1267 : List Int) (x1268 : List Int) {r : AV} {H' : Heap} (h : (Ans.mk _ (impl_stackMachine_takeBelow x1265 x1266 x1267 x1268) (fun (t : Bool × (List Int) × (List Int)) => (.dat .bool t.1, [some (.box [.slc 1, .slc 2, .dat (.int .i64) x1265, .dat (.int .i64) x1266]), some (.seq (.int .i64) t.2.1), some (.seq (.int .i64) t.2.2)])) [2] none).run = some (r, H')) : Awp impl_stackMachine_takeBelow_ctx LL (bodyOf Try.f43) impl_stackMachine_takeBelow_an (⟨mkE 18 0 [(0, .ptr 0 0)], [some (.box [.slc 1, .slc 2, .dat (.int .i64) x1265, .dat (.int .i64) x1266]), some (.seq (.int .i64) x1267), some (.seq (.int .i64) x1268)]⟩ : St) (Ret (tlook tys) Try.f43.results.toList r H') :=
  ret_of' (impl_stackMachine_takeBelow_n1_l x1265 x1266 x1267 x1268) (by unfold impl_stackMachine_takeBelow; kernel_rfl) (by
  intro t
  exact ret_mk [.dat .bool t.1] (by kernel_rfl) (by kernel_rfl) (by kernel_rfl) (by kernel_rfl)) h

def F_impl_stackMachine_takeBelow : Fun := fun avs H =>
  match avs, H with
  | [.ptr 0 0], [some (.box [.slc 1, .slc 2, .dat (.int .i64) x1265, .dat (.int .i64) x1266]), some (.seq (.int .i64) x1267), some (.seq (.int .i64) x1268)] => ⟨_, impl_stackMachine_takeBelow x1265 x1266 x1267 x1268, fun (t : Bool × (List Int) × (List Int)) => (.dat .bool t.1, [some (.box [.slc 1, .slc 2, .dat (.int .i64) x1265, .dat (.int .i64) x1266]), some (.seq (.int .i64) t.2.1), some (.seq (.int .i64) t.2.2)]), [2], none⟩
  | _, _ => Ans.no

theorem impl_stackMachine_takeBelow_sound : Sound Try.prog 43 F_impl_stackMachine_takeBelow := by
  refine fn_sound' (C := impl_stackMachine_takeBelow_ctx) (c := bodyOf Try.f43) (cok_of tys_ok (List.forall_mem_cons.2 ⟨impl_stackMachine_upperTwo_sound, List.forall_mem_cons.2 ⟨impl_stackMachine_join_sound, by simp⟩⟩) (List.forall_mem_cons.2 ⟨Try.call51, List.forall_mem_cons.2 ⟨Try.call52, by simp⟩⟩) (by kernel_rfl)) Try.func43 (by kernel_rfl) LL impl_stackMachine_takeBelow_an ?_
  intro avs H r H' h
  unfold F_impl_stackMachine_takeBelow at h
  split at h
  · refine Awp.cast ?_ ?_ ?_ (impl_stackMachine_takeBelow_e _ _ _ _ h) <;> kernel_rfl
  · simp [Ans.no, Ans.run] at h


/-! (*loop.example/headtrees/impl.stackMachine).takeUpper -/

def impl_stackMachine_takeUpper_an : Ann := (.seq (.leaf [0]) (.seq (.leaf [0, 3, 4, 5]) (.seq (.seq (.leaf [0, 3, 4, 5, 12]) (.cond (.leaf [5]) (.leaf [5]))) (.seq (.leaf [2]) (.leaf [2])))))

noncomputable def impl_stackMachine_takeUpper_ctx : Ctx := ⟨tlook tys, olook [(51, F_impl_stackMachine_upperTwo), (52, F_impl_stackMachine_join)], ioF, 3, false, [2]⟩

theorem impl_stackMachine_takeUpper_n1_l (x1302 : Int) (x1303 : Int) (x1304 : List Int) (x1305 : List Int) : Link impl_stackMachine_takeUpper_ctx LL (bodyOf Try.f44) impl_stackMachine_takeUpper_an (⟨mkE 18 0 [(0, .ptr 0 0)], [some (.box [.slc 1, .slc 2, .dat (.int .i64) x1302, .dat (.int .i64) x1303]), some (.seq (.int .i64) x1304), some (.seq (.int .i64) x1305)]⟩ : St) (impl_stackMachine_takeUpper_n1 x1302 x1303 x1304 x1305) (fun (t : Bool × (List Int) × (List Int)) => (Exit.ret, (⟨mkE 18 0 [(2, .dat .bool t.1)], [some (.box [.slc 1, .slc 2, .dat (.int .i64) x1302, .dat (.int .i64) x1303]), some (.seq (.int .i64) t.2.1), some (.seq (.int .i64) t.2.2)]⟩ : St))) := by
  refine Link.of fun K h => ?_
  simp only [impl_stackMachine_takeUpper_n1, wpO_bind, wpO_cond, wpO_map, wpO_some] at h
  exact Awp.of (by kernel_rfl) h

theorem impl_stackMachine_takeUpper_e (x1302 : Int) (x1303 : Int) (x1304 : List Int) (x1305 : List Int) {r : AV} {H' : Heap} (h : (Ans.mk _ (impl_stackMachine_takeUpper x1302 x1303 x1304 x1305) (fun (t : Bool × (List Int) × (List Int)) => (.dat .bool t.1, [some (.box [.slc 1, .slc 2, .dat (.int .i64) x1302, .dat (.int .i64) x1303]), some (.seq (.int .i64) t.2.1), some (.seq (.int .i64) t.2.2)])) [2] none).run = some (r, H')) : Awp impl_stackMachine_takeUpper_ctx LL (bodyOf Try.f44) impl_stackMachine_takeUpper_an (⟨mkE 18 0 [(0, .ptr 0 0)], [some (.box [.slc 1, .slc 2, .dat (.int .i64) x1302, .dat (.int .i64) x1303]), some (.seq (.int .i64) x1304), some (.seq (.int .i64) x1305)]⟩ : St) (Ret (tlook tys) Try.f44.results.toList r H') :=
  ret_of' (impl_stackMachine_takeUpper_n1_l x1302 x1303 x1304 x1305) (by unfold impl_stackMachine_takeUpper; kernel_rfl) (by
  intro t
  exact ret_mk [.dat .bool t.1] (by kernel_rfl) (by kernel_rfl) (by kernel_rfl) (by kernel_rfl)) h

def F_impl_stackMachine_takeUpper : Fun := fun avs H =>
  match avs, H with
  | [.ptr 0 0], [some (.box [.slc 1, .slc 2, .dat (.int .i64) x1302, .dat (.int .i64) x1303]), some (.seq (.int .i64) x1304), some (.seq (.int .i64) x1305)] => ⟨_, impl_stackMachine_takeUpper x1302 x1303 x1304 x1305, fun (t : Bool × (List Int) × (List Int)) => (.dat .bool t.1, [some (.box [.slc 1, .slc 2, .dat (.int .i64) x1302, .dat (.int .i64) x1303]), some (.seq (.int .i64) t.2.1), some (.seq (.int .i64) t.2.2)]), [2], none⟩
  | _, _ => Ans.no

theorem impl_stackMachine_takeUpper_sound : Sound Try.prog 44 F_impl_stackMachine_takeUpper := by
  refine fn_sound' (C := impl_stackMachine_takeUpper_ctx) (c := bodyOf Try.f44) (cok_of tys_ok (List.forall_mem_cons.2 ⟨impl_stackMachine_upperTwo_sound, List.forall_mem_cons.2 ⟨impl_stackMachine_join_sound, by simp⟩⟩) (List.forall_mem_cons.2 ⟨Try.call51, List.forall_mem_cons.2 ⟨Try.call52, by simp⟩⟩) (by kernel_rfl)) Try.func44 (by kernel_rfl) LL impl_stackMachine_takeUpper_an ?_
  intro avs H r H' h
  unfold F_impl_stackMachine_takeUpper at h
  split at h
  · refine Awp.cast ?_ ?_ ?_ (impl_stackMachine_takeUpper_e _ _ _ _ h) <;> kernel_rfl
  · simp [Ans.no, Ans.run] at h


/-! loop.example/headtrees/impl.allDone[*loop.example/headtrees/impl.stackMachine] -/

def impl_allDone_impl_stackMachine_an : Ann := (.seq (.leaf [0, 1, 2]) (.seq (.seq (.leafF [⟨3, 0, false, some 1, some (.int .i64)⟩] [0, 1, 2, 11, 12]) (.block (.loop (.seq (.leaf [0, 1, 2, 11, 12, 13]) (.seq (.cond (.leaf [0, 1, 2, 11, 12]) (.leaf [])) (.seq (.block (.seq (.leaf [0, 1, 2, 7, 11, 12]) (.seq (.leaf [0, 1, 2, 8, 9, 11, 12]) (.seq (.leaf [0, 1, 2, 11, 12, 30]) (.cond (.seq (.leaf [6]) (.leaf [6])) (.leaf [0, 1, 2, 11, 12])))))) (.leaf [0, 1, 2, 11, 12]))))))) (.seq (.leaf [6]) (.leaf [6]))))

noncomputable def impl_allDone_impl_stackMachine_ctx : Ctx := ⟨tlook tys, olook [(37, F_impl_stackMachine_putNext), (43, F_impl_stackMachine_takeBelow), (44, F_impl_stackMachine_takeUpper)], ioF, 2, false, []⟩

theorem impl_allDone_impl_stackMachine_n1_l (x927 : ByteArray) (x928 : Int) (x929 : Int) (x930 : List Int) : Link impl_allDone_impl_stackMachine_ctx LL (Code.fst (bodyOf Try.f32)) (Ann.fst impl_allDone_impl_stackMachine_an) (⟨mkE 32 0 [(0, .ptr 0 0), (1, .fmap [(.int .u8 83, .func 37), (.int .u8 76, .func 43), (.int .u8 82, .func 44)]), (2, .dat .str x927)], [some (.box [.slc 1, .nils, .dat (.int .i64) x928, .dat (.int .i64) x929]), some (.seq (.int .i64) x930)]⟩ : St) (impl_allDone_impl_stackMachine_n1) (fun (t : Unit) => (Exit.normal, (⟨mkE 32 0 [(0, .ptr 0 0), (1, .fmap [(.int .u8 83, .func 37), (.int .u8 76, .func 43), (.int .u8 82, .func 44)]), (2, .dat .str x927)], [some (.box [.slc 1, .nils, .dat (.int .i64) x928, .dat (.int .i64) x929]), some (.seq (.int .i64) x930)]⟩ : St))) := by
  refine Link.of fun K h => ?_
  simp only [impl_allDone_impl_stackMachine_n1, wpO_bind, wpO_cond, wpO_map, wpO_some] at h
  exact Awp.of (by kernel_rfl) h

theorem impl_allDone_impl_stackMachine_n2_l (x927 : ByteArray) (x928 : Int) (x929 : Int) (x930 : List Int) : Link impl_allDone_impl_stackMachine_ctx LL (Code.fst (Code.fst (Code.snd (bodyOf Try.f32)))) (Ann.fst (Ann.fst (Ann.snd impl_allDone_impl_stackMachine_an))) (⟨mkE 32 0 [(0, .ptr 0 0), (1, .fmap [(.int .u8 83, .func 37), (.int .u8 76, .func 43), (.int .u8 82, .func 44)]), (2, .dat .str x927)], [some (.box [.slc 1, .nils, .dat (.int .i64) x928, .dat (.int .i64) x929]), some (.seq (.int .i64) x930)]⟩ : St) (impl_allDone_impl_stackMachine_n2 x927) (fun (t : Int) => (Exit.normal, (⟨mkE 32 0 [(0, .ptr 0 0), (1, .fmap [(.int .u8 83, .func 37), (.int .u8 76, .func 43), (.int .u8 82, .func 44)]), (2, .dat .str x927), (11, .dat (.int .i64) t), (12, .dat (.int .i64) 0)], [some (.box [.slc 1, .slc 2, .dat (.int .i64) x928, .dat (.int .i64) x929]), some (.seq (.int .i64) x930), some (.seq (.int .i64) ([] : List Int))]⟩ : St))) := by
  refine Link.of fun K h => ?_
  simp only [impl_allDone_impl_stackMachine_n2, wpO_bind, wpO_cond, wpO_map, wpO_some] at h
  exact Awp.of (by kernel_rfl) h

theorem impl_allDone_impl_stackMachine_n3_l (x927 : ByteArray) (x1205 : Int) (x1367 : Int) (x1368 : Int) (x1369 : Int) (x1370 : List Int) (x1371 : List Int) : Link impl_allDone_impl_stackMachine_ctx LL (Code.fst (Code.fst (Code.snd (Code.fst (Code.snd (bodyOf Try.f32)))))) (Ann.fst (Ann.fst (Ann.snd (Ann.fst (Ann.snd impl_allDone_impl_stackMachine_an))))) (⟨mkE 32 0 [(0, .ptr 0 0), (1, .fmap [(.int .u8 83, .func 37), (.int .u8 76, .func 43), (.int .u8 82, .func 44)]), (2, .dat .str x927), (11, .dat (.int .i64) x1205), (12, .dat (.int .i64) x1367)], [some (.box [.slc 1, .slc 2, .dat (.int .i64) x1368, .dat (.int .i64) x1369]), some (.seq (.int .i64) x1370), some (.seq (.int .i64) x1371)]⟩ : St) (impl_allDone_impl_stackMachine_n3 x927 x1205 x1367 x1368 x1369 x1370 x1371) (Sum.elim (fun (t : Int × Int × Int × (List Int) × (List Int)) => (Exit.normal, (⟨mkE 32 0 [(0, .ptr 0 0), (1, .fmap [(.int .u8 83, .func 37), (.int .u8 76, .func 43), (.int .u8 82, .func 44)]), (2, .dat .str x927), (11, .dat (.int .i64) x1205), (12, .dat (.int .i64) t.1)], [some (.box [.slc 1, .slc 2, .dat (.int .i64) t.2.1, .dat (.int .i64) t.2.2.1]), some (.seq (.int .i64) t.2.2.2.1), some (.seq (.int .i64) t.2.2.2.2)]⟩ : St))) (Sum.elim (fun (t : Bool × Int × Int × (List Int) × (List Int)) => (Exit.ret, (⟨mkE 32 0 [(6, .dat .bool t.1)], [some (.box [.slc 1, .slc 2, .dat (.int .i64) t.2.1, .dat (.int .i64) t.2.2.1]), some (.seq (.int .i64) t.2.2.2.1), some (.seq (.int .i64) t.2.2.2.2)]⟩ : St))) (fun (t : Int × Int × (List Int) × (List Int)) => ((Exit.exit 0), (⟨mkE 32 0 [], [some (.box [.slc 1, .slc 2, .dat (.int .i64) t.1, .dat (.int .i64) t.2.1]), some (.seq (.int .i64) t.2.2.1), some (.seq (.int .i64) t.2.2.2)]⟩ : St))))) := by
  refine Link.of fun K h => ?_
  simp only [impl_allDone_impl_stackMachine_n3, wpO_bind, wpO_cond, wpO_map, wpO_some] at h
  exact Awp.of (by kernel_rfl) h

theorem impl_allDone_impl_stackMachine_n4_l (x927 : ByteArray) (x1205 : Int) (x928 : Int) (x929 : Int) (x930 : List Int) : Link impl_allDone_impl_stackMachine_ctx LL (Code.fst (Code.snd (Code.fst (Code.snd (bodyOf Try.f32))))) (Ann.fst (Ann.snd (Ann.fst (Ann.snd impl_allDone_impl_stackMachine_an)))) (⟨mkE 32 0 [(0, .ptr 0 0), (1, .fmap [(.int .u8 83, .func 37), (.int .u8 76, .func 43), (.int .u8 82, .func 44)]), (2, .dat .str x927), (11, .dat (.int .i64) x1205), (12, .dat (.int .i64) 0)], [some (.box [.slc 1, .slc 2, .dat (.int .i64) x928, .dat (.int .i64) x929]), some (.seq (.int .i64) x930), some (.seq (.int .i64) ([] : List Int))]⟩ : St) (impl_allDone_impl_stackMachine_n4 x927 x1205 x928 x929 x930) (Sum.elim (fun (t : Bool × Int × Int × (List Int) × (List Int)) => (Exit.ret, (⟨mkE 32 0 [(6, .dat .bool t.1)], [some (.box [.slc 1, .slc 2, .dat (.int .i64) t.2.1, .dat (.int .i64) t.2.2.1]), some (.seq (.int .i64) t.2.2.2.1), some (.seq (.int .i64) t.2.2.2.2)]⟩ : St))) (fun (t : Int × Int × (List Int) × (List Int)) => ((Exit.exit 0), (⟨mkE 32 0 [], [some (.box [.slc 1, .slc 2, .dat (.int .i64) t.1, .dat (.int .i64) t.2.1]), some (.seq (.int .i64) t.2.2.1), some (.seq (.int .i64) t.2.2.2)]⟩ : St)))) := by
  unfold impl_allDone_impl_stackMachine_n4
  exact Link.cast (by kernel_rfl) (by kernel_rfl) (link_loop (mk := fun (s : Int × Int × Int × (List Int) × (List Int)) => (⟨mkE 32 0 [(0, .ptr 0 0), (1, .fmap [(.int .u8 83, .func 37), (.int .u8 76, .func 43), (.int .u8 82, .func 44)]), (2, .dat .str x927), (11, .dat (.int .i64) x1205), (12, .dat (.int .i64) s.1)], [some (.box [.slc 1, .slc 2, .dat (.int .i64) s.2.1, .dat (.int .i64) s.2.2.1]), some (.seq (.int .i64) s.2.2.2.1), some (.seq (.int .i64) s.2.2.2.2)]⟩ : St)) (fin := (Sum.elim (fun (t : Bool × Int × Int × (List Int) × (List Int)) => (Exit.ret, (⟨mkE 32 0 [(6, .dat .bool t.1)], [some (.box [.slc 1, .slc 2, .dat (.int .i64) t.2.1, .dat (.int .i64) t.2.2.1]), some (.seq (.int .i64) t.2.2.2.1), some (.seq (.int .i64) t.2.2.2.2)]⟩ : St))) (fun (t : Int × Int × (List Int) × (List Int)) => ((Exit.exit 0), (⟨mkE 32 0 [], [some (.box [.slc 1, .slc 2, .dat (.int .i64) t.1, .dat (.int .i64) t.2.1]), some (.seq (.int .i64) t.2.2.1), some (.seq (.int .i64) t.2.2.2)]⟩ : St))))) (by
  rintro (t | t) f K h
  · exact h
  · exact h) (fun s => link_map (impl_allDone_impl_stackMachine_n3_l x927 x1205 s.1 s.2.1 s.2.2.1 s.2.2.2.1 s.2.2.2.2) (Sum.elim (fun (t : Int × Int × Int × (List Int) × (List Int)) => Sum.inl (t.1, t.2.1, t.2.2.1, t.2.2.2.1, t.2.2.2.2)) (Sum.elim (fun (t : Bool × Int × Int × (List Int) × (List Int)) => Sum.inr (Sum.inl t)) (fun (t : Int × Int × (List Int) × (List Int)) => Sum.inr (Sum.inr t)))) (by
  rintro (t | t | t)
  · kernel_rfl
  · kernel_rfl
  · kernel_rfl)) (0, x928, x929, x930, ([] : List Int)))

theorem impl_allDone_impl_stackMachine_n5_l (x927 : ByteArray) (x1205 : Int) (x928 : Int) (x929 : Int) (x930 : List Int) : Link impl_allDone_impl_stackMachine_ctx LL (Code.snd (Code.fst (Code.snd (bodyOf Try.f32)))) (Ann.snd (Ann.fst (Ann.snd impl_allDone_impl_stackMachine_an))) (⟨mkE 32 0 [(0, .ptr 0 0), (1, .fmap [(.int .u8 83, .func 37), (.int .u8 76, .func 43), (.int .u8 82, .func 44)]), (2, .dat .str x927), (11, .dat (.int .i64) x1205), (12, .dat (.int .i64) 0)], [some (.box [.slc 1, .slc 2, .dat (.int .i64) x928, .dat (.int .i64) x929]), some (.seq (.int .i64) x930), some (.seq (.int .i64) ([] : List Int))]⟩ : St) (impl_allDone_impl_stackMachine_n5 x927 x1205 x928 x929 x930) (Sum.elim (fun (t : Int × Int × (List Int) × (List Int)) => (Exit.normal, (⟨mkE 32 0 [], [some (.box [.slc 1, .slc 2, .dat (.int .i64) t.1, .dat (.int .i64) t.2.1]), some (.seq (.int .i64) t.2.2.1), some (.seq (.int .i64) t.2.2.2)]⟩ : St))) (fun (t : Bool × Int × Int × (List Int) × (List Int)) => (Exit.ret, (⟨mkE 32 0 [(6, .dat .bool t.1)], [some (.box [.slc 1, .slc 2, .dat (.int .i64) t.2.1, .dat (.int .i64) t.2.2.1]), some (.seq (.int .i64) t.2.2.2.1), some (.seq (.int .i64) t.2.2.2.2)]⟩ : St)))) := by
  unfold impl_allDone_impl_stackMachine_n5
  exact Link.cast (by kernel_rfl) (by kernel_rfl) (link_block (id := 0) (impl_allDone_impl_stackMachine_n4_l x927 x1205 x928 x929 x930) (Sum.elim (fun (t : Bool × Int × Int × (List Int) × (List Int)) => (Sum.inr t)) (fun (t : Int × Int × (List Int) × (List Int)) => (Sum.inl (t.1, t.2.1, t.2.2.1, t.2.2.2)))) (by
  rintro (t | t) K h
  · exact Eq.mp (by kernel_rfl) h
  · exact Eq.mp (by kernel_rfl) h))

theorem impl_allDone_impl_stackMachine_n6_l (x927 : ByteArray) (x928 : Int) (x929 : Int) (x930 : List Int) : Link impl_allDone_impl_stackMachine_ctx LL (Code.fst (Code.snd (bodyOf Try.f32))) (Ann.fst (Ann.snd impl_allDone_impl_stackMachine_an)) (⟨mkE 32 0 [(0, .ptr 0 0), (1, .fmap [(.int .u8 83, .func 37), (.int .u8 76, .func 43), (.int .u8 82, .func 44)]), (2, .dat .str x927)], [some (.box [.slc 1, .nils, .dat (.int .i64) x928, .dat (.int .i64) x929]), some (.seq (.int .i64) x930)]⟩ : St) (impl_allDone_impl_stackMachine_n6 x927 x928 x929 x930) (Sum.elim (fun (t : Int × Int × (List Int) × (List Int)) => (Exit.normal, (⟨mkE 32 0 [], [some (.box [.slc 1, .slc 2, .dat (.int .i64) t.1, .dat (.int .i64) t.2.1]), some (.seq (.int .i64) t.2.2.1), some (.seq (.int .i64) t.2.2.2)]⟩ : St))) (fun (t : Bool × Int × Int × (List Int) × (List Int)) => (Exit.ret, (⟨mkE 32 0 [(6, .dat .bool t.1)], [some (.box [.slc 1, .slc 2, .dat (.int .i64) t.2.1, .dat (.int .i64) t.2.2.1]), some (.seq (.int .i64) t.2.2.2.1), some (.seq (.int .i64) t.2.2.2.2)]⟩ : St)))) := by
  unfold impl_allDone_impl_stackMachine_n6
  exact Link.cast (by kernel_rfl) (by kernel_rfl) (link_seq (b := (Code.snd (Code.fst (Code.snd (bodyOf Try.f32))))) (y := (Ann.snd (Ann.fst (Ann.snd impl_allDone_impl_stackMachine_an)))) (impl_allDone_impl_stackMachine_n2_l x927 x928 x929 x930) (fun (t : Int) => (impl_allDone_impl_stackMachine_n5_l x927 t x928 x929 x930)))

theorem impl_allDone_impl_stackMachine_n7_l (x1368 : Int) (x1369 : Int) (x1370 : List Int) (x1371 : List Int) : Link impl_allDone_impl_stackMachine_ctx LL (Code.snd (Code.snd (bodyOf Try.f32))) (Ann.snd (Ann.snd impl_allDone_impl_stackMachine_an)) (⟨mkE 32 0 [], [some (.box [.slc 1, .slc 2, .dat (.int .i64) x1368, .dat (.int .i64) x1369]), some (.seq (.int .i64) x1370), some (.seq (.int .i64) x1371)]⟩ : St) (impl_allDone_impl_stackMachine_n7 x1368 x1369 x1370 x1371) (fun (t : Bool × Int × Int × (List Int) × (List Int)) => (Exit.ret, (⟨mkE 32 0 [(6, .dat .bool t.1)], [some (.box [.slc 1, .slc 2, .dat (.int .i64) t.2.1, .dat (.int .i64) t.2.2.1]), some (.seq (.int .i64) t.2.2.2.1), some (.seq (.int .i64) t.2.2.2.2)]⟩ : St))) := by
  refine Link.of fun K h => ?_
  simp only [impl_allDone_impl_stackMachine_n7, wpO_bind, wpO_cond, wpO_map, wpO_some] at h
  exact Awp.of (by kernel_rfl) h

theorem impl_allDone_impl_stackMachine_n8_l (x927 : ByteArray) (x928 : Int) (x929 : Int) (x930 : List Int) : Link impl_allDone_impl_stackMachine_ctx LL (Code.snd (bodyOf Try.f32)) (Ann.snd impl_allDone_impl_stackMachine_an) (⟨mkE 32 0 [(0, .ptr 0 0), (1, .fmap [(.int .u8 83, .func 37), (.int .u8 76, .func 43), (.int .u8 82, .func 44)]), (2, .dat .str x927)], [some (.box [.slc 1, .nils, .dat (.int .i64) x928, .dat (.int .i64) x929]), some (.seq (.int .i64) x930)]⟩ : St) (impl_allDone_impl_stackMachine_n8 x927 x928 x929 x930) (fun (t : Bool × Int × Int × (List Int) × (List Int)) => (Exit.ret, (⟨mkE 32 0 [(6, .dat .bool t.1)], [some (.box [.slc 1, .slc 2, .dat (.int .i64) t.2.1, .dat (.int .i64) t.2.2.1]), some (.seq (.int .i64) t.2.2.2.1), some (.seq (.int .i64) t.2.2.2.2)]⟩ : St))) := by
  unfold impl_allDone_impl_stackMachine_n8
  exact Link.cast (by kernel_rfl) (by kernel_rfl) (link_seq2 (b := (Code.snd (Code.snd (bodyOf Try.f32)))) (y := (Ann.snd (Ann.snd impl_allDone_impl_stackMachine_an))) (impl_allDone_impl_stackMachine_n6_l x927 x928 x929 x930) (fun (t : Int × Int × (List Int) × (List Int)) => (impl_allDone_impl_stackMachine_n7_l t.1 t.2.1 t.2.2.1 t.2.2.2)) (fun (t : Bool × Int × Int × (List Int) × (List Int)) => t) (by
  rintro t
  · kernel_rfl) (by
  rintro t f K h
  · exact h))

theorem impl_allDone_impl_stackMachine_n9_l (x927 : ByteArray) (x928 : Int) (x929 : Int) (x930 : List Int) : Link impl_allDone_impl_stackMachine_ctx LL (bodyOf Try.f32) impl_allDone_impl_stackMachine_an (⟨mkE 32 0 [(0, .ptr 0 0), (1, .fmap [(.int .u8 83, .func 37), (.int .u8 76, .func 43), (.int .u8 82, .func 44)]), (2, .dat .str x927)], [some (.box [.slc 1, .nils, .dat (.int .i64) x928, .dat (.int .i64) x929]), some (.seq (.int .i64) x930)]⟩ : St) (impl_allDone_impl_stackMachine_n9 x927 x928 x929 x930) (fun (t : Bool × Int × Int × (List Int) × (List Int)) => (Exit.ret, (⟨mkE 32 0 [(6, .dat .bool t.1)], [some (.box [.slc 1, .slc 2, .dat (.int .i64) t.2.1, .dat (.int .i64) t.2.2.1]), some (.seq (.int .i64) t.2.2.2.1), some (.seq (.int .i64) t.2.2.2.2)]⟩ : St))) := by
  unfold impl_allDone_impl_stackMachine_n9
  exact Link.cast (by kernel_rfl) (by kernel_rfl) (link_seq (b := (Code.snd (bodyOf Try.f32))) (y := (Ann.snd impl_allDone_impl_stackMachine_an)) (impl_allDone_impl_stackMachine_n1_l x927 x928 x929 x930) (fun (t : Unit) => (impl_allDone_impl_stackMachine_n8_l x927 x928 x929 x930)))

theorem impl_allDone_impl_stackMachine_e (x927 : ByteArray) (x928 : Int) (x929 : Int) (x930 : List Int) {r : AV} {H' : Heap} (h : (Ans.mk _ (impl_allDone_impl_stackMachine x927 x928 x929 x930) (fun (t : Bool × Int × Int × (List Int) × (List Int)) => (.dat .bool t.1, [some (.box [.slc 1, .slc 2, .dat (.int .i64) t.2.1, .dat (.int .i64) t.2.2.1]), some (.seq (.int .i64) t.2.2.2.1), some (.seq (.int .i64) t.2.2.2.2)])) [] none).run = some (r, H')) : Awp impl_allDone_impl_stackMachine_ctx LL (bodyOf Try.f32) impl_allDone_impl_stackMachine_an (⟨mkE 32 0 [(0, .ptr 0 0), (1, .fmap [(.int .u8 83, .func 37), (.int .u8 76, .func 43), (.int .u8 82, .func 44)]), (2, .dat .str x927)], [some (.box [.slc 1, .nils, .dat (.int .i64) x928, .dat (.int .i64) x929]), some (.seq (.int .i64) x930)]⟩ : St) (Ret (tlook tys) Try.f32.results.toList r H') :=
  ret_of' (impl_allDone_impl_stackMachine_n9_l x927 x928 x929 x930) (by unfold impl_allDone_impl_stackMachine; kernel_rfl) (by
  intro t
  exact ret_mk [.dat .bool t.1] (by kernel_rfl) (by kernel_rfl) (by kernel_rfl) (by kernel_rfl)) h

def F_impl_allDone_impl_stackMachine : Fun := fun avs H =>
  match avs, H with
  | [.ptr 0 0, .fmap [(.int .u8 83, .func 37), (.int .u8 76, .func 43), (.int .u8 82, .func 44)], .dat .str x927], [some (.box [.slc 1, .nils, .dat (.int .i64) x928, .dat (.int .i64) x929]), some (.seq (.int .i64) x930)] => ⟨_, impl_allDone_impl_stackMachine x927 x928 x929 x930, fun (t : Bool × Int × Int × (List Int) × (List Int)) => (.dat .bool t.1, [some (.box [.slc 1, .slc 2, .dat (.int .i64) t.2.1, .dat (.int .i64) t.2.2.1]), some (.seq (.int .i64) t.2.2.2.1), some (.seq (.int .i64) t.2.2.2.2)]), [], none⟩
  | _, _ => Ans.no

theorem impl_allDone_impl_stackMachine_sound : Sound Try.prog 32 F_impl_allDone_impl_stackMachine := by
  refine fn_sound' (C := impl_allDone_impl_stackMachine_ctx) (c := bodyOf Try.f32) (cok_of tys_ok (List.forall_mem_cons.2 ⟨impl_stackMachine_putNext_sound, List.forall_mem_cons.2 ⟨impl_stackMachine_takeBelow_sound, List.forall_mem_cons.2 ⟨impl_stackMachine_takeUpper_sound, by simp⟩⟩⟩) (List.forall_mem_cons.2 ⟨Try.call37, List.forall_mem_cons.2 ⟨Try.call43, List.forall_mem_cons.2 ⟨Try.call44, by simp⟩⟩⟩) (by kernel_rfl)) Try.func32 (by kernel_rfl) LL impl_allDone_impl_stackMachine_an ?_
  intro avs H r H' h
  unfold F_impl_allDone_impl_stackMachine at h
  split at h
  · refine Awp.cast ?_ ?_ ?_ (impl_allDone_impl_stackMachine_e _ _ _ _ h) <;> kernel_rfl
  · simp [Ans.no, Ans.run] at h


/-! (*loop.example/headtrees/impl.stackMachine).ended -/

def impl_stackMachine_ended_an : Ann := (.seq (.leaf [0]) (.seq (.draw [] [0, 1, 2, 3, 4, 5, 6, 7, 8, 9, 10, 11, 12, 13, 14, 15, 16, 17, 18] [] [2]) (.leaf [2])))

noncomputable def impl_stackMachine_ended_ctx : Ctx := ⟨tlook tys, olook [], ioF, 3, false, []⟩

theorem impl_stackMachine_ended_n1_l (x1436 : Int) (x1437 : Int) (x1438 : List Int) (x1439 : List Int) : Link impl_stackMachine_ended_ctx LL (bodyOf Try.f34) impl_stackMachine_ended_an (⟨mkE 21 0 [(0, .ptr 0 0)], [some (.box [.slc 1, .slc 2, .dat (.int .i64) x1436, .dat (.int .i64) x1437]), some (.seq (.int .i64) x1438), some (.seq (.int .i64) x1439)]⟩ : St) (impl_stackMachine_ended_n1 x1436 x1438 x1439) (fun (t : Bool) => (Exit.ret, (⟨mkE 21 0 [(2, .dat .bool t)], [some (.box [.slc 1, .slc 2, .dat (.int .i64) x1436, .dat (.int .i64) x1437]), some (.seq (.int .i64) x1438), some (.seq (.int .i64) x1439)]⟩ : St))) := by
  refine Link.of fun K h => ?_
  simp only [impl_stackMachine_ended_n1, wpO_bind, wpO_cond, wpO_map, wpO_some] at h
  exact Awp.of (by kernel_rfl) h

theorem impl_stackMachine_ended_e (x1436 : Int) (x1437 : Int) (x1438 : List Int) (x1439 : List Int) {r : AV} {H' : Heap} (h : (Ans.mk _ (impl_stackMachine_ended x1436 x1437 x1438 x1439) (fun (t : Bool) => (.dat .bool t, [some (.box [.slc 1, .slc 2, .dat (.int .i64) x1436, .dat (.int .i64) x1437]), some (.seq (.int .i64) x1438), some (.seq (.int .i64) x1439)])) [] none).run = some (r, H')) : Awp impl_stackMachine_ended_ctx LL (bodyOf Try.f34) impl_stackMachine_ended_an (⟨mkE 21 0 [(0, .ptr 0 0)], [some (.box [.slc 1, .slc 2, .dat (.int .i64) x1436, .dat (.int .i64) x1437]), some (.seq (.int .i64) x1438), some (.seq (.int .i64) x1439)]⟩ : St) (Ret (tlook tys) Try.f34.results.toList r H') :=
  ret_of' (impl_stackMachine_ended_n1_l x1436 x1437 x1438 x1439) (by unfold impl_stackMachine_ended; kernel_rfl) (by
  intro t
  exact ret_mk [.dat .bool t] (by kernel_rfl) (by kernel_rfl) (by kernel_rfl) (by kernel_rfl)) h

def F_impl_stackMachine_ended : Fun := fun avs H =>
  match avs, H with
  | [.ptr 0 0], [some (.box [.slc 1, .slc 2, .dat (.int .i64) x1436, .dat (.int .i64) x1437]), some (.seq (.int .i64) x1438), some (.seq (.int .i64) x1439)] => ⟨_, impl_stackMachine_ended x1436 x1437 x1438 x1439, fun (t : Bool) => (.dat .bool t, [some (.box [.slc 1, .slc 2, .dat (.int .i64) x1436, .dat (.int .i64) x1437]), some (.seq (.int .i64) x1438), some (.seq (.int .i64) x1439)]), [], none⟩
  | _, _ => Ans.no

theorem impl_stackMachine_ended_sound : Sound Try.prog 34 F_impl_stackMachine_ended := by
  refine fn_sound' (C := impl_stackMachine_ended_ctx) (c := bodyOf Try.f34) (cok_of tys_ok (by simp) (by simp) (by kernel_rfl)) Try.func34 (by kernel_rfl) LL impl_stackMachine_ended_an ?_
  intro avs H r H' h
  unfold F_impl_stackMachine_ended at h
  split at h
  · refine Awp.cast ?_ ?_ ?_ (impl_stackMachine_ended_e _ _ _ _ h) <;> kernel_rfl
  · simp [Ans.no, Ans.run] at h


/-! loop.example/headtrees/impl.afterMoves -/

def impl_afterMoves_an : Ann := (.seq (.leaf [0, 1]) (.seq (.seq (.leaf [0, 1, 12]) (.cond (.seq (.leaf [4, 5]) (.leaf [4, 5])) (.leaf [0, 1]))) (.seq (.leaf [1, 6]) (.seq (.seq (.leaf [6, 24]) (.cond (.seq (.leaf [4, 5]) (.leaf [4, 5])) (.leaf [6]))) (.seq (.leaf [4, 5]) (.leaf [4, 5]))))))

noncomputable def impl_afterMoves_ctx : Ctx := ⟨tlook tys, olook [(31, F_impl_newStackMachine), (33, F_impl_stackMoves), (32, F_impl_allDone_impl_stackMachine), (34, F_impl_stackMachine_ended)], ioF, 0, false, []⟩

theorem impl_afterMoves_n1_l (x911 : Int) (x912 : ByteArray) : Link impl_afterMoves_ctx LL (bodyOf Try.f19) impl_afterMoves_an (⟨mkE 26 0 [(0, .dat (.int .i64) x911), (1, .dat .str x912)], []⟩ : St) (impl_afterMoves_n1 x911 x912) (Sum.elim (fun (t : Int × Int × (List Int) × (List Int)) => (Exit.ret, (⟨mkE 26 0 [(4, .ptr 0 0), (5, .dat .bool true)], [some (.box [.slc 1, .slc 2, .dat (.int .i64) t.1, .dat (.int .i64) t.2.1]), some (.seq (.int .i64) t.2.2.1), some (.seq (.int .i64) t.2.2.2)]⟩ : St))) (fun (t : Unit) => (Exit.ret, (⟨mkE 26 0 [(4, .raw (.pointer none)), (5, .dat .bool false)], []⟩ : St)))) := by
  refine Link.of fun K h => ?_
  simp only [impl_afterMoves_n1, wpO_bind, wpO_cond, wpO_map, wpO_some] at h
  exact Awp.of (by kernel_rfl) h

theorem impl_afterMoves_e (x911 : Int) (x912 : ByteArray) {r : AV} {H' : Heap} (h : (Ans.mk _ (impl_afterMoves x911 x912) (fun (t : Bool × Int × Int × (List Int) × (List Int)) => (.tup [.ptr 0 0, .dat .bool true], [some (.box [.slc 1, .slc 2, .dat (.int .i64) t.2.1, .dat (.int .i64) t.2.2.1]), some (.seq (.int .i64) t.2.2.2.1), some (.seq (.int .i64) t.2.2.2.2)])) [] (some (fun (t : Bool × Int × Int × (List Int) × (List Int)) => t.1, fun (t : Bool × Int × Int × (List Int) × (List Int)) => (.tup [.raw (.pointer none), .dat .bool false], [])))).run = some (r, H')) : Awp impl_afterMoves_ctx LL (bodyOf Try.f19) impl_afterMoves_an (⟨mkE 26 0 [(0, .dat (.int .i64) x911), (1, .dat .str x912)], []⟩ : St) (Ret (tlook tys) Try.f19.results.toList r H') :=
  ret_of2 (impl_afterMoves_n1_l x911 x912) (Sum.elim (fun (t : Int × Int × (List Int) × (List Int)) => (true, t.1, t.2.1, t.2.2.1, t.2.2.2)) (fun (t : Unit) => (false, 0, 0, [], []))) (by unfold impl_afterMoves; kernel_rfl) (by
  rintro (t | t)
  · exact ret_mk [.ptr 0 0, .dat .bool true] (by kernel_rfl) (by kernel_rfl) (by kernel_rfl) (by kernel_rfl)
  · exact ret_mk [.raw (.pointer none), .dat .bool false] (by kernel_rfl) (by kernel_rfl) (by kernel_rfl) (by kernel_rfl)) h

def F_impl_afterMoves : Fun := fun avs H =>
  match avs, H with
  | [.dat (.int .i64) x911, .dat .str x912], [] => ⟨_, impl_afterMoves x911 x912, fun (t : Bool × Int × Int × (List Int) × (List Int)) => (.tup [.ptr 0 0, .dat .bool true], [some (.box [.slc 1, .slc 2, .dat (.int .i64) t.2.1, .dat (.int .i64) t.2.2.1]), some (.seq (.int .i64) t.2.2.2.1), some (.seq (.int .i64) t.2.2.2.2)]), [], (some (fun (t : Bool × Int × Int × (List Int) × (List Int)) => t.1, fun (t : Bool × Int × Int × (List Int) × (List Int)) => (.tup [.raw (.pointer none), .dat .bool false], [])))⟩
  | _, _ => Ans.no

theorem impl_afterMoves_sound : Sound Try.prog 19 F_impl_afterMoves := by
  refine fn_sound' (C := impl_afterMoves_ctx) (c := bodyOf Try.f19) (cok_of tys_ok (List.forall_mem_cons.2 ⟨impl_newStackMachine_sound, List.forall_mem_cons.2 ⟨impl_stackMoves_sound, List.forall_mem_cons.2 ⟨impl_allDone_impl_stackMachine_sound, List.forall_mem_cons.2 ⟨impl_stackMachine_ended_sound, by simp⟩⟩⟩⟩) (List.forall_mem_cons.2 ⟨Try.call31, List.forall_mem_cons.2 ⟨Try.call33, List.forall_mem_cons.2 ⟨Try.call32, List.forall_mem_cons.2 ⟨Try.call34, by simp⟩⟩⟩⟩) (by kernel_rfl)) Try.func19 (by kernel_rfl) LL impl_afterMoves_an ?_
  intro avs H r H' h
  unfold F_impl_afterMoves at h
  split at h
  · refine Awp.cast ?_ ?_ ?_ (impl_afterMoves_e _ _ h) <;> kernel_rfl
  · simp [Ans.no, Ans.run] at h


/-! loop.example/headtrees/impl.DeepestStack -/

def impl_DeepestStack_an : Ann := (.seq (.leaf [0, 1]) (.seq (.leaf [5, 6]) (.seq (.seq (.leaf [5, 14]) (.cond (.seq (.leaf [4]) (.leaf [4])) (.leaf [5]))) (.seq (.leaf [4]) (.leaf [4])))))

noncomputable def impl_DeepestStack_ctx : Ctx := ⟨tlook tys, olook [(19, F_impl_afterMoves)], ioF, 0, false, []⟩

theorem impl_DeepestStack_n1_l (x909 : Int) (x910 : ByteArray) : Link impl_DeepestStack_ctx LL (bodyOf Try.f8) impl_DeepestStack_an (⟨mkE 19 0 [(0, .dat (.int .i64) x909), (1, .dat .str x910)], []⟩ : St) (impl_DeepestStack_n1 x909 x910) (fun (t : Int) => (Exit.ret, (⟨mkE 19 0 [(4, .dat (.int .i64) t)], []⟩ : St))) := by
  refine Link.of fun K h => ?_
  simp only [impl_DeepestStack_n1, wpO_bind, wpO_cond, wpO_map, wpO_some] at h
  exact Awp.of (by kernel_rfl) h

theorem impl_DeepestStack_e (x909 : Int) (x910 : ByteArray) {r : AV} {H' : Heap} (h : (Ans.mk _ (impl_DeepestStack x909 x910) (fun (t : Int) => (.dat (.int .i64) t, [])) [] none).run = some (r, H')) : Awp impl_DeepestStack_ctx LL (bodyOf Try.f8) impl_DeepestStack_an (⟨mkE 19 0 [(0, .dat (.int .i64) x909), (1, .dat .str x910)], []⟩ : St) (Ret (tlook tys) Try.f8.results.toList r H') :=
  ret_of' (impl_DeepestStack_n1_l x909 x910) (by unfold impl_DeepestStack; kernel_rfl) (by
  intro t
  exact ret_mk [.dat (.int .i64) t] (by kernel_rfl) (by kernel_rfl) (by kernel_rfl) (by kernel_rfl)) h

def F_impl_DeepestStack : Fun := fun avs H =>
  match avs, H with
  | [.dat (.int .i64) x909, .dat .str x910], [] => ⟨_, impl_DeepestStack x909 x910, fun (t : Int) => (.dat (.int .i64) t, []), [], none⟩
  | _, _ => Ans.no

theorem impl_DeepestStack_sound : Sound Try.prog 8 F_impl_DeepestStack := by
  refine fn_sound' (C := impl_DeepestStack_ctx) (c := bodyOf Try.f8) (cok_of tys_ok (List.forall_mem_cons.2 ⟨impl_afterMoves_sound, by simp⟩) (List.forall_mem_cons.2 ⟨Try.call19, by simp⟩) (by kernel_rfl)) Try.func8 (by kernel_rfl) LL impl_DeepestStack_an ?_
  intro avs H r H' h
  unfold F_impl_DeepestStack at h
  split at h
  · refine Awp.cast ?_ ?_ ?_ (impl_DeepestStack_e _ _ h) <;> kernel_rfl
  · simp [Ans.no, Ans.run] at h


/-! loop.example/headtrees/spec.l1In -/

def spec_l1In_an : Ann := (.seq (.leaf [0, 1, 2]) (.seq (.leaf [6]) (.leaf [6])))

noncomputable def spec_l1In_ctx : Ctx := ⟨tlook tys, olook [], ioF, 0, false, []⟩

theorem spec_l1In_n1_l (x1559 : Int) (x1560 : Int) (x1561 : Int) : Link spec_l1In_ctx LL (bodyOf Try.f21) spec_l1In_an (⟨mkE 15 0 [(0, .dat (.int .i64) x1559), (1, .dat (.int .i64) x1560), (2, .dat (.int .i64) x1561)], []⟩ : St) (spec_l1In_n1 x1559 x1560 x1561) (fun (t : Bool) => (Exit.ret, (⟨mkE 15 0 [(6, .dat .bool t)], []⟩ : St))) := by
  refine Link.of fun K h => ?_
  simp only [spec_l1In_n1, wpO_bind, wpO_cond, wpO_map, wpO_some] at h
  exact Awp.of (by kernel_rfl) h

theorem spec_l1In_e (x1559 : Int) (x1560 : Int) (x1561 : Int) {r : AV} {H' : Heap} (h : (Ans.mk _ (spec_l1In x1559 x1560 x1561) (fun (t : Bool) => (.dat .bool t, [])) [] none).run = some (r, H')) : Awp spec_l1In_ctx LL (bodyOf Try.f21) spec_l1In_an (⟨mkE 15 0 [(0, .dat (.int .i64) x1559), (1, .dat (.int .i64) x1560), (2, .dat (.int .i64) x1561)], []⟩ : St) (Ret (tlook tys) Try.f21.results.toList r H') :=
  ret_of' (spec_l1In_n1_l x1559 x1560 x1561) (by unfold spec_l1In; kernel_rfl) (by
  intro t
  exact ret_mk [.dat .bool t] (by kernel_rfl) (by kernel_rfl) (by kernel_rfl) (by kernel_rfl)) h

def F_spec_l1In : Fun := fun avs H =>
  match avs, H with
  | [.dat (.int .i64) x1559, .dat (.int .i64) x1560, .dat (.int .i64) x1561], [] => ⟨_, spec_l1In x1559 x1560 x1561, fun (t : Bool) => (.dat .bool t, []), [], none⟩
  | _, _ => Ans.no

theorem spec_l1In_sound : Sound Try.prog 21 F_spec_l1In := by
  refine fn_sound' (C := spec_l1In_ctx) (c := bodyOf Try.f21) (cok_of tys_ok (by simp) (by simp) (by kernel_rfl)) Try.func21 (by kernel_rfl) LL spec_l1In_an ?_
  intro avs H r H' h
  unfold F_spec_l1In at h
  split at h
  · refine Awp.cast ?_ ?_ ?_ (spec_l1In_e _ _ _ h) <;> kernel_rfl
  · simp [Ans.no, Ans.run] at h


/-! loop.example/headtrees/spec.l6Run -/

def spec_l6Run_an : Ann := (.seq (.leaf [0, 1]) (.seq (.leaf [0, 1, 6]) (.seq (.leaf [0, 1, 6, 7]) (.seq (.leaf [0, 1, 6, 7, 8]) (.seq (.seq (.leaf [0, 1, 6, 7, 8, 9]) (.block (.loop (.seq (.seq (.leaf [0, 1, 6, 7, 8, 9, 17]) (.cond (.leaf [0, 1, 6, 7, 8, 9]) (.leaf [0, 6, 7, 8]))) (.seq (.block (.seq (.leaf [0, 1, 6, 7, 8, 9, 10]) (.block (.seq (.leaf [0, 1, 6, 7, 8, 9, 10, 24]) (.cond (.seq (.leaf [0, 1, 6, 7, 8, 9]) (.leaf [0, 1, 6, 7, 8, 9])) (.seq (.leaf [0, 1, 6, 7, 8, 9, 10, 40]) (.cond (.seq (.draw [] [0, 1, 2, 3, 4, 5, 6, 7, 8, 9, 10, 11, 12] [] [0, 1, 6, 7, 8, 9, 10]) (.draw [5, 0, 10] [0, 1, 2, 3, 4, 6, 7, 8, 9, 10, 5, 11, 12] [] [0, 1, 6, 7, 8, 9])) (.seq (.leaf [0, 1, 6, 7, 8, 9, 10, 73]) (.cond (.seq (.draw [] [0, 1, 2, 3, 4, 5, 6, 7, 8, 9, 10, 11, 12] [] [0, 1, 6, 7, 8, 9, 10]) (.leaf [0, 1, 6, 7, 8, 9])) (.seq (.leaf [4, 5]) (.leaf [4, 5]))))))))))) (.leaf [0, 1, 6, 7, 8, 9])))))) (.seq (.leaf [4, 5]) (.leaf [4, 5])))))))

noncomputable def spec_l6Run_ctx : Ctx := ⟨tlook tys, olook [], ioF, 0, false, []⟩

theorem spec_l6Run_n1_l (x1571 : Int) (x1572 : ByteArray) : Link spec_l6Run_ctx LL (Code.seq (Code.fst (bodyOf Try.f22)) (Code.seq (Code.fst (Code.snd (bodyOf Try.f22))) (Code.seq (Code.fst (Code.snd (Code.snd (bodyOf Try.f22)))) (Code.fst (Code.snd (Code.snd (Code.snd (bodyOf Try.f22)))))))) (Ann.seq (Ann.fst spec_l6Run_an) (Ann.seq (Ann.fst (Ann.snd spec_l6Run_an)) (Ann.seq (Ann.fst (Ann.snd (Ann.snd spec_l6Run_an))) (Ann.fst (Ann.snd (Ann.snd (Ann.snd spec_l6Run_an))))))) (⟨mkE 108 0 [(0, .dat (.int .i64) x1571), (1, .dat .str x1572)], []⟩ : St) (spec_l6Run_n1 x1571) (fun (t : (List Int)) => (Exit.normal, (⟨mkE 108 0 [(0, .dat (.int .i64) x1571), (1, .dat .str x1572), (6, .slc 0), (7, .slc 1), (8, .dat (.int .i64) 1)], [some (.seq (.int .i64) t), some (.seq (.int .i64) ([] : List Int))]⟩ : St))) := by
  refine Link.of fun K h => ?_
  simp only [spec_l6Run_n1, wpO_bind, wpO_cond, wpO_map, wpO_some] at h
  exact Awp.of (by kernel_rfl) h

theorem spec_l6Run_n2_l (x1571 : Int) (x1572 : ByteArray) (x1646 : List Int) : Link spec_l6Run_ctx LL (Code.fst (Code.fst (Code.snd (Code.snd (Code.snd (Code.snd (bodyOf Try.f22))))))) (Ann.fst (Ann.fst (Ann.snd (Ann.snd (Ann.snd (Ann.snd spec_l6Run_an)))))) (⟨mkE 108 0 [(0, .dat (.int .i64) x1571), (1, .dat .str x1572), (6, .slc 0), (7, .slc 1), (8, .dat (.int .i64) 1)], [some (.seq (.int .i64) x1646), some (.seq (.int .i64) ([] : List Int))]⟩ : St) (spec_l6Run_n2) (fun (t : Unit) => (Exit.normal, (⟨mkE 108 0 [(0, .dat (.int .i64) x1571), (1, .dat .str x1572), (6, .slc 0), (7, .slc 1), (8, .dat (.int .i64) 1), (9, .dat (.int .i64) 0)], [some (.seq (.int .i64) x1646), some (.seq (.int .i64) ([] : List Int))]⟩ : St))) := by
  refine Link.of fun K h => ?_
  simp only [spec_l6Run_n2, wpO_bind, wpO_cond, wpO_map, wpO_some] at h
  exact Awp.of (by kernel_rfl) h

theorem spec_l6Run_n3_l (x1571 : Int) (x1572 : ByteArray) (x2362 : Int) (x2363 : Int) (x2364 : List Int) (x2365 : List Int) : Link spec_l6Run_ctx LL (Code.fst (Code.fst (Code.fst (Code.snd (Code.fst (Code.snd (Code.snd (Code.snd (Code.snd (bodyOf Try.f22)))))))))) (Ann.fst (Ann.fst (Ann.fst (Ann.snd (Ann.fst (Ann.snd (Ann.snd (Ann.snd (Ann.snd spec_l6Run_an))))))))) (⟨mkE 108 0 [(0, .dat (.int .i64) x1571), (1, .dat .str x1572), (6, .slc 0), (7, .slc 1), (8, .dat (.int .i64) x2362), (9, .dat (.int .i64) x2363)], [some (.seq (.int .i64) x2364), some (.seq (.int .i64) x2365)]⟩ : St) (spec_l6Run_n3 x1572 x2362 x2363 x2364 x2365) (Sum.elim (fun (t : Unit) => (Exit.normal, (⟨mkE 108 0 [(0, .dat (.int .i64) x1571), (1, .dat .str x1572), (6, .slc 0), (7, .slc 1), (8, .dat (.int .i64) x2362), (9, .dat (.int .i64) x2363)], [some (.seq (.int .i64) x2364), some (.seq (.int .i64) x2365)]⟩ : St))) (fun (t : Int × (List Int) × (List Int)) => ((Exit.exit 0), (⟨mkE 108 0 [(0, .dat (.int .i64) x1571), (6, .slc 0), (7, .slc 1), (8, .dat (.int .i64) t.1)], [some (.seq (.int .i64) t.2.1), some (.seq (.int .i64) t.2.2)]⟩ : St)))) := by
  refine Link.of fun K h => ?_
  simp only [spec_l6Run_n3, wpO_bind, wpO_cond, wpO_map, wpO_some] at h
  exact Awp.of (by kernel_rfl) h

theorem spec_l6Run_n4_l (x1571 : Int) (x1572 : ByteArray) (x2362 : Int) (x2363 : Int) (x2364 : List Int) (x2365 : List Int) : Link spec_l6Run_ctx LL (Code.fst (Code.fst (Code.fst (Code.snd (Code.fst (Code.fst (Code.snd (Code.fst (Code.snd (Code.snd (Code.snd (Code.snd (bodyOf Try.f22))))))))))))) (Ann.fst (Ann.fst (Ann.fst (Ann.snd (Ann.fst (Ann.fst (Ann.snd (Ann.fst (Ann.snd (Ann.snd (Ann.snd (Ann.snd spec_l6Run_an)))))))))))) (⟨mkE 108 0 [(0, .dat (.int .i64) x1571), (1, .dat .str x1572), (6, .slc 0), (7, .slc 1), (8, .dat (.int .i64) x2362), (9, .dat (.int .i64) x2363)], [some (.seq (.int .i64) x2364), some (.seq (.int .i64) x2365)]⟩ : St) (spec_l6Run_n4 x2365) (fun (t : Int) => (Exit.normal, (⟨mkE 108 0 [(0, .dat (.int .i64) x1571), (1, .dat .str x1572), (6, .slc 0), (7, .slc 1), (8, .dat (.int .i64) x2362), (9, .dat (.int .i64) x2363), (10, .dat (.int .i64) t)], [some (.seq (.int .i64) x2364), some (.seq (.int .i64) x2365)]⟩ : St))) := by
  refine Link.of fun K h => ?_
  simp only [spec_l6Run_n4, wpO_bind, wpO_cond, wpO_map, wpO_some] at h
  exact Awp.of (by kernel_rfl) h

theorem spec_l6Run_n5_l (x1571 : Int) (x1572 : ByteArray) (x2362 : Int) (x2363 : Int) (x2627 : Int) (x2364 : List Int) (x2365 : List Int) : Link spec_l6Run_ctx LL (Code.fst (Code.fst (Code.snd (Code.fst (Code.fst (Code.snd (Code.fst (Code.fst (Code.snd (Code.fst (Code.snd (Code.snd (Code.snd (Code.snd (bodyOf Try.f22))))))))))))))) (Ann.fst (Ann.fst (Ann.snd (Ann.fst (Ann.fst (Ann.snd (Ann.fst (Ann.fst (Ann.snd (Ann.fst (Ann.snd (Ann.snd (Ann.snd (Ann.snd spec_l6Run_an)))))))))))))) (⟨mkE 108 0 [(0, .dat (.int .i64) x1571), (1, .dat .str x1572), (6, .slc 0), (7, .slc 1), (8, .dat (.int .i64) x2362), (9, .dat (.int .i64) x2363), (10, .dat (.int .i64) x2627)], [some (.seq (.int .i64) x2364), some (.seq (.int .i64) x2365)]⟩ : St) (spec_l6Run_n5 x1571 x1572 x2362 x2363) (fun (t : Bool) => (Exit.normal, (⟨mkE 108 0 [(0, .dat (.int .i64) x1571), (1, .dat .str x1572), (6, .slc 0), (7, .slc 1), (8, .dat (.int .i64) x2362), (9, .dat (.int .i64) x2363), (10, .dat (.int .i64) x2627), (24, .dat .bool t)], [some (.seq (.int .i64) x2364), some (.seq (.int .i64) x2365)]⟩ : St))) := by
  refine Link.of fun K h => ?_
  simp only [spec_l6Run_n5, wpO_bind, wpO_cond, wpO_map, wpO_some] at h
  exact Awp.of (by kernel_rfl) h

theorem spec_l6Run_n6_l (x1571 : Int) (x1572 : ByteArray) (x2362 : Int) (x2363 : Int) (x2627 : Int) (x3011 : Bool) (x2364 : List Int) (x2365 : List Int) : Link spec_l6Run_ctx LL (Code.snd (Code.fst (Code.snd (Code.fst (Code.fst (Code.snd (Code.fst (Code.fst (Code.snd (Code.fst (Code.snd (Code.snd (Code.snd (Code.snd (bodyOf Try.f22))))))))))))))) (Ann.snd (Ann.fst (Ann.snd (Ann.fst (Ann.fst (Ann.snd (Ann.fst (Ann.fst (Ann.snd (Ann.fst (Ann.snd (Ann.snd (Ann.snd (Ann.snd spec_l6Run_an)))))))))))))) (⟨mkE 108 0 [(0, .dat (.int .i64) x1571), (1, .dat .str x1572), (6, .slc 0), (7, .slc 1), (8, .dat (.int .i64) x2362), (9, .dat (.int .i64) x2363), (10, .dat (.int .i64) x2627), (24, .dat .bool x3011)], [some (.seq (.int .i64) x2364), some (.seq (.int .i64) x2365)]⟩ : St) (spec_l6Run_n6 x1572 x2362 x2363 x2627 x3011 x2364 x2365) (Sum.elim (fun (t : Int × (List Int) × (List Int)) => (Exit.normal, (⟨mkE 108 0 [(0, .dat (.int .i64) x1571), (1, .dat .str x1572), (6, .slc 0), (7, .slc 1), (8, .dat (.int .i64) t.1), (9, .dat (.int .i64) x2363)], [some (.seq (.int .i64) t.2.1), some (.seq (.int .i64) t.2.2)]⟩ : St))) (fun (t : Bool × (List Int)) => (Exit.ret, (⟨mkE 108 0 [(4, .slc 0), (5, .dat .bool t.1)], [some (.seq (.int .i64) t.2)]⟩ : St)))) := by
  refine Link.of fun K h => ?_
  simp only [spec_l6Run_n6, wpO_bind, wpO_cond, wpO_map, wpO_some] at h
  exact Awp.of (by kernel_rfl) h

theorem spec_l6Run_n7_l (x1571 : Int) (x1572 : ByteArray) (x2362 : Int) (x2363 : Int) (x2627 : Int) (x2364 : List Int) (x2365 : List Int) : Link spec_l6Run_ctx LL (Code.fst (Code.snd (Code.fst (Code.fst (Code.snd (Code.fst (Code.fst (Code.snd (Code.fst (Code.snd (Code.snd (Code.snd (Code.snd (bodyOf Try.f22)))))))))))))) (Ann.fst (Ann.snd (Ann.fst (Ann.fst (Ann.snd (Ann.fst (Ann.fst (Ann.snd (Ann.fst (Ann.snd (Ann.snd (Ann.snd (Ann.snd spec_l6Run_an))))))))))))) (⟨mkE 108 0 [(0, .dat (.int .i64) x1571), (1, .dat .str x1572), (6, .slc 0), (7, .slc 1), (8, .dat (.int .i64) x2362), (9, .dat (.int .i64) x2363), (10, .dat (.int .i64) x2627)], [some (.seq (.int .i64) x2364), some (.seq (.int .i64) x2365)]⟩ : St) (spec_l6Run_n7 x1571 x1572 x2362 x2363 x2627 x2364 x2365) (Sum.elim (fun (t : Int × (List Int) × (List Int)) => (Exit.normal, (⟨mkE 108 0 [(0, .dat (.int .i64) x1571), (1, .dat .str x1572), (6, .slc 0), (7, .slc 1), (8, .dat (.int .i64) t.1), (9, .dat (.int .i64) x2363)], [some (.seq (.int .i64) t.2.1), some (.seq (.int .i64) t.2.2)]⟩ : St))) (fun (t : Bool × (List Int)) => (Exit.ret, (⟨mkE 108 0 [(4, .slc 0), (5, .dat .bool t.1)], [some (.seq (.int .i64) t.2)]⟩ : St)))) := by
  unfold spec_l6Run_n7
  exact Link.cast (by kernel_rfl) (by kernel_rfl) (link_seq (b := (Code.snd (Code.fst (Code.snd (Code.fst (Code.fst (Code.snd (Code.fst (Code.fst (Code.snd (Code.fst (Code.snd (Code.snd (Code.snd (Code.snd (bodyOf Try.f22)))))))))))))))) (y := (Ann.snd (Ann.fst (Ann.snd (Ann.fst (Ann.fst (Ann.snd (Ann.fst (Ann.fst (Ann.snd (Ann.fst (Ann.snd (Ann.snd (Ann.snd (Ann.snd spec_l6Run_an))))))))))))))) (spec_l6Run_n5_l x1571 x1572 x2362 x2363 x2627 x2364 x2365) (fun (t : Bool) => (spec_l6Run_n6_l x1571 x1572 x2362 x2363 x2627 t x2364 x2365)))

theorem spec_l6Run_n8_l (x1571 : Int) (x1572 : ByteArray) (x2362 : Int) (x2363 : Int) (x2627 : Int) (x2364 : List Int) (x2365 : List Int) : Link spec_l6Run_ctx LL (Code.snd (Code.fst (Code.fst (Code.snd (Code.fst (Code.fst (Code.snd (Code.fst (Code.snd (Code.snd (Code.snd (Code.snd (bodyOf Try.f22))))))))))))) (Ann.snd (Ann.fst (Ann.fst (Ann.snd (Ann.fst (Ann.fst (Ann.snd (Ann.fst (Ann.snd (Ann.snd (Ann.snd (Ann.snd spec_l6Run_an)))))))))))) (⟨mkE 108 0 [(0, .dat (.int .i64) x1571), (1, .dat .str x1572), (6, .slc 0), (7, .slc 1), (8, .dat (.int .i64) x2362), (9, .dat (.int .i64) x2363), (10, .dat (.int .i64) x2627)], [some (.seq (.int .i64) x2364), some (.seq (.int .i64) x2365)]⟩ : St) (spec_l6Run_n8 x1571 x1572 x2362 x2363 x2627 x2364 x2365) (Sum.elim (fun (t : Int × (List Int) × (List Int)) => (Exit.normal, (⟨mkE 108 0 [(0, .dat (.int .i64) x1571), (1, .dat .str x1572), (6, .slc 0), (7, .slc 1), (8, .dat (.int .i64) t.1), (9, .dat (.int .i64) x2363)], [some (.seq (.int .i64) t.2.1), some (.seq (.int .i64) t.2.2)]⟩ : St))) (fun (t : Bool × (List Int)) => (Exit.ret, (⟨mkE 108 0 [(4, .slc 0), (5, .dat .bool t.1)], [some (.seq (.int .i64) t.2)]⟩ : St)))) := by
  unfold spec_l6Run_n8
  exact Link.cast (by kernel_rfl) (by kernel_rfl) (link_block (id := 2) (spec_l6Run_n7_l x1571 x1572 x2362 x2363 x2627 x2364 x2365) (Sum.elim (fun (t : Int × (List Int) × (List Int)) => (Sum.inl (t.1, t.2.1, t.2.2))) (fun (t : Bool × (List Int)) => (Sum.inr t))) (by
  rintro (t | t) K h
  · exact Eq.mp (by kernel_rfl) h
  · exact Eq.mp (by kernel_rfl) h))

theorem spec_l6Run_n9_l (x1571 : Int) (x1572 : ByteArray) (x2362 : Int) (x2363 : Int) (x2364 : List Int) (x2365 : List Int) : Link spec_l6Run_ctx LL (Code.fst (Code.fst (Code.snd (Code.fst (Code.fst (Code.snd (Code.fst (Code.snd (Code.snd (Code.snd (Code.snd (bodyOf Try.f22)))))))))))) (Ann.fst (Ann.fst (Ann.snd (Ann.fst (Ann.fst (Ann.snd (Ann.fst (Ann.snd (Ann.snd (Ann.snd (Ann.snd spec_l6Run_an))))))))))) (⟨mkE 108 0 [(0, .dat (.int .i64) x1571), (1, .dat .str x1572), (6, .slc 0), (7, .slc 1), (8, .dat (.int .i64) x2362), (9, .dat (.int .i64) x2363)], [some (.seq (.int .i64) x2364), some (.seq (.int .i64) x2365)]⟩ : St) (spec_l6Run_n9 x1571 x1572 x2362 x2363 x2364 x2365) (Sum.elim (fun (t : Int × (List Int) × (List Int)) => (Exit.normal, (⟨mkE 108 0 [(0, .dat (.int .i64) x1571), (1, .dat .str x1572), (6, .slc 0), (7, .slc 1), (8, .dat (.int .i64) t.1), (9, .dat (.int .i64) x2363)], [some (.seq (.int .i64) t.2.1), some (.seq (.int .i64) t.2.2)]⟩ : St))) (fun (t : Bool × (List Int)) => (Exit.ret, (⟨mkE 108 0 [(4, .slc 0), (5, .dat .bool t.1)], [some (.seq (.int .i64) t.2)]⟩ : St)))) := by
  unfold spec_l6Run_n9
  exact Link.cast (by kernel_rfl) (by kernel_rfl) (link_seq (b := (Code.snd (Code.fst (Code.fst (Code.snd (Code.fst (Code.fst (Code.snd (Code.fst (Code.snd (Code.snd (Code.snd (Code.snd (bodyOf Try.f22)))))))))))))) (y := (Ann.snd (Ann.fst (Ann.fst (Ann.snd (Ann.fst (Ann.fst (Ann.snd (Ann.fst (Ann.snd (Ann.snd (Ann.snd (Ann.snd spec_l6Run_an))))))))))))) (spec_l6Run_n4_l x1571 x1572 x2362 x2363 x2364 x2365) (fun (t : Int) => (spec_l6Run_n8_l x1571 x1572 x2362 x2363 t x2364 x2365)))

theorem spec_l6Run_n10_l (x1571 : Int) (x1572 : ByteArray) (x2362 : Int) (x2363 : Int) (x2364 : List Int) (x2365 : List Int) : Link spec_l6Run_ctx LL (Code.fst (Code.snd (Code.fst (Code.fst (Code.snd (Code.fst (Code.snd (Code.snd (Code.snd (Code.snd (bodyOf Try.f22))))))))))) (Ann.fst (Ann.snd (Ann.fst (Ann.fst (Ann.snd (Ann.fst (Ann.snd (Ann.snd (Ann.snd (Ann.snd spec_l6Run_an)))))))))) (⟨mkE 108 0 [(0, .dat (.int .i64) x1571), (1, .dat .str x1572), (6, .slc 0), (7, .slc 1), (8, .dat (.int .i64) x2362), (9, .dat (.int .i64) x2363)], [some (.seq (.int .i64) x2364), some (.seq (.int .i64) x2365)]⟩ : St) (spec_l6Run_n10 x1571 x1572 x2362 x2363 x2364 x2365) (Sum.elim (fun (t : Int × (List Int) × (List Int)) => (Exit.normal, (⟨mkE 108 0 [(0, .dat (.int .i64) x1571), (1, .dat .str x1572), (6, .slc 0), (7, .slc 1), (8, .dat (.int .i64) t.1), (9, .dat (.int .i64) x2363)], [some (.seq (.int .i64) t.2.1), some (.seq (.int .i64) t.2.2)]⟩ : St))) (fun (t : Bool × (List Int)) => (Exit.ret, (⟨mkE 108 0 [(4, .slc 0), (5, .dat .bool t.1)], [some (.seq (.int .i64) t.2)]⟩ : St)))) := by
  unfold spec_l6Run_n10
  exact Link.cast (by kernel_rfl) (by kernel_rfl) (link_block (id := 1) (spec_l6Run_n9_l x1571 x1572 x2362 x2363 x2364 x2365) (Sum.elim (fun (t : Int × (List Int) × (List Int)) => (Sum.inl (t.1, t.2.1, t.2.2))) (fun (t : Bool × (List Int)) => (Sum.inr t))) (by
  rintro (t | t) K h
  · exact Eq.mp (by kernel_rfl) h
  · exact Eq.mp (by kernel_rfl) h))

theorem spec_l6Run_n11_l (x1571 : Int) (x1572 : ByteArray) (x3076 : Int) (x2363 : Int) (x3077 : List Int) (x3078 : List Int) : Link spec_l6Run_ctx LL (Code.snd (Code.snd (Code.fst (Code.fst (Code.snd (Code.fst (Code.snd (Code.snd (Code.snd (Code.snd (bodyOf Try.f22))))))))))) (Ann.snd (Ann.snd (Ann.fst (Ann.fst (Ann.snd (Ann.fst (Ann.snd (Ann.snd (Ann.snd (Ann.snd spec_l6Run_an)))))))))) (⟨mkE 108 0 [(0, .dat (.int .i64) x1571), (1, .dat .str x1572), (6, .slc 0), (7, .slc 1), (8, .dat (.int .i64) x3076), (9, .dat (.int .i64) x2363)], [some (.seq (.int .i64) x3077), some (.seq (.int .i64) x3078)]⟩ : St) (spec_l6Run_n11 x2363) (fun (t : Int) => (Exit.normal, (⟨mkE 108 0 [(0, .dat (.int .i64) x1571), (1, .dat .str x1572), (6, .slc 0), (7, .slc 1), (8, .dat (.int .i64) x3076), (9, .dat (.int .i64) t)], [some (.seq (.int .i64) x3077), some (.seq (.int .i64) x3078)]⟩ : St))) := by
  refine Link.of fun K h => ?_
  simp only [spec_l6Run_n11, wpO_bind, wpO_cond, wpO_map, wpO_some] at h
  exact Awp.of (by kernel_rfl) h

theorem spec_l6Run_n12_l (x1571 : Int) (x1572 : ByteArray) (x2362 : Int) (x2363 : Int) (x2364 : List Int) (x2365 : List Int) : Link spec_l6Run_ctx LL (Code.snd (Code.fst (Code.fst (Code.snd (Code.fst (Code.snd (Code.snd (Code.snd (Code.snd (bodyOf Try.f22)))))))))) (Ann.snd (Ann.fst (Ann.fst (Ann.snd (Ann.fst (Ann.snd (Ann.snd (Ann.snd (Ann.snd spec_l6Run_an))))))))) (⟨mkE 108 0 [(0, .dat (.int .i64) x1571), (1, .dat .str x1572), (6, .slc 0), (7, .slc 1), (8, .dat (.int .i64) x2362), (9, .dat (.int .i64) x2363)], [some (.seq (.int .i64) x2364), some (.seq (.int .i64) x2365)]⟩ : St) (spec_l6Run_n12 x1571 x1572 x2362 x2363 x2364 x2365) (Sum.elim (fun (t : Int × Int × (List Int) × (List Int)) => (Exit.normal, (⟨mkE 108 0 [(0, .dat (.int .i64) x1571), (1, .dat .str x1572), (6, .slc 0), (7, .slc 1), (8, .dat (.int .i64) t.1), (9, .dat (.int .i64) t.2.1)], [some (.seq (.int .i64) t.2.2.1), some (.seq (.int .i64) t.2.2.2)]⟩ : St))) (fun (t : Bool × (List Int)) => (Exit.ret, (⟨mkE 108 0 [(4, .slc 0), (5, .dat .bool t.1)], [some (.seq (.int .i64) t.2)]⟩ : St)))) := by
  unfold spec_l6Run_n12
  exact Link.cast (by kernel_rfl) (by kernel_rfl) (link_seq2 (b := (Code.snd (Code.snd (Code.fst (Code.fst (Code.snd (Code.fst (Code.snd (Code.snd (Code.snd (Code.snd (bodyOf Try.f22)))))))))))) (y := (Ann.snd (Ann.snd (Ann.fst (Ann.fst (Ann.snd (Ann.fst (Ann.snd (Ann.snd (Ann.snd (Ann.snd spec_l6Run_an))))))))))) (spec_l6Run_n10_l x1571 x1572 x2362 x2363 x2364 x2365) (fun (t : Int × (List Int) × (List Int)) => (link_map (spec_l6Run_n11_l x1571 x1572 t.1 x2363 t.2.1 t.2.2) (fun (u : Int) => (Sum.inl (t.1, u, t.2.1, t.2.2))) (by
  rintro t
  · kernel_rfl))) (fun (t : Bool × (List Int)) => (Sum.inr t)) (by
  rintro t
  · kernel_rfl) (by
  rintro t f K h
  · exact h))

theorem spec_l6Run_n13_l (x1571 : Int) (x1572 : ByteArray) (x2362 : Int) (x2363 : Int) (x2364 : List Int) (x2365 : List Int) : Link spec_l6Run_ctx LL (Code.fst (Code.fst (Code.snd (Code.fst (Code.snd (Code.snd (Code.snd (Code.snd (bodyOf Try.f22))))))))) (Ann.fst (Ann.fst (Ann.snd (Ann.fst (Ann.snd (Ann.snd (Ann.snd (Ann.snd spec_l6Run_an)))))))) (⟨mkE 108 0 [(0, .dat (.int .i64) x1571), (1, .dat .str x1572), (6, .slc 0), (7, .slc 1), (8, .dat (.int .i64) x2362), (9, .dat (.int .i64) x2363)], [some (.seq (.int .i64) x2364), some (.seq (.int .i64) x2365)]⟩ : St) (spec_l6Run_n13 x1571 x1572 x2362 x2363 x2364 x2365) (Sum.elim (fun (t : Int × Int × (List Int) × (List Int)) => (Exit.normal, (⟨mkE 108 0 [(0, .dat (.int .i64) x1571), (1, .dat .str x1572), (6, .slc 0), (7, .slc 1), (8, .dat (.int .i64) t.1), (9, .dat (.int .i64) t.2.1)], [some (.seq (.int .i64) t.2.2.1), some (.seq (.int .i64) t.2.2.2)]⟩ : St))) (Sum.elim (fun (t : Bool × (List Int)) => (Exit.ret, (⟨mkE 108 0 [(4, .slc 0), (5, .dat .bool t.1)], [some (.seq (.int .i64) t.2)]⟩ : St))) (fun (t : Int × (List Int) × (List Int)) => ((Exit.exit 0), (⟨mkE 108 0 [(0, .dat (.int .i64) x1571), (6, .slc 0), (7, .slc 1), (8, .dat (.int .i64) t.1)], [some (.seq (.int .i64) t.2.1), some (.seq (.int .i64) t.2.2)]⟩ : St))))) := by
  unfold spec_l6Run_n13
  exact Link.cast (by kernel_rfl) (by kernel_rfl) (link_seq2 (b := (Code.snd (Code.fst (Code.fst (Code.snd (Code.fst (Code.snd (Code.snd (Code.snd (Code.snd (bodyOf Try.f22))))))))))) (y := (Ann.snd (Ann.fst (Ann.fst (Ann.snd (Ann.fst (Ann.snd (Ann.snd (Ann.snd (Ann.snd spec_l6Run_an)))))))))) (spec_l6Run_n3_l x1571 x1572 x2362 x2363 x2364 x2365) (fun (t : Unit) => (link_map (spec_l6Run_n12_l x1571 x1572 x2362 x2363 x2364 x2365) (Sum.elim (fun (t : Int × Int × (List Int) × (List Int)) => (Sum.inl (t.1, t.2.1, t.2.2.1, t.2.2.2))) (fun (t : Bool × (List Int)) => (Sum.inr (Sum.inl t)))) (by
  rintro (t | t)
  · kernel_rfl
  · kernel_rfl))) (fun (t : Int × (List Int) × (List Int)) => (Sum.inr (Sum.inr t))) (by
  rintro t
  · kernel_rfl) (by
  rintro t f K h
  · exact h))

theorem spec_l6Run_n14_l (x1571 : Int) (x1572 : ByteArray) (x1646 : List Int) : Link spec_l6Run_ctx LL (Code.fst (Code.snd (Code.fst (Code.snd (Code.snd (Code.snd (Code.snd (bodyOf Try.f22)))))))) (Ann.fst (Ann.snd (Ann.fst (Ann.snd (Ann.snd (Ann.snd (Ann.snd spec_l6Run_an))))))) (⟨mkE 108 0 [(0, .dat (.int .i64) x1571), (1, .dat .str x1572), (6, .slc 0), (7, .slc 1), (8, .dat (.int .i64) 1), (9, .dat (.int .i64) 0)], [some (.seq (.int .i64) x1646), some (.seq (.int .i64) ([] : List Int))]⟩ : St) (spec_l6Run_n14 x1571 x1572 x1646) (Sum.elim (fun (t : Bool × (List Int)) => (Exit.ret, (⟨mkE 108 0 [(4, .slc 0), (5, .dat .bool t.1)], [some (.seq (.int .i64) t.2)]⟩ : St))) (fun (t : Int × (List Int) × (List Int)) => ((Exit.exit 0), (⟨mkE 108 0 [(0, .dat (.int .i64) x1571), (6, .slc 0), (7, .slc 1), (8, .dat (.int .i64) t.1)], [some (.seq (.int .i64) t.2.1), some (.seq (.int .i64) t.2.2)]⟩ : St)))) := by
  unfold spec_l6Run_n14
  exact Link.cast (by kernel_rfl) (by kernel_rfl) (link_loop (mk := fun (s : Int × Int × (List Int) × (List Int)) => (⟨mkE 108 0 [(0, .dat (.int .i64) x1571), (1, .dat .str x1572), (6, .slc 0), (7, .slc 1), (8, .dat (.int .i64) s.1), (9, .dat (.int .i64) s.2.1)], [some (.seq (.int .i64) s.2.2.1), some (.seq (.int .i64) s.2.2.2)]⟩ : St)) (fin := (Sum.elim (fun (t : Bool × (List Int)) => (Exit.ret, (⟨mkE 108 0 [(4, .slc 0), (5, .dat .bool t.1)], [some (.seq (.int .i64) t.2)]⟩ : St))) (fun (t : Int × (List Int) × (List Int)) => ((Exit.exit 0), (⟨mkE 108 0 [(0, .dat (.int .i64) x1571), (6, .slc 0), (7, .slc 1), (8, .dat (.int .i64) t.1)], [some (.seq (.int .i64) t.2.1), some (.seq (.int .i64) t.2.2)]⟩ : St))))) (by
  rintro (t | t) f K h
  · exact h
  · exact h) (fun s => link_map (spec_l6Run_n13_l x1571 x1572 s.1 s.2.1 s.2.2.1 s.2.2.2) (Sum.elim (fun (t : Int × Int × (List Int) × (List Int)) => Sum.inl (t.1, t.2.1, t.2.2.1, t.2.2.2)) (Sum.elim (fun (t : Bool × (List Int)) => Sum.inr (Sum.inl t)) (fun (t : Int × (List Int) × (List Int)) => Sum.inr (Sum.inr t)))) (by
  rintro (t | t | t)
  · kernel_rfl
  · kernel_rfl
  · kernel_rfl)) (1, 0, x1646, ([] : List Int)))

theorem spec_l6Run_n15_l (x1571 : Int) (x1572 : ByteArray) (x1646 : List Int) : Link spec_l6Run_ctx LL (Code.snd (Code.fst (Code.snd (Code.snd (Code.snd (Code.snd (bodyOf Try.f22))))))) (Ann.snd (Ann.fst (Ann.snd (Ann.snd (Ann.snd (Ann.snd spec_l6Run_an)))))) (⟨mkE 108 0 [(0, .dat (.int .i64) x1571), (1, .dat .str x1572), (6, .slc 0), (7, .slc 1), (8, .dat (.int .i64) 1), (9, .dat (.int .i64) 0)], [some (.seq (.int .i64) x1646), some (.seq (.int .i64) ([] : List Int))]⟩ : St) (spec_l6Run_n15 x1571 x1572 x1646) (Sum.elim (fun (t : Int × (List Int) × (List Int)) => (Exit.normal, (⟨mkE 108 0 [(0, .dat (.int .i64) x1571), (6, .slc 0), (7, .slc 1), (8, .dat (.int .i64) t.1)], [some (.seq (.int .i64) t.2.1), some (.seq (.int .i64) t.2.2)]⟩ : St))) (fun (t : Bool × (List Int)) => (Exit.ret, (⟨mkE 108 0 [(4, .slc 0), (5, .dat .bool t.1)], [some (.seq (.int .i64) t.2)]⟩ : St)))) := by
  unfold spec_l6Run_n15
  exact Link.cast (by kernel_rfl) (by kernel_rfl) (link_block (id := 0) (spec_l6Run_n14_l x1571 x1572 x1646) (Sum.elim (fun (t : Bool × (List Int)) => (Sum.inr t)) (fun (t : Int × (List Int) × (List Int)) => (Sum.inl (t.1, t.2.1, t.2.2)))) (by
  rintro (t | t) K h
  · exact Eq.mp (by kernel_rfl) h
  · exact Eq.mp (by kernel_rfl) h))

theorem spec_l6Run_n16_l (x1571 : Int) (x1572 : ByteArray) (x1646 : List Int) : Link spec_l6Run_ctx LL (Code.fst (Code.snd (Code.snd (Code.snd (Code.snd (bodyOf Try.f22)))))) (Ann.fst (Ann.snd (Ann.snd (Ann.snd (Ann.snd spec_l6Run_an))))) (⟨mkE 108 0 [(0, .dat (.int .i64) x1571), (1, .dat .str x1572), (6, .slc 0), (7, .slc 1), (8, .dat (.int .i64) 1)], [some (.seq (.int .i64) x1646), some (.seq (.int .i64) ([] : List Int))]⟩ : St) (spec_l6Run_n16 x1571 x1572 x1646) (Sum.elim (fun (t : Int × (List Int) × (List Int)) => (Exit.normal, (⟨mkE 108 0 [(0, .dat (.int .i64) x1571), (6, .slc 0), (7, .slc 1), (8, .dat (.int .i64) t.1)], [some (.seq (.int .i64) t.2.1), some (.seq (.int .i64) t.2.2)]⟩ : St))) (fun (t : Bool × (List Int)) => (Exit.ret, (⟨mkE 108 0 [(4, .slc 0), (5, .dat .bool t.1)], [some (.seq (.int .i64) t.2)]⟩ : St)))) := by
  unfold spec_l6Run_n16
  exact Link.cast (by kernel_rfl) (by kernel_rfl) (link_seq (b := (Code.snd (Code.fst (Code.snd (Code.snd (Code.snd (Code.snd (bodyOf Try.f22)))))))) (y := (Ann.snd (Ann.fst (Ann.snd (Ann.snd (Ann.snd (Ann.snd spec_l6Run_an))))))) (spec_l6Run_n2_l x1571 x1572 x1646) (fun (t : Unit) => (spec_l6Run_n15_l x1571 x1572 x1646)))

theorem spec_l6Run_n17_l (x1571 : Int) (x2362 : Int) (x2364 : List Int) (x2365 : List Int) : Link spec_l6Run_ctx LL (Code.snd (Code.snd (Code.snd (Code.snd (Code.snd (bodyOf Try.f22)))))) (Ann.snd (Ann.snd (Ann.snd (Ann.snd (Ann.snd spec_l6Run_an))))) (⟨mkE 108 0 [(0, .dat (.int .i64) x1571), (6, .slc 0), (7, .slc 1), (8, .dat (.int .i64) x2362)], [some (.seq (.int .i64) x2364), some (.seq (.int .i64) x2365)]⟩ : St) (spec_l6Run_n17 x1571 x2362 x2364 x2365) (fun (t : Bool × (List Int)) => (Exit.ret, (⟨mkE 108 0 [(4, .slc 0), (5, .dat .bool t.1)], [some (.seq (.int .i64) t.2)]⟩ : St))) := by
  refine Link.of fun K h => ?_
  simp only [spec_l6Run_n17, wpO_bind, wpO_cond, wpO_map, wpO_some] at h
  exact Awp.of (by kernel_rfl) h

theorem spec_l6Run_n18_l (x1571 : Int) (x1572 : ByteArray) (x1646 : List Int) : Link spec_l6Run_ctx LL (Code.snd (Code.snd (Code.snd (Code.snd (bodyOf Try.f22))))) (Ann.snd (Ann.snd (Ann.snd (Ann.snd spec_l6Run_an)))) (⟨mkE 108 0 [(0, .dat (.int .i64) x1571), (1, .dat .str x1572), (6, .slc 0), (7, .slc 1), (8, .dat (.int .i64) 1)], [some (.seq (.int .i64) x1646), some (.seq (.int .i64) ([] : List Int))]⟩ : St) (spec_l6Run_n18 x1571 x1572 x1646) (fun (t : Bool × (List Int)) => (Exit.ret, (⟨mkE 108 0 [(4, .slc 0), (5, .dat .bool t.1)], [some (.seq (.int .i64) t.2)]⟩ : St))) := by
  unfold spec_l6Run_n18
  exact Link.cast (by kernel_rfl) (by kernel_rfl) (link_seq2 (b := (Code.snd (Code.snd (Code.snd (Code.snd (Code.snd (bodyOf Try.f22))))))) (y := (Ann.snd (Ann.snd (Ann.snd (Ann.snd (Ann.snd spec_l6Run_an)))))) (spec_l6Run_n16_l x1571 x1572 x1646) (fun (t : Int × (List Int) × (List Int)) => (spec_l6Run_n17_l x1571 t.1 t.2.1 t.2.2)) (fun (t : Bool × (List Int)) => t) (by
  rintro t
  · kernel_rfl) (by
  rintro t f K h
  · exact h))

theorem spec_l6Run_n19_l (x1571 : Int) (x1572 : ByteArray) : Link spec_l6Run_ctx LL (bodyOf Try.f22) spec_l6Run_an (⟨mkE 108 0 [(0, .dat (.int .i64) x1571), (1, .dat .str x1572)], []⟩ : St) (spec_l6Run_n19 x1571 x1572) (fun (t : Bool × (List Int)) => (Exit.ret, (⟨mkE 108 0 [(4, .slc 0), (5, .dat .bool t.1)], [some (.seq (.int .i64) t.2)]⟩ : St))) := by
  unfold spec_l6Run_n19
  exact Link.cast (by kernel_rfl) (by kernel_rfl) (link_group (c := (Code.fst (Code.snd (Code.snd (Code.snd (bodyOf Try.f22)))))) (a := (Ann.fst (Ann.snd (Ann.snd (Ann.snd spec_l6Run_an))))) [(Code.fst (bodyOf Try.f22)), (Code.fst (Code.snd (bodyOf Try.f22))), (Code.fst (Code.snd (Code.snd (bodyOf Try.f22))))] [(Ann.fst spec_l6Run_an), (Ann.fst (Ann.snd spec_l6Run_an)), (Ann.fst (Ann.snd (Ann.snd spec_l6Run_an)))] rfl (link_seq (b := (Code.snd (Code.snd (Code.snd (Code.snd (bodyOf Try.f22)))))) (y := (Ann.snd (Ann.snd (Ann.snd (Ann.snd spec_l6Run_an))))) (spec_l6Run_n1_l x1571 x1572) (fun (t : (List Int)) => (spec_l6Run_n18_l x1571 x1572 t))))

theorem spec_l6Run_e (x1571 : Int) (x1572 : ByteArray) {r : AV} {H' : Heap} (h : (Ans.mk _ (spec_l6Run x1571 x1572) (fun (t : Bool × (List Int)) => (.tup [.slc 0, .dat .bool t.1], [some (.seq (.int .i64) t.2)])) [] none).run = some (r, H')) : Awp spec_l6Run_ctx LL (bodyOf Try.f22) spec_l6Run_an (⟨mkE 108 0 [(0, .dat (.int .i64) x1571), (1, .dat .str x1572)], []⟩ : St) (Ret (tlook tys) Try.f22.results.toList r H') :=
  ret_of' (spec_l6Run_n19_l x1571 x1572) (by unfold spec_l6Run; kernel_rfl) (by
  intro t
  exact ret_mk [.slc 0, .dat .bool t.1] (by kernel_rfl) (by kernel_rfl) (by kernel_rfl) (by kernel_rfl)) h

def F_spec_l6Run : Fun := fun avs H =>
  match avs, H with
  | [.dat (.int .i64) x1571, .dat .str x1572], [] => ⟨_, spec_l6Run x1571 x1572, fun (t : Bool × (List Int)) => (.tup [.slc 0, .dat .bool t.1], [some (.seq (.int .i64) t.2)]), [], none⟩
  | _, _ => Ans.no

theorem spec_l6Run_sound : Sound Try.prog 22 F_spec_l6Run := by
  refine fn_sound' (C := spec_l6Run_ctx) (c := bodyOf Try.f22) (cok_of tys_ok (by simp) (by simp) (by kernel_rfl)) Try.func22 (by kernel_rfl) LL spec_l6Run_an ?_
  intro avs H r H' h
  unfold F_spec_l6Run at h
  split at h
  · refine Awp.cast ?_ ?_ ?_ (spec_l6Run_e _ _ h) <;> kernel_rfl
  · simp [Ans.no, Ans.run] at h


/-! loop.example/headtrees/spec.RunStack -/

def spec_RunStack_an : Ann := (.seq (.leaf [0, 1]) (.seq (.seq (.leaf [0, 1, 10]) (.cond (.seq (.leaf [4, 5]) (.leaf [4, 5])) (.leaf [0, 1]))) (.seq (.leaf [6, 7]) (.seq (.seq (.leaf [6, 19]) (.cond (.seq (.leaf [4, 5]) (.leaf [4, 5])) (.leaf [6]))) (.seq (.leaf [4, 5]) (.leaf [4, 5]))))))

noncomputable def spec_RunStack_ctx : Ctx := ⟨tlook tys, olook [(21, F_spec_l1In), (22, F_spec_l6Run)], ioF, 0, false, []⟩

theorem spec_RunStack_n1_l (x1557 : Int) (x1558 : ByteArray) : Link spec_RunStack_ctx LL (bodyOf Try.f11) spec_RunStack_an (⟨mkE 22 0 [(0, .dat (.int .i64) x1557), (1, .dat .str x1558)], []⟩ : St) (spec_RunStack_n1 x1557 x1558) (fun (t : Bool × (List Int)) => (Exit.ret, (⟨mkE 22 0 [(4, .slc 0), (5, .dat .bool t.1)], [some (.seq (.int .i64) t.2)]⟩ : St))) := by
  refine Link.of fun K h => ?_
  simp only [spec_RunStack_n1, wpO_bind, wpO_cond, wpO_map, wpO_some] at h
  exact Awp.of (by kernel_rfl) h

theorem spec_RunStack_e (x1557 : Int) (x1558 : ByteArray) {r : AV} {H' : Heap} (h : (Ans.mk _ (spec_RunStack x1557 x1558) (fun (t : Bool × (List Int)) => (.tup [.slc 0, .dat .bool t.1], [some (.seq (.int .i64) t.2)])) [] none).run = some (r, H')) : Awp spec_RunStack_ctx LL (bodyOf Try.f11) spec_RunStack_an (⟨mkE 22 0 [(0, .dat (.int .i64) x1557), (1, .dat .str x1558)], []⟩ : St) (Ret (tlook tys) Try.f11.results.toList r H') :=
  ret_of' (spec_RunStack_n1_l x1557 x1558) (by unfold spec_RunStack; kernel_rfl) (by
  intro t
  exact ret_mk [.slc 0, .dat .bool t.1] (by kernel_rfl) (by kernel_rfl) (by kernel_rfl) (by kernel_rfl)) h

def F_spec_RunStack : Fun := fun avs H =>
  match avs, H with
  | [.dat (.int .i64) x1557, .dat .str x1558], [] => ⟨_, spec_RunStack x1557 x1558, fun (t : Bool × (List Int)) => (.tup [.slc 0, .dat .bool t.1], [some (.seq (.int .i64) t.2)]), [], none⟩
  | _, _ => Ans.no

theorem spec_RunStack_sound : Sound Try.prog 11 F_spec_RunStack := by
  refine fn_sound' (C := spec_RunStack_ctx) (c := bodyOf Try.f11) (cok_of tys_ok (List.forall_mem_cons.2 ⟨spec_l1In_sound, List.forall_mem_cons.2 ⟨spec_l6Run_sound, by simp⟩⟩) (List.forall_mem_cons.2 ⟨Try.call21, List.forall_mem_cons.2 ⟨Try.call22, by simp⟩⟩) (by kernel_rfl)) Try.func11 (by kernel_rfl) LL spec_RunStack_an ?_
  intro avs H r H' h
  unfold F_spec_RunStack at h
  split at h
  · refine Awp.cast ?_ ?_ ?_ (spec_RunStack_e _ _ h) <;> kernel_rfl
  · simp [Ans.no, Ans.run] at h


/-! loop.example/headtrees/spec.DeepestStack -/

def spec_DeepestStack_an : Ann := (.seq (.leaf [0, 1]) (.seq (.leaf [1, 6]) (.seq (.seq (.leaf [1, 17]) (.cond (.seq (.leaf [4]) (.leaf [4])) (.leaf [1]))) (.seq (.leaf [1, 7]) (.seq (.leaf [1, 7, 8]) (.seq (.seq (.leaf [1, 7, 8, 9]) (.block (.loop (.seq (.seq (.leaf [1, 7, 8, 9, 21]) (.cond (.leaf [1, 7, 8, 9]) (.leaf [7]))) (.seq (.block (.seq (.seq (.leaf [1, 7, 8, 9, 27]) (.cond (.leaf [1, 7, 8, 9]) (.leaf [1, 7, 8, 9]))) (.leaf [1, 7, 8, 9]))) (.leaf [1, 7, 8, 9])))))) (.seq (.leaf [4]) (.leaf [4]))))))))

noncomputable def spec_DeepestStack_ctx : Ctx := ⟨tlook tys, olook [(11, F_spec_RunStack)], ioF, 0, false, []⟩

theorem spec_DeepestStack_n1_l (x1555 : Int) (x1556 : ByteArray) : Link spec_DeepestStack_ctx LL (Code.seq (Code.fst (bodyOf Try.f9)) (Code.seq (Code.fst (Code.snd (bodyOf Try.f9))) (Code.seq (Code.fst (Code.snd (Code.snd (bodyOf Try.f9)))) (Code.seq (Code.fst (Code.snd (Code.snd (Code.snd (bodyOf Try.f9))))) (Code.fst (Code.snd (Code.snd (Code.snd (Code.snd (bodyOf Try.f9)))))))))) (Ann.seq (Ann.fst spec_DeepestStack_an) (Ann.seq (Ann.fst (Ann.snd spec_DeepestStack_an)) (Ann.seq (Ann.fst (Ann.snd (Ann.snd spec_DeepestStack_an))) (Ann.seq (Ann.fst (Ann.snd (Ann.snd (Ann.snd spec_DeepestStack_an)))) (Ann.fst (Ann.snd (Ann.snd (Ann.snd (Ann.snd spec_DeepestStack_an))))))))) (⟨mkE 36 0 [(0, .dat (.int .i64) x1555), (1, .dat .str x1556)], []⟩ : St) (spec_DeepestStack_n1 x1555 x1556) (Sum.elim (fun (t : Unit) => (Exit.normal, (⟨mkE 36 0 [(1, .dat .str x1556), (7, .dat (.int .i64) 0), (8, .dat (.int .i64) 0)], []⟩ : St))) (fun (t : Int) => (Exit.ret, (⟨mkE 36 0 [(4, .dat (.int .i64) t)], []⟩ : St)))) := by
  refine Link.of fun K h => ?_
  simp only [spec_DeepestStack_n1, wpO_bind, wpO_cond, wpO_map, wpO_some] at h
  exact Awp.of (by kernel_rfl) h

theorem spec_DeepestStack_n2_l (x1556 : ByteArray) : Link spec_DeepestStack_ctx LL (Code.fst (Code.fst (Code.snd (Code.snd (Code.snd (Code.snd (Code.snd (bodyOf Try.f9)))))))) (Ann.fst (Ann.fst (Ann.snd (Ann.snd (Ann.snd (Ann.snd (Ann.snd spec_DeepestStack_an))))))) (⟨mkE 36 0 [(1, .dat .str x1556), (7, .dat (.int .i64) 0), (8, .dat (.int .i64) 0)], []⟩ : St) (spec_DeepestStack_n2) (fun (t : Unit) => (Exit.normal, (⟨mkE 36 0 [(1, .dat .str x1556), (7, .dat (.int .i64) 0), (8, .dat (.int .i64) 0), (9, .dat (.int .i64) 0)], []⟩ : St))) := by
  refine Link.of fun K h => ?_
  simp only [spec_DeepestStack_n2, wpO_bind, wpO_cond, wpO_map, wpO_some] at h
  exact Awp.of (by kernel_rfl) h

theorem spec_DeepestStack_n3_l (x1556 : ByteArray) (x3149 : Int) (x3150 : Int) (x3151 : Int) : Link spec_DeepestStack_ctx LL (Code.fst (Code.fst (Code.snd (Code.fst (Code.snd (Code.snd (Code.snd (Code.snd (Code.snd (bodyOf Try.f9)))))))))) (Ann.fst (Ann.fst (Ann.snd (Ann.fst (Ann.snd (Ann.snd (Ann.snd (Ann.snd (Ann.snd spec_DeepestStack_an))))))))) (⟨mkE 36 0 [(1, .dat .str x1556), (7, .dat (.int .i64) x3149), (8, .dat (.int .i64) x3150), (9, .dat (.int .i64) x3151)], []⟩ : St) (spec_DeepestStack_n3 x1556 x3149 x3150 x3151) (Sum.elim (fun (t : Int × Int × Int) => (Exit.normal, (⟨mkE 36 0 [(1, .dat .str x1556), (7, .dat (.int .i64) t.1), (8, .dat (.int .i64) t.2.1), (9, .dat (.int .i64) t.2.2)], []⟩ : St))) (fun (t : Int) => ((Exit.exit 0), (⟨mkE 36 0 [(7, .dat (.int .i64) t)], []⟩ : St)))) := by
  refine Link.of fun K h => ?_
  simp only [spec_DeepestStack_n3, wpO_bind, wpO_cond, wpO_map, wpO_some] at h
  exact Awp.of (by kernel_rfl) h

theorem spec_DeepestStack_n4_l (x1556 : ByteArray) : Link spec_DeepestStack_ctx LL (Code.fst (Code.snd (Code.fst (Code.snd (Code.snd (Code.snd (Code.snd (Code.snd (bodyOf Try.f9))))))))) (Ann.fst (Ann.snd (Ann.fst (Ann.snd (Ann.snd (Ann.snd (Ann.snd (Ann.snd spec_DeepestStack_an)))))))) (⟨mkE 36 0 [(1, .dat .str x1556), (7, .dat (.int .i64) 0), (8, .dat (.int .i64) 0), (9, .dat (.int .i64) 0)], []⟩ : St) (spec_DeepestStack_n4 x1556) (fun (t : Int) => ((Exit.exit 0), (⟨mkE 36 0 [(7, .dat (.int .i64) t)], []⟩ : St))) := by
  unfold spec_DeepestStack_n4
  exact Link.cast (by kernel_rfl) (by kernel_rfl) (link_loop (mk := fun (s : Int × Int × Int) => (⟨mkE 36 0 [(1, .dat .str x1556), (7, .dat (.int .i64) s.1), (8, .dat (.int .i64) s.2.1), (9, .dat (.int .i64) s.2.2)], []⟩ : St)) (fin := (fun (t : Int) => ((Exit.exit 0), (⟨mkE 36 0 [(7, .dat (.int .i64) t)], []⟩ : St)))) (by
  rintro t f K h
  · exact h) (fun s => link_map (spec_DeepestStack_n3_l x1556 s.1 s.2.1 s.2.2) (Sum.elim (fun (t : Int × Int × Int) => Sum.inl (t.1, t.2.1, t.2.2)) (fun (t : Int) => Sum.inr t)) (by
  rintro (t | t)
  · kernel_rfl
  · kernel_rfl)) (0, 0, 0))

theorem spec_DeepestStack_n5_l (x1556 : ByteArray) : Link spec_DeepestStack_ctx LL (Code.snd (Code.fst (Code.snd (Code.snd (Code.snd (Code.snd (Code.snd (bodyOf Try.f9)))))))) (Ann.snd (Ann.fst (Ann.snd (Ann.snd (Ann.snd (Ann.snd (Ann.snd spec_DeepestStack_an))))))) (⟨mkE 36 0 [(1, .dat .str x1556), (7, .dat (.int .i64) 0), (8, .dat (.int .i64) 0), (9, .dat (.int .i64) 0)], []⟩ : St) (spec_DeepestStack_n5 x1556) (fun (t : Int) => (Exit.normal, (⟨mkE 36 0 [(7, .dat (.int .i64) t)], []⟩ : St))) := by
  unfold spec_DeepestStack_n5
  exact Link.cast (by kernel_rfl) (by kernel_rfl) (link_block (id := 0) (spec_DeepestStack_n4_l x1556) (fun (t : Int) => t) (by
  rintro t K h
  · exact Eq.mp (by kernel_rfl) h))

theorem spec_DeepestStack_n6_l (x1556 : ByteArray) : Link spec_DeepestStack_ctx LL (Code.fst (Code.snd (Code.snd (Code.snd (Code.snd (Code.snd (bodyOf Try.f9))))))) (Ann.fst (Ann.snd (Ann.snd (Ann.snd (Ann.snd (Ann.snd spec_DeepestStack_an)))))) (⟨mkE 36 0 [(1, .dat .str x1556), (7, .dat (.int .i64) 0), (8, .dat (.int .i64) 0)], []⟩ : St) (spec_DeepestStack_n6 x1556) (fun (t : Int) => (Exit.normal, (⟨mkE 36 0 [(7, .dat (.int .i64) t)], []⟩ : St))) := by
  unfold spec_DeepestStack_n6
  exact Link.cast (by kernel_rfl) (by kernel_rfl) (link_seq (b := (Code.snd (Code.fst (Code.snd (Code.snd (Code.snd (Code.snd (Code.snd (bodyOf Try.f9))))))))) (y := (Ann.snd (Ann.fst (Ann.snd (Ann.snd (Ann.snd (Ann.snd (Ann.snd spec_DeepestStack_an)))))))) (spec_DeepestStack_n2_l x1556) (fun (t : Unit) => (spec_DeepestStack_n5_l x1556)))

theorem spec_DeepestStack_n7_l (x3149 : Int) : Link spec_DeepestStack_ctx LL (Code.snd (Code.snd (Code.snd (Code.snd (Code.snd (Code.snd (bodyOf Try.f9))))))) (Ann.snd (Ann.snd (Ann.snd (Ann.snd (Ann.snd (Ann.snd spec_DeepestStack_an)))))) (⟨mkE 36 0 [(7, .dat (.int .i64) x3149)], []⟩ : St) (spec_DeepestStack_n7 x3149) (fun (t : Int) => (Exit.ret, (⟨mkE 36 0 [(4, .dat (.int .i64) t)], []⟩ : St))) := by
  refine Link.of fun K h => ?_
  simp only [spec_DeepestStack_n7, wpO_bind, wpO_cond, wpO_map, wpO_some] at h
  exact Awp.of (by kernel_rfl) h

theorem spec_DeepestStack_n8_l (x1556 : ByteArray) : Link spec_DeepestStack_ctx LL (Code.snd (Code.snd (Code.snd (Code.snd (Code.snd (bodyOf Try.f9)))))) (Ann.snd (Ann.snd (Ann.snd (Ann.snd (Ann.snd spec_DeepestStack_an))))) (⟨mkE 36 0 [(1, .dat .str x1556), (7, .dat (.int .i64) 0), (8, .dat (.int .i64) 0)], []⟩ : St) (spec_DeepestStack_n8 x1556) (fun (t : Int) => (Exit.ret, (⟨mkE 36 0 [(4, .dat (.int .i64) t)], []⟩ : St))) := by
  unfold spec_DeepestStack_n8
  exact Link.cast (by kernel_rfl) (by kernel_rfl) (link_seq (b := (Code.snd (Code.snd (Code.snd (Code.snd (Code.snd (Code.snd (bodyOf Try.f9)))))))) (y := (Ann.snd (Ann.snd (Ann.snd (Ann.snd (Ann.snd (Ann.snd spec_DeepestStack_an))))))) (spec_DeepestStack_n6_l x1556) (fun (t : Int) => (spec_DeepestStack_n7_l t)))

theorem spec_DeepestStack_n9_l (x1555 : Int) (x1556 : ByteArray) : Link spec_DeepestStack_ctx LL (bodyOf Try.f9) spec_DeepestStack_an (⟨mkE 36 0 [(0, .dat (.int .i64) x1555), (1, .dat .str x1556)], []⟩ : St) (spec_DeepestStack_n9 x1555 x1556) (fun (t : Int) => (Exit.ret, (⟨mkE 36 0 [(4, .dat (.int .i64) t)], []⟩ : St))) := by
  unfold spec_DeepestStack_n9
  exact Link.cast (by kernel_rfl) (by kernel_rfl) (link_group (c := (Code.fst (Code.snd (Code.snd (Code.snd (Code.snd (bodyOf Try.f9))))))) (a := (Ann.fst (Ann.snd (Ann.snd (Ann.snd (Ann.snd spec_DeepestStack_an)))))) [(Code.fst (bodyOf Try.f9)), (Code.fst (Code.snd (bodyOf Try.f9))), (Code.fst (Code.snd (Code.snd (bodyOf Try.f9)))), (Code.fst (Code.snd (Code.snd (Code.snd (bodyOf Try.f9)))))] [(Ann.fst spec_DeepestStack_an), (Ann.fst (Ann.snd spec_DeepestStack_an)), (Ann.fst (Ann.snd (Ann.snd spec_DeepestStack_an))), (Ann.fst (Ann.snd (Ann.snd (Ann.snd spec_DeepestStack_an))))] rfl (link_seq2 (b := (Code.snd (Code.snd (Code.snd (Code.snd (Code.snd (bodyOf Try.f9))))))) (y := (Ann.snd (Ann.snd (Ann.snd (Ann.snd (Ann.snd spec_DeepestStack_an)))))) (spec_DeepestStack_n1_l x1555 x1556) (fun (t : Unit) => (spec_DeepestStack_n8_l x1556)) (fun (t : Int) => t) (by
  rintro t
  · kernel_rfl) (by
  rintro t f K h
  · exact h)))

theorem spec_DeepestStack_e (x1555 : Int) (x1556 : ByteArray) {r : AV} {H' : Heap} (h : (Ans.mk _ (spec_DeepestStack x1555 x1556) (fun (t : Int) => (.dat (.int .i64) t, [])) [] none).run = some (r, H')) : Awp spec_DeepestStack_ctx LL (bodyOf Try.f9) spec_DeepestStack_an (⟨mkE 36 0 [(0, .dat (.int .i64) x1555), (1, .dat .str x1556)], []⟩ : St) (Ret (tlook tys) Try.f9.results.toList r H') :=
  ret_of' (spec_DeepestStack_n9_l x1555 x1556) (by unfold spec_DeepestStack; kernel_rfl) (by
  intro t
  exact ret_mk [.dat (.int .i64) t] (by kernel_rfl) (by kernel_rfl) (by kernel_rfl) (by kernel_rfl)) h

def F_spec_DeepestStack : Fun := fun avs H =>
  match avs, H with
  | [.dat (.int .i64) x1555, .dat .str x1556], [] => ⟨_, spec_DeepestStack x1555 x1556, fun (t : Int) => (.dat (.int .i64) t, []), [], none⟩
  | _, _ => Ans.no

theorem spec_DeepestStack_sound : Sound Try.prog 9 F_spec_DeepestStack := by
  refine fn_sound' (C := spec_DeepestStack_ctx) (c := bodyOf Try.f9) (cok_of tys_ok (List.forall_mem_cons.2 ⟨spec_RunStack_sound, by simp⟩) (List.forall_mem_cons.2 ⟨Try.call11, by simp⟩) (by kernel_rfl)) Try.func9 (by kernel_rfl) LL spec_DeepestStack_an ?_
  intro avs H r H' h
  unfold F_spec_DeepestStack at h
  split at h
  · refine Awp.cast ?_ ?_ ?_ (spec_DeepestStack_e _ _ h) <;> kernel_rfl
  · simp [Ans.no, Ans.run] at h


/-! loop.example/headtrees/impl.oneRoot -/

def impl_oneRoot_an : Ann := (.seq (.leaf [0]) (.seq (.leaf [0, 3]) (.seq (.seq (.leaf [0, 3, 6, 7, 8]) (.block (.loop (.seq (.leaf [0, 3, 6, 7, 8, 9]) (.seq (.cond (.leaf [0, 3, 6, 7, 8]) (.leaf [3])) (.seq (.block (.seq (.leaf [0, 3, 5, 6, 7, 8]) (.seq (.seq (.leaf [0, 3, 5, 6, 7, 8, 19]) (.cond (.seq (.leaf [2]) (.leaf [2])) (.leaf [0, 3, 5, 6, 7, 8]))) (.seq (.leaf [0, 3, 6, 7, 8, 21]) (.cond (.leaf [0, 3, 6, 7, 8]) (.leaf [0, 3, 6, 7, 8])))))) (.leaf [0, 3, 6, 7, 8]))))))) (.seq (.leaf [2]) (.leaf [2])))))

noncomputable def impl_oneRoot_ctx : Ctx := ⟨tlook tys, olook [], ioF, 0, false, []⟩

theorem impl_oneRoot_n1_l (x3194 : List Int) : Link impl_oneRoot_ctx LL (Code.seq (Code.fst (bodyOf Try.f35)) (Code.fst (Code.snd (bodyOf Try.f35)))) (Ann.seq (Ann.fst impl_oneRoot_an) (Ann.fst (Ann.snd impl_oneRoot_an))) (⟨mkE 27 0 [(0, .dat (.list (.int .i64)) x3194)], []⟩ : St) (impl_oneRoot_n1) (fun (t : Unit) => (Exit.normal, (⟨mkE 27 0 [(0, .dat (.list (.int .i64)) x3194), (3, .dat (.int .i64) 0)], []⟩ : St))) := by
  refine Link.of fun K h => ?_
  simp only [impl_oneRoot_n1, wpO_bind, wpO_cond, wpO_map, wpO_some] at h
  exact Awp.of (by kernel_rfl) h

theorem impl_oneRoot_n2_l (x3194 : List Int) : Link impl_oneRoot_ctx LL (Code.fst (Code.fst (Code.snd (Code.snd (bodyOf Try.f35))))) (Ann.fst (Ann.fst (Ann.snd (Ann.snd impl_oneRoot_an)))) (⟨mkE 27 0 [(0, .dat (.list (.int .i64)) x3194), (3, .dat (.int .i64) 0)], []⟩ : St) (impl_oneRoot_n2 x3194) (fun (t : Int) => (Exit.normal, (⟨mkE 27 0 [(0, .dat (.list (.int .i64)) x3194), (3, .dat (.int .i64) 0), (6, .dat (.list (.int .i64)) x3194), (7, .dat (.int .i64) t), (8, .dat (.int .i64) 0)], []⟩ : St))) := by
  refine Link.of fun K h => ?_
  simp only [impl_oneRoot_n2, wpO_bind, wpO_cond, wpO_map, wpO_some] at h
  exact Awp.of (by kernel_rfl) h

theorem impl_oneRoot_n3_l (x3194 : List Int) (x3216 : Int) (x3195 : Int) (x3217 : Int) : Link impl_oneRoot_ctx LL (Code.fst (Code.fst (Code.snd (Code.fst (Code.snd (Code.snd (bodyOf Try.f35))))))) (Ann.fst (Ann.fst (Ann.snd (Ann.fst (Ann.snd (Ann.snd impl_oneRoot_an)))))) (⟨mkE 27 0 [(0, .dat (.list (.int .i64)) x3194), (3, .dat (.int .i64) x3216), (6, .dat (.list (.int .i64)) x3194), (7, .dat (.int .i64) x3195), (8, .dat (.int .i64) x3217)], []⟩ : St) (impl_oneRoot_n3 x3194 x3216 x3195 x3217) (Sum.elim (fun (t : Int × Int) => (Exit.normal, (⟨mkE 27 0 [(0, .dat (.list (.int .i64)) x3194), (3, .dat (.int .i64) t.1), (6, .dat (.list (.int .i64)) x3194), (7, .dat (.int .i64) x3195), (8, .dat (.int .i64) t.2)], []⟩ : St))) (Sum.elim (fun (t : Bool) => (Exit.ret, (⟨mkE 27 0 [(2, .dat .bool t)], []⟩ : St))) (fun (t : Int) => ((Exit.exit 0), (⟨mkE 27 0 [(3, .dat (.int .i64) t)], []⟩ : St))))) := by
  refine Link.of fun K h => ?_
  simp only [impl_oneRoot_n3, wpO_bind, wpO_cond, wpO_map, wpO_some] at h
  exact Awp.of (by kernel_rfl) h

theorem impl_oneRoot_n4_l (x3194 : List Int) (x3195 : Int) : Link impl_oneRoot_ctx LL (Code.fst (Code.snd (Code.fst (Code.snd (Code.snd (bodyOf Try.f35)))))) (Ann.fst (Ann.snd (Ann.fst (Ann.snd (Ann.snd impl_oneRoot_an))))) (⟨mkE 27 0 [(0, .dat (.list (.int .i64)) x3194), (3, .dat (.int .i64) 0), (6, .dat (.list (.int .i64)) x3194), (7, .dat (.int .i64) x3195), (8, .dat (.int .i64) 0)], []⟩ : St) (impl_oneRoot_n4 x3194 x3195) (Sum.elim (fun (t : Bool) => (Exit.ret, (⟨mkE 27 0 [(2, .dat .bool t)], []⟩ : St))) (fun (t : Int) => ((Exit.exit 0), (⟨mkE 27 0 [(3, .dat (.int .i64) t)], []⟩ : St)))) := by
  unfold impl_oneRoot_n4
  exact Link.cast (by kernel_rfl) (by kernel_rfl) (link_loop (mk := fun (s : Int × Int) => (⟨mkE 27 0 [(0, .dat (.list (.int .i64)) x3194), (3, .dat (.int .i64) s.1), (6, .dat (.list (.int .i64)) x3194), (7, .dat (.int .i64) x3195), (8, .dat (.int .i64) s.2)], []⟩ : St)) (fin := (Sum.elim (fun (t : Bool) => (Exit.ret, (⟨mkE 27 0 [(2, .dat .bool t)], []⟩ : St))) (fun (t : Int) => ((Exit.exit 0), (⟨mkE 27 0 [(3, .dat (.int .i64) t)], []⟩ : St))))) (by
  rintro (t | t) f K h
  · exact h
  · exact h) (fun s => link_map (impl_oneRoot_n3_l x3194 s.1 x3195 s.2) (Sum.elim (fun (t : Int × Int) => Sum.inl (t.1, t.2)) (Sum.elim (fun (t : Bool) => Sum.inr (Sum.inl t)) (fun (t : Int) => Sum.inr (Sum.inr t)))) (by
  rintro (t | t | t)
  · kernel_rfl
  · kernel_rfl
  · kernel_rfl)) (0, 0))

theorem impl_oneRoot_n5_l (x3194 : List Int) (x3195 : Int) : Link impl_oneRoot_ctx LL (Code.snd (Code.fst (Code.snd (Code.snd (bodyOf Try.f35))))) (Ann.snd (Ann.fst (Ann.snd (Ann.snd impl_oneRoot_an)))) (⟨mkE 27 0 [(0, .dat (.list (.int .i64)) x3194), (3, .dat (.int .i64) 0), (6, .dat (.list (.int .i64)) x3194), (7, .dat (.int .i64) x3195), (8, .dat (.int .i64) 0)], []⟩ : St) (impl_oneRoot_n5 x3194 x3195) (Sum.elim (fun (t : Int) => (Exit.normal, (⟨mkE 27 0 [(3, .dat (.int .i64) t)], []⟩ : St))) (fun (t : Bool) => (Exit.ret, (⟨mkE 27 0 [(2, .dat .bool t)], []⟩ : St)))) := by
  unfold impl_oneRoot_n5
  exact Link.cast (by kernel_rfl) (by kernel_rfl) (link_block (id := 0) (impl_oneRoot_n4_l x3194 x3195) (Sum.elim (fun (t : Bool) => (Sum.inr t)) (fun (t : Int) => (Sum.inl t))) (by
  rintro (t | t) K h
  · exact Eq.mp (by kernel_rfl) h
  · exact Eq.mp (by kernel_rfl) h))

theorem impl_oneRoot_n6_l (x3194 : List Int) : Link impl_oneRoot_ctx LL (Code.fst (Code.snd (Code.snd (bodyOf Try.f35)))) (Ann.fst (Ann.snd (Ann.snd impl_oneRoot_an))) (⟨mkE 27 0 [(0, .dat (.list (.int .i64)) x3194), (3, .dat (.int .i64) 0)], []⟩ : St) (impl_oneRoot_n6 x3194) (Sum.elim (fun (t : Int) => (Exit.normal, (⟨mkE 27 0 [(3, .dat (.int .i64) t)], []⟩ : St))) (fun (t : Bool) => (Exit.ret, (⟨mkE 27 0 [(2, .dat .bool t)], []⟩ : St)))) := by
  unfold impl_oneRoot_n6
  exact Link.cast (by kernel_rfl) (by kernel_rfl) (link_seq (b := (Code.snd (Code.fst (Code.snd (Code.snd (bodyOf Try.f35)))))) (y := (Ann.snd (Ann.fst (Ann.snd (Ann.snd impl_oneRoot_an))))) (impl_oneRoot_n2_l x3194) (fun (t : Int) => (impl_oneRoot_n5_l x3194 t)))

theorem impl_oneRoot_n7_l (x3216 : Int) : Link impl_oneRoot_ctx LL (Code.snd (Code.snd (Code.snd (bodyOf Try.f35)))) (Ann.snd (Ann.snd (Ann.snd impl_oneRoot_an))) (⟨mkE 27 0 [(3, .dat (.int .i64) x3216)], []⟩ : St) (impl_oneRoot_n7 x3216) (fun (t : Bool) => (Exit.ret, (⟨mkE 27 0 [(2, .dat .bool t)], []⟩ : St))) := by
  refine Link.of fun K h => ?_
  simp only [impl_oneRoot_n7, wpO_bind, wpO_cond, wpO_map, wpO_some] at h
  exact Awp.of (by kernel_rfl) h

theorem impl_oneRoot_n8_l (x3194 : List Int) : Link impl_oneRoot_ctx LL (Code.snd (Code.snd (bodyOf Try.f35))) (Ann.snd (Ann.snd impl_oneRoot_an)) (⟨mkE 27 0 [(0, .dat (.list (.int .i64)) x3194), (3, .dat (.int .i64) 0)], []⟩ : St) (impl_oneRoot_n8 x3194) (fun (t : Bool) => (Exit.ret, (⟨mkE 27 0 [(2, .dat .bool t)], []⟩ : St))) := by
  unfold impl_oneRoot_n8
  exact Link.cast (by kernel_rfl) (by kernel_rfl) (link_seq2 (b := (Code.snd (Code.snd (Code.snd (bodyOf Try.f35))))) (y := (Ann.snd (Ann.snd (Ann.snd impl_oneRoot_an)))) (impl_oneRoot_n6_l x3194) (fun (t : Int) => (impl_oneRoot_n7_l t)) (fun (t : Bool) => t) (by
  rintro t
  · kernel_rfl) (by
  rintro t f K h
  · exact h))

theorem impl_oneRoot_n9_l (x3194 : List Int) : Link impl_oneRoot_ctx LL (bodyOf Try.f35) impl_oneRoot_an (⟨mkE 27 0 [(0, .dat (.list (.int .i64)) x3194)], []⟩ : St) (impl_oneRoot_n9 x3194) (fun (t : Bool) => (Exit.ret, (⟨mkE 27 0 [(2, .dat .bool t)], []⟩ : St))) := by
  unfold impl_oneRoot_n9
  exact Link.cast (by kernel_rfl) (by kernel_rfl) (link_group (c := (Code.fst (Code.snd (bodyOf Try.f35)))) (a := (Ann.fst (Ann.snd impl_oneRoot_an))) [(Code.fst (bodyOf Try.f35))] [(Ann.fst impl_oneRoot_an)] rfl (link_seq (b := (Code.snd (Code.snd (bodyOf Try.f35)))) (y := (Ann.snd (Ann.snd impl_oneRoot_an))) (impl_oneRoot_n1_l x3194) (fun (t : Unit) => (impl_oneRoot_n8_l x3194))))

theorem impl_oneRoot_e (x3194 : List Int) {r : AV} {H' : Heap} (h : (Ans.mk _ (impl_oneRoot x3194) (fun (t : Bool) => (.dat .bool t, [])) [] none).run = some (r, H')) : Awp impl_oneRoot_ctx LL (bodyOf Try.f35) impl_oneRoot_an (⟨mkE 27 0 [(0, .dat (.list (.int .i64)) x3194)], []⟩ : St) (Ret (tlook tys) Try.f35.results.toList r H') :=
  ret_of' (impl_oneRoot_n9_l x3194) (by unfold impl_oneRoot; kernel_rfl) (by
  intro t
  exact ret_mk [.dat .bool t] (by kernel_rfl) (by kernel_rfl) (by kernel_rfl) (by kernel_rfl)) h

def F_impl_oneRoot : Fun := fun avs H =>
  match avs, H with
  | [.dat (.list (.int .i64)) x3194], [] => ⟨_, impl_oneRoot x3194, fun (t : Bool) => (.dat .bool t, []), [], none⟩
  | _, _ => Ans.no

theorem impl_oneRoot_sound : Sound Try.prog 35 F_impl_oneRoot := by
  refine fn_sound' (C := impl_oneRoot_ctx) (c := bodyOf Try.f35) (cok_of tys_ok (by simp) (by simp) (by kernel_rfl)) Try.func35 (by kernel_rfl) LL impl_oneRoot_an ?_
  intro avs H r H' h
  unfold F_impl_oneRoot at h
  split at h
  · refine Awp.cast ?_ ?_ ?_ (impl_oneRoot_e _ h) <;> kernel_rfl
  · simp [Ans.no, Ans.run] at h


/-! (*loop.example/headtrees/impl.walker).up -/

def impl_walker_up_an : Ann := (.seq (.leaf [0]) (.seq (.draw [] [0, 1, 2, 3, 4, 5, 6, 7, 8, 9, 10, 11] [] [0, 3]) (.seq (.seq (.leaf [0, 3, 16]) (.cond (.seq (.leaf [2]) (.leaf [2])) (.leaf [0, 3]))) (.seq (.leaf [0]) (.seq (.leaf []) (.seq (.leaf [2]) (.leaf [2])))))))

noncomputable def impl_walker_up_ctx : Ctx := ⟨tlook tys, olook [], ioF, 1, false, []⟩

theorem impl_walker_up_n1_l (x3250 : List Int) (x3251 : Int) (x3252 : Int) : Link impl_walker_up_ctx LL (bodyOf Try.f45) impl_walker_up_an (⟨mkE 28 0 [(0, .ptr 0 0)], [some (.box [.dat (.list (.int .i64)) x3250, .dat (.int .i64) x3251, .dat (.int .i64) x3252])]⟩ : St) (impl_walker_up_n1 x3250 x3251 x3252) (fun (t : Bool × Int × Int) => (Exit.ret, (⟨mkE 28 0 [(2, .dat .bool t.1)], [some (.box [.dat (.list (.int .i64)) x3250, .dat (.int .i64) t.2.1, .dat (.int .i64) t.2.2])]⟩ : St))) := by
  refine Link.of fun K h => ?_
  simp only [impl_walker_up_n1, wpO_bind, wpO_cond, wpO_map, wpO_some] at h
  exact Awp.of (by kernel_rfl) h

theorem impl_walker_up_e (x3250 : List Int) (x3251 : Int) (x3252 : Int) {r : AV} {H' : Heap} (h : (Ans.mk _ (impl_walker_up x3250 x3251 x3252) (fun (t : Bool × Int × Int) => (.dat .bool t.1, [some (.box [.dat (.list (.int .i64)) x3250, .dat (.int .i64) t.2.1, .dat (.int .i64) t.2.2])])) [] none).run = some (r, H')) : Awp impl_walker_up_ctx LL (bodyOf Try.f45) impl_walker_up_an (⟨mkE 28 0 [(0, .ptr 0 0)], [some (.box [.dat (.list (.int .i64)) x3250, .dat (.int .i64) x3251, .dat (.int .i64) x3252])]⟩ : St) (Ret (tlook tys) Try.f45.results.toList r H') :=
  ret_of' (impl_walker_up_n1_l x3250 x3251 x3252) (by unfold impl_walker_up; kernel_rfl) (by
  intro t
  exact ret_mk [.dat .bool t.1] (by kernel_rfl) (by kernel_rfl) (by kernel_rfl) (by kernel_rfl)) h

def F_impl_walker_up : Fun := fun avs H =>
  match avs, H with
  | [.ptr 0 0], [some (.box [.dat (.list (.int .i64)) x3250, .dat (.int .i64) x3251, .dat (.int .i64) x3252])] => ⟨_, impl_walker_up x3250 x3251 x3252, fun (t : Bool × Int × Int) => (.dat .bool t.1, [some (.box [.dat (.list (.int .i64)) x3250, .dat (.int .i64) t.2.1, .dat (.int .i64) t.2.2])]), [], none⟩
  | _, _ => Ans.no

theorem impl_walker_up_sound : Sound Try.prog 45 F_impl_walker_up := by
  refine fn_sound' (C := impl_walker_up_ctx) (c := bodyOf Try.f45) (cok_of tys_ok (by simp) (by simp) (by kernel_rfl)) Try.func45 (by kernel_rfl) LL impl_walker_up_an ?_
  intro avs H r H' h
  unfold F_impl_walker_up at h
  split at h
  · refine Awp.cast ?_ ?_ ?_ (impl_walker_up_e _ _ _ h) <;> kernel_rfl
  · simp [Ans.no, Ans.run] at h


/-! loop.example/headtrees/impl.stepsToRoot -/

def impl_stepsToRoot_an : Ann := (.seq (.leaf [0, 1]) (.seq (.leaf [0, 6]) (.seq (.block (.loop (.seq (.seq (.leaf [0, 6, 10]) (.cond (.leaf [0, 6]) (.leaf [6]))) (.block (.seq (.leaf [0, 6, 15]) (.cond (.seq (.leaf [4, 5]) (.leaf [4, 5])) (.leaf [0, 6]))))))) (.seq (.leaf [4, 5]) (.leaf [4, 5])))))

noncomputable def impl_stepsToRoot_ctx : Ctx := ⟨tlook tys, olook [(45, F_impl_walker_up)], ioF, 0, false, []⟩

theorem impl_stepsToRoot_n1_l (x3248 : List Int) (x3249 : Int) : Link impl_stepsToRoot_ctx LL (Code.seq (Code.fst (bodyOf Try.f36)) (Code.fst (Code.snd (bodyOf Try.f36)))) (Ann.seq (Ann.fst impl_stepsToRoot_an) (Ann.fst (Ann.snd impl_stepsToRoot_an))) (⟨mkE 18 0 [(0, .dat (.list (.int .i64)) x3248), (1, .dat (.int .i64) x3249)], []⟩ : St) (impl_stepsToRoot_n1) (fun (t : Unit) => (Exit.normal, (⟨mkE 18 0 [(0, .dat (.list (.int .i64)) x3248), (6, .ptr 0 0)], [some (.box [.dat (.list (.int .i64)) x3248, .dat (.int .i64) x3249, .dat (.int .i64) 0])]⟩ : St))) := by
  refine Link.of fun K h => ?_
  simp only [impl_stepsToRoot_n1, wpO_bind, wpO_cond, wpO_map, wpO_some] at h
  exact Awp.of (by kernel_rfl) h

theorem impl_stepsToRoot_n2_l (x3248 : List Int) (x3286 : Int) (x3287 : Int) : Link impl_stepsToRoot_ctx LL (Code.fst (Code.fst (Code.fst (Code.snd (Code.snd (bodyOf Try.f36)))))) (Ann.fst (Ann.fst (Ann.fst (Ann.snd (Ann.snd impl_stepsToRoot_an))))) (⟨mkE 18 0 [(0, .dat (.list (.int .i64)) x3248), (6, .ptr 0 0)], [some (.box [.dat (.list (.int .i64)) x3248, .dat (.int .i64) x3286, .dat (.int .i64) x3287])]⟩ : St) (impl_stepsToRoot_n2 x3248 x3286 x3287) (Sum.elim (fun (t : Int × Int) => (Exit.normal, (⟨mkE 18 0 [(0, .dat (.list (.int .i64)) x3248), (6, .ptr 0 0)], [some (.box [.dat (.list (.int .i64)) x3248, .dat (.int .i64) t.1, .dat (.int .i64) t.2])]⟩ : St))) (Sum.elim (fun (t : Int × Bool) => (Exit.ret, (⟨mkE 18 0 [(4, .dat (.int .i64) t.1), (5, .dat .bool t.2)], []⟩ : St))) (fun (t : Int × Int) => ((Exit.exit 0), (⟨mkE 18 0 [(6, .ptr 0 0)], [some (.box [.dat (.list (.int .i64)) x3248, .dat (.int .i64) t.1, .dat (.int .i64) t.2])]⟩ : St))))) := by
  refine Link.of fun K h => ?_
  simp only [impl_stepsToRoot_n2, wpO_bind, wpO_cond, wpO_map, wpO_some] at h
  exact Awp.of (by kernel_rfl) h

theorem impl_stepsToRoot_n3_l (x3248 : List Int) (x3249 : Int) : Link impl_stepsToRoot_ctx LL (Code.fst (Code.fst (Code.snd (Code.snd (bodyOf Try.f36))))) (Ann.fst (Ann.fst (Ann.snd (Ann.snd impl_stepsToRoot_an)))) (⟨mkE 18 0 [(0, .dat (.list (.int .i64)) x3248), (6, .ptr 0 0)], [some (.box [.dat (.list (.int .i64)) x3248, .dat (.int .i64) x3249, .dat (.int .i64) 0])]⟩ : St) (impl_stepsToRoot_n3 x3248 x3249) (Sum.elim (fun (t : Int × Bool) => (Exit.ret, (⟨mkE 18 0 [(4, .dat (.int .i64) t.1), (5, .dat .bool t.2)], []⟩ : St))) (fun (t : Int × Int) => ((Exit.exit 0), (⟨mkE 18 0 [(6, .ptr 0 0)], [some (.box [.dat (.list (.int .i64)) x3248, .dat (.int .i64) t.1, .dat (.int .i64) t.2])]⟩ : St)))) := by
  unfold impl_stepsToRoot_n3
  exact Link.cast (by kernel_rfl) (by kernel_rfl) (link_loop (mk := fun (s : Int × Int) => (⟨mkE 18 0 [(0, .dat (.list (.int .i64)) x3248), (6, .ptr 0 0)], [some (.box [.dat (.list (.int .i64)) x3248, .dat (.int .i64) s.1, .dat (.int .i64) s.2])]⟩ : St)) (fin := (Sum.elim (fun (t : Int × Bool) => (Exit.ret, (⟨mkE 18 0 [(4, .dat (.int .i64) t.1), (5, .dat .bool t.2)], []⟩ : St))) (fun (t : Int × Int) => ((Exit.exit 0), (⟨mkE 18 0 [(6, .ptr 0 0)], [some (.box [.dat (.list (.int .i64)) x3248, .dat (.int .i64) t.1, .dat (.int .i64) t.2])]⟩ : St))))) (by
  rintro (t | t) f K h
  · exact h
  · exact h) (fun s => link_map (impl_stepsToRoot_n2_l x3248 s.1 s.2) (Sum.elim (fun (t : Int × Int) => Sum.inl (t.1, t.2)) (Sum.elim (fun (t : Int × Bool) => Sum.inr (Sum.inl t)) (fun (t : Int × Int) => Sum.inr (Sum.inr t)))) (by
  rintro (t | t | t)
  · kernel_rfl
  · kernel_rfl
  · kernel_rfl)) (x3249, 0))

theorem impl_stepsToRoot_n4_l (x3248 : List Int) (x3249 : Int) : Link impl_stepsToRoot_ctx LL (Code.fst (Code.snd (Code.snd (bodyOf Try.f36)))) (Ann.fst (Ann.snd (Ann.snd impl_stepsToRoot_an))) (⟨mkE 18 0 [(0, .dat (.list (.int .i64)) x3248), (6, .ptr 0 0)], [some (.box [.dat (.list (.int .i64)) x3248, .dat (.int .i64) x3249, .dat (.int .i64) 0])]⟩ : St) (impl_stepsToRoot_n4 x3248 x3249) (Sum.elim (fun (t : Int × Int) => (Exit.normal, (⟨mkE 18 0 [(6, .ptr 0 0)], [some (.box [.dat (.list (.int .i64)) x3248, .dat (.int .i64) t.1, .dat (.int .i64) t.2])]⟩ : St))) (fun (t : Int × Bool) => (Exit.ret, (⟨mkE 18 0 [(4, .dat (.int .i64) t.1), (5, .dat .bool t.2)], []⟩ : St)))) := by
  unfold impl_stepsToRoot_n4
  exact Link.cast (by kernel_rfl) (by kernel_rfl) (link_block (id := 0) (impl_stepsToRoot_n3_l x3248 x3249) (Sum.elim (fun (t : Int × Bool) => (Sum.inr t)) (fun (t : Int × Int) => (Sum.inl (t.1, t.2)))) (by
  rintro (t | t) K h
  · exact Eq.mp (by kernel_rfl) h
  · exact Eq.mp (by kernel_rfl) h))

theorem impl_stepsToRoot_n5_l (x3248 : List Int) (x3294 : Int) (x3295 : Int) : Link impl_stepsToRoot_ctx LL (Code.snd (Code.snd (Code.snd (bodyOf Try.f36)))) (Ann.snd (Ann.snd (Ann.snd impl_stepsToRoot_an))) (⟨mkE 18 0 [(6, .ptr 0 0)], [some (.box [.dat (.list (.int .i64)) x3248, .dat (.int .i64) x3294, .dat (.int .i64) x3295])]⟩ : St) (impl_stepsToRoot_n5 x3295) (fun (t : Int × Bool) => (Exit.ret, (⟨mkE 18 0 [(4, .dat (.int .i64) t.1), (5, .dat .bool t.2)], []⟩ : St))) := by
  refine Link.of fun K h => ?_
  simp only [impl_stepsToRoot_n5, wpO_bind, wpO_cond, wpO_map, wpO_some] at h
  exact Awp.of (by kernel_rfl) h

theorem impl_stepsToRoot_n6_l (x3248 : List Int) (x3249 : Int) : Link impl_stepsToRoot_ctx LL (Code.snd (Code.snd (bodyOf Try.f36))) (Ann.snd (Ann.snd impl_stepsToRoot_an)) (⟨mkE 18 0 [(0, .dat (.list (.int .i64)) x3248), (6, .ptr 0 0)], [some (.box [.dat (.list (.int .i64)) x3248, .dat (.int .i64) x3249, .dat (.int .i64) 0])]⟩ : St) (impl_stepsToRoot_n6 x3248 x3249) (fun (t : Int × Bool) => (Exit.ret, (⟨mkE 18 0 [(4, .dat (.int .i64) t.1), (5, .dat .bool t.2)], []⟩ : St))) := by
  unfold impl_stepsToRoot_n6
  exact Link.cast (by kernel_rfl) (by kernel_rfl) (link_seq2 (b := (Code.snd (Code.snd (Code.snd (bodyOf Try.f36))))) (y := (Ann.snd (Ann.snd (Ann.snd impl_stepsToRoot_an)))) (impl_stepsToRoot_n4_l x3248 x3249) (fun (t : Int × Int) => (impl_stepsToRoot_n5_l x3248 t.1 t.2)) (fun (t : Int × Bool) => t) (by
  rintro t
  · kernel_rfl) (by
  rintro t f K h
  · exact h))

theorem impl_stepsToRoot_n7_l (x3248 : List Int) (x3249 : Int) : Link impl_stepsToRoot_ctx LL (bodyOf Try.f36) impl_stepsToRoot_an (⟨mkE 18 0 [(0, .dat (.list (.int .i64)) x3248), (1, .dat (.int .i64) x3249)], []⟩ : St) (impl_stepsToRoot_n7 x3248 x3249) (fun (t : Int × Bool) => (Exit.ret, (⟨mkE 18 0 [(4, .dat (.int .i64) t.1), (5, .dat .bool t.2)], []⟩ : St))) := by
  unfold impl_stepsToRoot_n7
  exact Link.cast (by kernel_rfl) (by kernel_rfl) (link_group (c := (Code.fst (Code.snd (bodyOf Try.f36)))) (a := (Ann.fst (Ann.snd impl_stepsToRoot_an))) [(Code.fst (bodyOf Try.f36))] [(Ann.fst impl_stepsToRoot_an)] rfl (link_seq (b := (Code.snd (Code.snd (bodyOf Try.f36)))) (y := (Ann.snd (Ann.snd impl_stepsToRoot_an))) (impl_stepsToRoot_n1_l x3248 x3249) (fun (t : Unit) => (impl_stepsToRoot_n6_l x3248 x3249))))

theorem impl_stepsToRoot_e (x3248 : List Int) (x3249 : Int) {r : AV} {H' : Heap} (h : (Ans.mk _ (impl_stepsToRoot x3248 x3249) (fun (t : Int × Bool) => (.tup [.dat (.int .i64) t.1, .dat .bool t.2], [])) [] none).run = some (r, H')) : Awp impl_stepsToRoot_ctx LL (bodyOf Try.f36) impl_stepsToRoot_an (⟨mkE 18 0 [(0, .dat (.list (.int .i64)) x3248), (1, .dat (.int .i64) x3249)], []⟩ : St) (Ret (tlook tys) Try.f36.results.toList r H') :=
  ret_of' (impl_stepsToRoot_n7_l x3248 x3249) (by unfold impl_stepsToRoot; kernel_rfl) (by
  intro t
  exact ret_mk [.dat (.int .i64) t.1, .dat .bool t.2] (by kernel_rfl) (by kernel_rfl) (by kernel_rfl) (by kernel_rfl)) h

def F_impl_stepsToRoot : Fun := fun avs H =>
  match avs, H with
  | [.dat (.list (.int .i64)) x3248, .dat (.int .i64) x3249], [] => ⟨_, impl_stepsToRoot x3248 x3249, fun (t : Int × Bool) => (.tup [.dat (.int .i64) t.1, .dat .bool t.2], []), [], none⟩
  | _, _ => Ans.no

theorem impl_stepsToRoot_sound : Sound Try.prog 36 F_impl_stepsToRoot := by
  refine fn_sound' (C := impl_stepsToRoot_ctx) (c := bodyOf Try.f36) (cok_of tys_ok (List.forall_mem_cons.2 ⟨impl_walker_up_sound, by simp⟩) (List.forall_mem_cons.2 ⟨Try.call45, by simp⟩) (by kernel_rfl)) Try.func36 (by kernel_rfl) LL impl_stepsToRoot_an ?_
  intro avs H r H' h
  unfold F_impl_stepsToRoot at h
  split at h
  · refine Awp.cast ?_ ?_ ?_ (impl_stepsToRoot_e _ _ h) <;> kernel_rfl
  · simp [Ans.no, Ans.run] at h


/-! loop.example/headtrees/impl.TreeOk -/

def impl_TreeOk_an : Ann := (.seq (.leaf [0]) (.seq (.seq (.leaf [0, 18]) (.cond (.seq (.leaf [2]) (.leaf [2])) (.leaf [0]))) (.seq (.seq (.leaf [0, 20, 21]) (.block (.loop (.seq (.leaf [0, 20, 21, 22]) (.seq (.cond (.leaf [0, 20, 21]) (.leaf [])) (.seq (.block (.seq (.leaf [0, 3, 20, 21]) (.seq (.leaf [0, 5, 20, 21]) (.seq (.leaf [0, 20, 21, 32]) (.cond (.seq (.leaf [2]) (.leaf [2])) (.leaf [0, 20, 21])))))) (.leaf [0, 20, 21]))))))) (.seq (.leaf [2]) (.leaf [2])))))

noncomputable def impl_TreeOk_ctx : Ctx := ⟨tlook tys, olook [(35, F_impl_oneRoot), (36, F_impl_stepsToRoot)], ioF, 0, false, []⟩

theorem impl_TreeOk_n1_l (x3189 : List Int) : Link impl_TreeOk_ctx LL (Code.seq (Code.fst (bodyOf Try.f20)) (Code.fst (Code.snd (bodyOf Try.f20)))) (Ann.seq (Ann.fst impl_TreeOk_an) (Ann.fst (Ann.snd impl_TreeOk_an))) (⟨mkE 34 0 [(0, .dat (.list (.int .i64)) x3189)], []⟩ : St) (impl_TreeOk_n1 x3189) (Sum.elim (fun (t : Unit) => (Exit.normal, (⟨mkE 34 0 [(0, .dat (.list (.int .i64)) x3189)], []⟩ : St))) (fun (t : Bool) => (Exit.ret, (⟨mkE 34 0 [(2, .dat .bool t)], []⟩ : St)))) := by
  refine Link.of fun K h => ?_
  simp only [impl_TreeOk_n1, wpO_bind, wpO_cond, wpO_map, wpO_some] at h
  exact Awp.of (by kernel_rfl) h

theorem impl_TreeOk_n2_l (x3189 : List Int) : Link impl_TreeOk_ctx LL (Code.fst (Code.fst (Code.snd (Code.snd (bodyOf Try.f20))))) (Ann.fst (Ann.fst (Ann.snd (Ann.snd impl_TreeOk_an)))) (⟨mkE 34 0 [(0, .dat (.list (.int .i64)) x3189)], []⟩ : St) (impl_TreeOk_n2 x3189) (fun (t : Int) => (Exit.normal, (⟨mkE 34 0 [(0, .dat (.list (.int .i64)) x3189), (20, .dat (.int .i64) t), (21, .dat (.int .i64) 0)], []⟩ : St))) := by
  refine Link.of fun K h => ?_
  simp only [impl_TreeOk_n2, wpO_bind, wpO_cond, wpO_map, wpO_some] at h
  exact Awp.of (by kernel_rfl) h

theorem impl_TreeOk_n3_l (x3189 : List Int) (x3243 : Int) (x3311 : Int) : Link impl_TreeOk_ctx LL (Code.fst (Code.fst (Code.snd (Code.fst (Code.snd (Code.snd (bodyOf Try.f20))))))) (Ann.fst (Ann.fst (Ann.snd (Ann.fst (Ann.snd (Ann.snd impl_TreeOk_an)))))) (⟨mkE 34 0 [(0, .dat (.list (.int .i64)) x3189), (20, .dat (.int .i64) x3243), (21, .dat (.int .i64) x3311)], []⟩ : St) (impl_TreeOk_n3 x3189 x3243 x3311) (Sum.elim (fun (t : Int) => (Exit.normal, (⟨mkE 34 0 [(0, .dat (.list (.int .i64)) x3189), (20, .dat (.int .i64) x3243), (21, .dat (.int .i64) t)], []⟩ : St))) (Sum.elim (fun (t : Bool) => (Exit.ret, (⟨mkE 34 0 [(2, .dat .bool t)], []⟩ : St))) (fun (t : Unit) => ((Exit.exit 0), (⟨mkE 34 0 [], []⟩ : St))))) := by
  refine Link.of fun K h => ?_
  simp only [impl_TreeOk_n3, wpO_bind, wpO_cond, wpO_map, wpO_some] at h
  exact Awp.of (by kernel_rfl) h

theorem impl_TreeOk_n4_l (x3189 : List Int) (x3243 : Int) : Link impl_TreeOk_ctx LL (Code.fst (Code.snd (Code.fst (Code.snd (Code.snd (bodyOf Try.f20)))))) (Ann.fst (Ann.snd (Ann.fst (Ann.snd (Ann.snd impl_TreeOk_an))))) (⟨mkE 34 0 [(0, .dat (.list (.int .i64)) x3189), (20, .dat (.int .i64) x3243), (21, .dat (.int .i64) 0)], []⟩ : St) (impl_TreeOk_n4 x3189 x3243) (Sum.elim (fun (t : Bool) => (Exit.ret, (⟨mkE 34 0 [(2, .dat .bool t)], []⟩ : St))) (fun (t : Unit) => ((Exit.exit 0), (⟨mkE 34 0 [], []⟩ : St)))) := by
  unfold impl_TreeOk_n4
  exact Link.cast (by kernel_rfl) (by kernel_rfl) (link_loop (mk := fun (s : Int) => (⟨mkE 34 0 [(0, .dat (.list (.int .i64)) x3189), (20, .dat (.int .i64) x3243), (21, .dat (.int .i64) s)], []⟩ : St)) (fin := (Sum.elim (fun (t : Bool) => (Exit.ret, (⟨mkE 34 0 [(2, .dat .bool t)], []⟩ : St))) (fun (t : Unit) => ((Exit.exit 0), (⟨mkE 34 0 [], []⟩ : St))))) (by
  rintro (t | t) f K h
  · exact h
  · exact h) (fun s => link_map (impl_TreeOk_n3_l x3189 x3243 s) (Sum.elim (fun (t : Int) => Sum.inl t) (Sum.elim (fun (t : Bool) => Sum.inr (Sum.inl t)) (fun (t : Unit) => Sum.inr (Sum.inr t)))) (by
  rintro (t | t | t)
  · kernel_rfl
  · kernel_rfl
  · kernel_rfl)) 0)

theorem impl_TreeOk_n5_l (x3189 : List Int) (x3243 : Int) : Link impl_TreeOk_ctx LL (Code.snd (Code.fst (Code.snd (Code.snd (bodyOf Try.f20))))) (Ann.snd (Ann.fst (Ann.snd (Ann.snd impl_TreeOk_an)))) (⟨mkE 34 0 [(0, .dat (.list (.int .i64)) x3189), (20, .dat (.int .i64) x3243), (21, .dat (.int .i64) 0)], []⟩ : St) (impl_TreeOk_n5 x3189 x3243) (Sum.elim (fun (t : Unit) => (Exit.normal, (⟨mkE 34 0 [], []⟩ : St))) (fun (t : Bool) => (Exit.ret, (⟨mkE 34 0 [(2, .dat .bool t)], []⟩ : St)))) := by
  unfold impl_TreeOk_n5
  exact Link.cast (by kernel_rfl) (by kernel_rfl) (link_block (id := 0) (impl_TreeOk_n4_l x3189 x3243) (Sum.elim (fun (t : Bool) => (Sum.inr t)) (fun (t : Unit) => (Sum.inl ()))) (by
  rintro (t | t) K h
  · exact Eq.mp (by kernel_rfl) h
  · exact Eq.mp (by kernel_rfl) h))

theorem impl_TreeOk_n6_l (x3189 : List Int) : Link impl_TreeOk_ctx LL (Code.fst (Code.snd (Code.snd (bodyOf Try.f20)))) (Ann.fst (Ann.snd (Ann.snd impl_TreeOk_an))) (⟨mkE 34 0 [(0, .dat (.list (.int .i64)) x3189)], []⟩ : St) (impl_TreeOk_n6 x3189) (Sum.elim (fun (t : Unit) => (Exit.normal, (⟨mkE 34 0 [], []⟩ : St))) (fun (t : Bool) => (Exit.ret, (⟨mkE 34 0 [(2, .dat .bool t)], []⟩ : St)))) := by
  unfold impl_TreeOk_n6
  exact Link.cast (by kernel_rfl) (by kernel_rfl) (link_seq (b := (Code.snd (Code.fst (Code.snd (Code.snd (bodyOf Try.f20)))))) (y := (Ann.snd (Ann.fst (Ann.snd (Ann.snd impl_TreeOk_an))))) (impl_TreeOk_n2_l x3189) (fun (t : Int) => (impl_TreeOk_n5_l x3189 t)))

theorem impl_TreeOk_n7_l : Link impl_TreeOk_ctx LL (Code.snd (Code.snd (Code.snd (bodyOf Try.f20)))) (Ann.snd (Ann.snd (Ann.snd impl_TreeOk_an))) (⟨mkE 34 0 [], []⟩ : St) (impl_TreeOk_n7) (fun (t : Bool) => (Exit.ret, (⟨mkE 34 0 [(2, .dat .bool t)], []⟩ : St))) := by
  refine Link.of fun K h => ?_
  simp only [impl_TreeOk_n7, wpO_bind, wpO_cond, wpO_map, wpO_some] at h
  exact Awp.of (by kernel_rfl) h

theorem impl_TreeOk_n8_l (x3189 : List Int) : Link impl_TreeOk_ctx LL (Code.snd (Code.snd (bodyOf Try.f20))) (Ann.snd (Ann.snd impl_TreeOk_an)) (⟨mkE 34 0 [(0, .dat (.list (.int .i64)) x3189)], []⟩ : St) (impl_TreeOk_n8 x3189) (fun (t : Bool) => (Exit.ret, (⟨mkE 34 0 [(2, .dat .bool t)], []⟩ : St))) := by
  unfold impl_TreeOk_n8
  exact Link.cast (by kernel_rfl) (by kernel_rfl) (link_seq2 (b := (Code.snd (Code.snd (Code.snd (bodyOf Try.f20))))) (y := (Ann.snd (Ann.snd (Ann.snd impl_TreeOk_an)))) (impl_TreeOk_n6_l x3189) (fun (t : Unit) => (impl_TreeOk_n7_l)) (fun (t : Bool) => t) (by
  rintro t
  · kernel_rfl) (by
  rintro t f K h
  · exact h))

theorem impl_TreeOk_n9_l (x3189 : List Int) : Link impl_TreeOk_ctx LL (bodyOf Try.f20) impl_TreeOk_an (⟨mkE 34 0 [(0, .dat (.list (.int .i64)) x3189)], []⟩ : St) (impl_TreeOk_n9 x3189) (fun (t : Bool) => (Exit.ret, (⟨mkE 34 0 [(2, .dat .bool t)], []⟩ : St))) := by
  unfold impl_TreeOk_n9
  exact Link.cast (by kernel_rfl) (by kernel_rfl) (link_group (c := (Code.fst (Code.snd (bodyOf Try.f20)))) (a := (Ann.fst (Ann.snd impl_TreeOk_an))) [(Code.fst (bodyOf Try.f20))] [(Ann.fst impl_TreeOk_an)] rfl (link_seq2 (b := (Code.snd (Code.snd (bodyOf Try.f20)))) (y := (Ann.snd (Ann.snd impl_TreeOk_an))) (impl_TreeOk_n1_l x3189) (fun (t : Unit) => (impl_TreeOk_n8_l x3189)) (fun (t : Bool) => t) (by
  rintro t
  · kernel_rfl) (by
  rintro t f K h
  · exact h)))

theorem impl_TreeOk_e (x3189 : List Int) {r : AV} {H' : Heap} (h : (Ans.mk _ (impl_TreeOk x3189) (fun (t : Bool) => (.dat .bool t, [])) [] none).run = some (r, H')) : Awp impl_TreeOk_ctx LL (bodyOf Try.f20) impl_TreeOk_an (⟨mkE 34 0 [(0, .dat (.list (.int .i64)) x3189)], []⟩ : St) (Ret (tlook tys) Try.f20.results.toList r H') :=
  ret_of' (impl_TreeOk_n9_l x3189) (by unfold impl_TreeOk; kernel_rfl) (by
  intro t
  exact ret_mk [.dat .bool t] (by kernel_rfl) (by kernel_rfl) (by kernel_rfl) (by kernel_rfl)) h

def F_impl_TreeOk : Fun := fun avs H =>
  match avs, H with
  | [.dat (.list (.int .i64)) x3189], [] => ⟨_, impl_TreeOk x3189, fun (t : Bool) => (.dat .bool t, []), [], none⟩
  | _, _ => Ans.no

theorem impl_TreeOk_sound : Sound Try.prog 20 F_impl_TreeOk := by
  refine fn_sound' (C := impl_TreeOk_ctx) (c := bodyOf Try.f20) (cok_of tys_ok (List.forall_mem_cons.2 ⟨impl_oneRoot_sound, List.forall_mem_cons.2 ⟨impl_stepsToRoot_sound, by simp⟩⟩) (List.forall_mem_cons.2 ⟨Try.call35, List.forall_mem_cons.2 ⟨Try.call36, by simp⟩⟩) (by kernel_rfl)) Try.func20 (by kernel_rfl) LL impl_TreeOk_an ?_
  intro avs H r H' h
  unfold F_impl_TreeOk at h
  split at h
  · refine Awp.cast ?_ ?_ ?_ (impl_TreeOk_e _ h) <;> kernel_rfl
  · simp [Ans.no, Ans.run] at h


/-! loop.example/headtrees/laws.alive -/

def laws_alive_an : Ann := (.seq (.leaf []) (.seq (.leaf [0]) (.leaf [0])))

noncomputable def laws_alive_ctx : Ctx := ⟨tlook tys, olook [(20, F_impl_TreeOk)], ioF, 0, false, []⟩

theorem laws_alive_n1_l : Link laws_alive_ctx LL (bodyOf Try.f10) laws_alive_an (⟨mkE 8 0 [], []⟩ : St) (laws_alive_n1) (fun (t : Bool) => (Exit.ret, (⟨mkE 8 0 [(0, .dat .bool t)], []⟩ : St))) := by
  refine Link.of fun K h => ?_
  simp only [laws_alive_n1, wpO_bind, wpO_cond, wpO_map, wpO_some] at h
  exact Awp.of (by kernel_rfl) h

theorem laws_alive_e {r : AV} {H' : Heap} (h : (Ans.mk _ (laws_alive) (fun (t : Bool) => (.dat .bool t, [])) [] none).run = some (r, H')) : Awp laws_alive_ctx LL (bodyOf Try.f10) laws_alive_an (⟨mkE 8 0 [], []⟩ : St) (Ret (tlook tys) Try.f10.results.toList r H') :=
  ret_of' (laws_alive_n1_l) (by unfold laws_alive; kernel_rfl) (by
  intro t
  exact ret_mk [.dat .bool t] (by kernel_rfl) (by kernel_rfl) (by kernel_rfl) (by kernel_rfl)) h

def F_laws_alive : Fun := fun avs H =>
  match avs, H with
  | [], [] => ⟨_, laws_alive, fun (t : Bool) => (.dat .bool t, []), [], none⟩
  | _, _ => Ans.no

theorem laws_alive_sound : Sound Try.prog 10 F_laws_alive := by
  refine fn_sound' (C := laws_alive_ctx) (c := bodyOf Try.f10) (cok_of tys_ok (List.forall_mem_cons.2 ⟨impl_TreeOk_sound, by simp⟩) (List.forall_mem_cons.2 ⟨Try.call20, by simp⟩) (by kernel_rfl)) Try.func10 (by kernel_rfl) LL laws_alive_an ?_
  intro avs H r H' h
  unfold F_laws_alive at h
  split at h
  · refine Awp.cast ?_ ?_ ?_ (laws_alive_e h) <;> kernel_rfl
  · simp [Ans.no, Ans.run] at h


/-! loop.example/headtrees/laws.FnDeepestStack -/

def laws_FnDeepestStack_an : Ann := (.seq (.leaf [0]) (.seq (.seq (.leaf [0, 9]) (.cond (.seq (.leaf [2]) (.leaf [2])) (.leaf [0]))) (.seq (.leaf [3, 4]) (.seq (.leaf [3, 4, 5]) (.seq (.seq (.leaf [3, 4, 5, 22]) (.cond (.seq (.leaf [2]) (.leaf [2])) (.leaf [3, 4, 5]))) (.seq (.seq (.leaf [3, 4, 5, 24]) (.cond (.seq (.leaf [2]) (.leaf [2])) (.leaf [3, 4, 5]))) (.seq (.leaf [3, 4, 5, 6]) (.seq (.block (.loop (.seq (.seq (.leaf [3, 4, 5, 6, 39]) (.cond (.leaf [3, 4, 5, 6]) (.leaf [3, 5, 6]))) (.block (.leaf [3, 4, 5, 6]))))) (.seq (.leaf [2]) (.leaf [2]))))))))))

noncomputable def laws_FnDeepestStack_ctx : Ctx := ⟨tlook tys, olook [(7, F_spec_DrawDeepestStack), (8, F_impl_DeepestStack), (9, F_spec_DeepestStack), (10, F_laws_alive)], ioF, 0, false, []⟩

theorem laws_FnDeepestStack_n1_l (x2 : List Int) : Link laws_FnDeepestStack_ctx LL (Code.seq (Code.fst (bodyOf Try.f3)) (Code.seq (Code.fst (Code.snd (bodyOf Try.f3))) (Code.seq (Code.fst (Code.snd (Code.snd (bodyOf Try.f3)))) (Code.seq (Code.fst (Code.snd (Code.snd (Code.snd (bodyOf Try.f3))))) (Code.seq (Code.fst (Code.snd (Code.snd (Code.snd (Code.snd (bodyOf Try.f3)))))) (Code.seq (Code.fst (Code.snd (Code.snd (Code.snd (Code.snd (Code.snd (bodyOf Try.f3))))))) (Code.fst (Code.snd (Code.snd (Code.snd (Code.snd (Code.snd (Code.snd (bodyOf Try.f3)))))))))))))) (Ann.seq (Ann.fst laws_FnDeepestStack_an) (Ann.seq (Ann.fst (Ann.snd laws_FnDeepestStack_an)) (Ann.seq (Ann.fst (Ann.snd (Ann.snd laws_FnDeepestStack_an))) (Ann.seq (Ann.fst (Ann.snd (Ann.snd (Ann.snd laws_FnDeepestStack_an)))) (Ann.seq (Ann.fst (Ann.snd (Ann.snd (Ann.snd (Ann.snd laws_FnDeepestStack_an))))) (Ann.seq (Ann.fst (Ann.snd (Ann.snd (Ann.snd (Ann.snd (Ann.snd laws_FnDeepestStack_an)))))) (Ann.fst (Ann.snd (Ann.snd (Ann.snd (Ann.snd (Ann.snd (Ann.snd laws_FnDeepestStack_an))))))))))))) (⟨mkE 66 0 [(0, .dat (.list (.int .u8)) x2)], []⟩ : St) (laws_FnDeepestStack_n1 x2) (Sum.elim (fun (t : Int × ByteArray × Int) => (Exit.normal, (⟨mkE 66 0 [(3, .dat (.int .i64) t.1), (4, .dat .str t.2.1), (5, .dat (.int .i64) t.2.2), (6, .dat (.int .i64) 0)], []⟩ : St))) (fun (t : Bool) => (Exit.ret, (⟨mkE 66 0 [(2, .dat .bool t)], []⟩ : St)))) := by
  refine Link.of fun K h => ?_
  simp only [laws_FnDeepestStack_n1, wpO_bind, wpO_cond, wpO_map, wpO_some] at h
  exact Awp.of (by kernel_rfl) h

theorem laws_FnDeepestStack_n2_l (x3342 : Int) (x3343 : ByteArray) (x3344 : Int) (x3359 : Int) : Link laws_FnDeepestStack_ctx LL (Code.fst (Code.fst (Code.fst (Code.snd (Code.snd (Code.snd (Code.snd (Code.snd (Code.snd (Code.snd (bodyOf Try.f3))))))))))) (Ann.fst (Ann.fst (Ann.fst (Ann.snd (Ann.snd (Ann.snd (Ann.snd (Ann.snd (Ann.snd (Ann.snd laws_FnDeepestStack_an)))))))))) (⟨mkE 66 0 [(3, .dat (.int .i64) x3342), (4, .dat .str x3343), (5, .dat (.int .i64) x3344), (6, .dat (.int .i64) x3359)], []⟩ : St) (laws_FnDeepestStack_n2 x3343 x3359) (Sum.elim (fun (t : Int) => (Exit.normal, (⟨mkE 66 0 [(3, .dat (.int .i64) x3342), (4, .dat .str x3343), (5, .dat (.int .i64) x3344), (6, .dat (.int .i64) t)], []⟩ : St))) (fun (t : Int) => ((Exit.exit 0), (⟨mkE 66 0 [(3, .dat (.int .i64) x3342), (5, .dat (.int .i64) x3344), (6, .dat (.int .i64) t)], []⟩ : St)))) := by
  refine Link.of fun K h => ?_
  simp only [laws_FnDeepestStack_n2, wpO_bind, wpO_cond, wpO_map, wpO_some] at h
  exact Awp.of (by kernel_rfl) h

theorem laws_FnDeepestStack_n3_l (x3342 : Int) (x3343 : ByteArray) (x3344 : Int) : Link laws_FnDeepestStack_ctx LL (Code.fst (Code.fst (Code.snd (Code.snd (Code.snd (Code.snd (Code.snd (Code.snd (Code.snd (bodyOf Try.f3)))))))))) (Ann.fst (Ann.fst (Ann.snd (Ann.snd (Ann.snd (Ann.snd (Ann.snd (Ann.snd (Ann.snd laws_FnDeepestStack_an))))))))) (⟨mkE 66 0 [(3, .dat (.int .i64) x3342), (4, .dat .str x3343), (5, .dat (.int .i64) x3344), (6, .dat (.int .i64) 0)], []⟩ : St) (laws_FnDeepestStack_n3 x3343) (fun (t : Int) => ((Exit.exit 0), (⟨mkE 66 0 [(3, .dat (.int .i64) x3342), (5, .dat (.int .i64) x3344), (6, .dat (.int .i64) t)], []⟩ : St))) := by
  unfold laws_FnDeepestStack_n3
  exact Link.cast (by kernel_rfl) (by kernel_rfl) (link_loop (mk := fun (s : Int) => (⟨mkE 66 0 [(3, .dat (.int .i64) x3342), (4, .dat .str x3343), (5, .dat (.int .i64) x3344), (6, .dat (.int .i64) s)], []⟩ : St)) (fin := (fun (t : Int) => ((Exit.exit 0), (⟨mkE 66 0 [(3, .dat (.int .i64) x3342), (5, .dat (.int .i64) x3344), (6, .dat (.int .i64) t)], []⟩ : St)))) (by
  rintro t f K h
  · exact h) (fun s => link_map (laws_FnDeepestStack_n2_l x3342 x3343 x3344 s) (Sum.elim (fun (t : Int) => Sum.inl t) (fun (t : Int) => Sum.inr t)) (by
  rintro (t | t)
  · kernel_rfl
  · kernel_rfl)) 0)

theorem laws_FnDeepestStack_n4_l (x3342 : Int) (x3343 : ByteArray) (x3344 : Int) : Link laws_FnDeepestStack_ctx LL (Code.fst (Code.snd (Code.snd (Code.snd (Code.snd (Code.snd (Code.snd (Code.snd (bodyOf Try.f3))))))))) (Ann.fst (Ann.snd (Ann.snd (Ann.snd (Ann.snd (Ann.snd (Ann.snd (Ann.snd laws_FnDeepestStack_an)))))))) (⟨mkE 66 0 [(3, .dat (.int .i64) x3342), (4, .dat .str x3343), (5, .dat (.int .i64) x3344), (6, .dat (.int .i64) 0)], []⟩ : St) (laws_FnDeepestStack_n4 x3343) (fun (t : Int) => (Exit.normal, (⟨mkE 66 0 [(3, .dat (.int .i64) x3342), (5, .dat (.int .i64) x3344), (6, .dat (.int .i64) t)], []⟩ : St))) := by
  unfold laws_FnDeepestStack_n4
  exact Link.cast (by kernel_rfl) (by kernel_rfl) (link_block (id := 0) (laws_FnDeepestStack_n3_l x3342 x3343 x3344) (fun (t : Int) => t) (by
  rintro t K h
  · exact Eq.mp (by kernel_rfl) h))

theorem laws_FnDeepestStack_n5_l (x3342 : Int) (x3344 : Int) (x3359 : Int) : Link laws_FnDeepestStack_ctx LL (Code.snd (Code.snd (Code.snd (Code.snd (Code.snd (Code.snd (Code.snd (Code.snd (bodyOf Try.f3))))))))) (Ann.snd (Ann.snd (Ann.snd (Ann.snd (Ann.snd (Ann.snd (Ann.snd (Ann.snd laws_FnDeepestStack_an)))))))) (⟨mkE 66 0 [(3, .dat (.int .i64) x3342), (5, .dat (.int .i64) x3344), (6, .dat (.int .i64) x3359)], []⟩ : St) (laws_FnDeepestStack_n5 x3342 x3344 x3359) (fun (t : Bool) => (Exit.ret, (⟨mkE 66 0 [(2, .dat .bool t)], []⟩ : St))) := by
  refine Link.of fun K h => ?_
  simp only [laws_FnDeepestStack_n5, wpO_bind, wpO_cond, wpO_map, wpO_some] at h
  exact Awp.of (by kernel_rfl) h

theorem laws_FnDeepestStack_n6_l (x3342 : Int) (x3343 : ByteArray) (x3344 : Int) : Link laws_FnDeepestStack_ctx LL (Code.snd (Code.snd (Code.snd (Code.snd (Code.snd (Code.snd (Code.snd (bodyOf Try.f3)))))))) (Ann.snd (Ann.snd (Ann.snd (Ann.snd (Ann.snd (Ann.snd (Ann.snd laws_FnDeepestStack_an))))))) (⟨mkE 66 0 [(3, .dat (.int .i64) x3342), (4, .dat .str x3343), (5, .dat (.int .i64) x3344), (6, .dat (.int .i64) 0)], []⟩ : St) (laws_FnDeepestStack_n6 x3342 x3343 x3344) (fun (t : Bool) => (Exit.ret, (⟨mkE 66 0 [(2, .dat .bool t)], []⟩ : St))) := by
  unfold laws_FnDeepestStack_n6
  exact Link.cast (by kernel_rfl) (by kernel_rfl) (link_seq (b := (Code.snd (Code.snd (Code.snd (Code.snd (Code.snd (Code.snd (Code.snd (Code.snd (bodyOf Try.f3)))))))))) (y := (Ann.snd (Ann.snd (Ann.snd (Ann.snd (Ann.snd (Ann.snd (Ann.snd (Ann.snd laws_FnDeepestStack_an))))))))) (laws_FnDeepestStack_n4_l x3342 x3343 x3344) (fun (t : Int) => (laws_FnDeepestStack_n5_l x3342 x3344 t)))

theorem laws_FnDeepestStack_n7_l (x2 : List Int) : Link laws_FnDeepestStack_ctx LL (bodyOf Try.f3) laws_FnDeepestStack_an (⟨mkE 66 0 [(0, .dat (.list (.int .u8)) x2)], []⟩ : St) (laws_FnDeepestStack_n7 x2) (fun (t : Bool) => (Exit.ret, (⟨mkE 66 0 [(2, .dat .bool t)], []⟩ : St))) := by
  unfold laws_FnDeepestStack_n7
  exact Link.cast (by kernel_rfl) (by kernel_rfl) (link_group (c := (Code.fst (Code.snd (Code.snd (Code.snd (Code.snd (Code.snd (Code.snd (bodyOf Try.f3))))))))) (a := (Ann.fst (Ann.snd (Ann.snd (Ann.snd (Ann.snd (Ann.snd (Ann.snd laws_FnDeepestStack_an)))))))) [(Code.fst (bodyOf Try.f3)), (Code.fst (Code.snd (bodyOf Try.f3))), (Code.fst (Code.snd (Code.snd (bodyOf Try.f3)))), (Code.fst (Code.snd (Code.snd (Code.snd (bodyOf Try.f3))))), (Code.fst (Code.snd (Code.snd (Code.snd (Code.snd (bodyOf Try.f3)))))), (Code.fst (Code.snd (Code.snd (Code.snd (Code.snd (Code.snd (bodyOf Try.f3)))))))] [(Ann.fst laws_FnDeepestStack_an), (Ann.fst (Ann.snd laws_FnDeepestStack_an)), (Ann.fst (Ann.snd (Ann.snd laws_FnDeepestStack_an))), (Ann.fst (Ann.snd (Ann.snd (Ann.snd laws_FnDeepestStack_an)))), (Ann.fst (Ann.snd (Ann.snd (Ann.snd (Ann.snd laws_FnDeepestStack_an))))), (Ann.fst (Ann.snd (Ann.snd (Ann.snd (Ann.snd (Ann.snd laws_FnDeepestStack_an))))))] rfl (link_seq2 (b := (Code.snd (Code.snd (Code.snd (Code.snd (Code.snd (Code.snd (Code.snd (bodyOf Try.f3))))))))) (y := (Ann.snd (Ann.snd (Ann.snd (Ann.snd (Ann.snd (Ann.snd (Ann.snd laws_FnDeepestStack_an)))))))) (laws_FnDeepestStack_n1_l x2) (fun (t : Int × ByteArray × Int) => (laws_FnDeepestStack_n6_l t.1 t.2.1 t.2.2)) (fun (t : Bool) => t) (by
  rintro t
  · kernel_rfl) (by
  rintro t f K h
  · exact h)))

theorem laws_FnDeepestStack_e (x2 : List Int) {r : AV} {H' : Heap} (h : (Ans.mk _ (laws_FnDeepestStack x2) (fun (t : Bool) => (.dat .bool t, [])) [] none).run = some (r, H')) : Awp laws_FnDeepestStack_ctx LL (bodyOf Try.f3) laws_FnDeepestStack_an (⟨mkE 66 0 [(0, .dat (.list (.int .u8)) x2)], []⟩ : St) (Ret (tlook tys) Try.f3.results.toList r H') :=
  ret_of' (laws_FnDeepestStack_n7_l x2) (by unfold laws_FnDeepestStack; kernel_rfl) (by
  intro t
  exact ret_mk [.dat .bool t] (by kernel_rfl) (by kernel_rfl) (by kernel_rfl) (by kernel_rfl)) h

def F_laws_FnDeepestStack : Fun := fun avs H =>
  match avs, H with
  | [.dat (.list (.int .u8)) x2], [] => ⟨_, laws_FnDeepestStack x2, fun (t : Bool) => (.dat .bool t, []), [], none⟩
  | _, _ => Ans.no

theorem laws_FnDeepestStack_sound : Sound Try.prog 3 F_laws_FnDeepestStack := by
  refine fn_sound' (C := laws_FnDeepestStack_ctx) (c := bodyOf Try.f3) (cok_of tys_ok (List.forall_mem_cons.2 ⟨spec_DrawDeepestStack_sound, List.forall_mem_cons.2 ⟨impl_DeepestStack_sound, List.forall_mem_cons.2 ⟨spec_DeepestStack_sound, List.forall_mem_cons.2 ⟨laws_alive_sound, by simp⟩⟩⟩⟩) (List.forall_mem_cons.2 ⟨Try.call7, List.forall_mem_cons.2 ⟨Try.call8, List.forall_mem_cons.2 ⟨Try.call9, List.forall_mem_cons.2 ⟨Try.call10, by simp⟩⟩⟩⟩) (by kernel_rfl)) Try.func3 (by kernel_rfl) LL laws_FnDeepestStack_an ?_
  intro avs H r H' h
  unfold F_laws_FnDeepestStack at h
  split at h
  · refine Awp.cast ?_ ?_ ?_ (laws_FnDeepestStack_e _ h) <;> kernel_rfl
  · simp [Ans.no, Ans.run] at h


end Go.Rv
