/-
  The checked code answers as the plain functions do; written by program. Conditions: none.
-/
import Derived.Test.YtmmfabigcffdfaaGN
import Derived.Test.YtmmfabigcffdfaaProg
set_option linter.unusedVariables false
set_option linter.unusedSimpArgs false
set_option maxRecDepth 100000
namespace Go.Rv
open Go.Proofs
theorem ty3 : TIOk Try.prog 3 ⟨.int .i64, 1, 8, some (.int .i64), [.int .i64 0]⟩ := ⟨⟨infoOf (Try.prog.info? 3), by kernel_rfl, by kernel_rfl, by kernel_rfl, .int .i64 0, by kernel_rfl, by kernel_rfl⟩, (by kernel_rfl : Try.prog.underlying 3 = some (.int .i64))⟩
theorem ty4 : TIOk Try.prog 4 ⟨.bool, 1, 1, some .bool, [.bool false]⟩ := ⟨⟨infoOf (Try.prog.info? 4), by kernel_rfl, by kernel_rfl, by kernel_rfl, .bool false, by kernel_rfl, by kernel_rfl⟩, (by kernel_rfl : Try.prog.underlying 4 = some .bool)⟩
theorem ty5 : TIOk Try.prog 5 ⟨.int .u8, 1, 1, some (.int .u8), [.int .u8 0]⟩ := ⟨⟨infoOf (Try.prog.info? 5), by kernel_rfl, by kernel_rfl, by kernel_rfl, .int .u8 0, by kernel_rfl, by kernel_rfl⟩, (by kernel_rfl : Try.prog.underlying 5 = some (.int .u8))⟩
theorem ty9 : TIOk Try.prog 9 ⟨.str, 1, 16, some .str, [.string ByteArray.empty]⟩ := ⟨⟨infoOf (Try.prog.info? 9), by kernel_rfl, by kernel_rfl, by kernel_rfl, .string ByteArray.empty, by kernel_rfl, by kernel_rfl⟩, (by kernel_rfl : Try.prog.underlying 9 = some .string)⟩
theorem ty22 : TIOk Try.prog 22 ⟨.slice 5, 1, 24, some (.list (.int .u8)), [.slice none 0 0]⟩ := ⟨⟨infoOf (Try.prog.info? 22), by kernel_rfl, by kernel_rfl, by kernel_rfl, .slice none 0 0, by kernel_rfl, by kernel_rfl⟩, (by kernel_rfl : Try.prog.underlying 22 = some (.slice 5))⟩
theorem ty28 : TIOk Try.prog 28 ⟨.slice 3, 1, 24, some (.list (.int .i64)), [.slice none 0 0]⟩ := ⟨⟨infoOf (Try.prog.info? 28), by kernel_rfl, by kernel_rfl, by kernel_rfl, .slice none 0 0, by kernel_rfl, by kernel_rfl⟩, (by kernel_rfl : Try.prog.underlying 28 = some (.slice 3))⟩
theorem ty38 : TIOk Try.prog 38 ⟨.strct [(0, 28), (1, 28), (2, 3), (3, 3)], 4, 64, some (.pair (.list (.int .i64)) (.pair (.list (.int .i64)) (.pair (.int .i64) (.pair (.int .i64) .unit)))), [.slice none 0 0, .slice none 0 0, .int .i64 0, .int .i64 0]⟩ := ⟨⟨infoOf (Try.prog.info? 38), by kernel_rfl, by kernel_rfl, by kernel_rfl, .agg #[.slice none 0 0, .slice none 0 0, .int .i64 0, .int .i64 0], by kernel_rfl, by kernel_rfl⟩, ⟨fieldsOf (Try.prog.underlying 38), by kernel_rfl, by kernel_rfl⟩⟩
theorem ty46 : TIOk Try.prog 46 ⟨.map 5 48, 1, 8, none, [.map none]⟩ := ⟨⟨infoOf (Try.prog.info? 46), by kernel_rfl, by kernel_rfl, by kernel_rfl, .map none, by kernel_rfl, by kernel_rfl⟩, (by kernel_rfl : Try.prog.underlying 46 = some (.map 5 48))⟩
theorem ty48 : TIOk Try.prog 48 ⟨.scalar, 1, 8, none, [.nilFunc]⟩ := ⟨⟨infoOf (Try.prog.info? 48), by kernel_rfl, by kernel_rfl, by kernel_rfl, .nilFunc, by kernel_rfl, by kernel_rfl⟩, ⟨descOf (Try.prog.underlying 48), by kernel_rfl, by kernel_rfl⟩⟩
theorem ty53 : TIOk Try.prog 53 ⟨.strct [(0, 22), (1, 3)], 2, 32, some (.pair (.list (.int .u8)) (.pair (.int .i64) .unit)), [.slice none 0 0, .int .i64 0]⟩ := ⟨⟨infoOf (Try.prog.info? 53), by kernel_rfl, by kernel_rfl, by kernel_rfl, .agg #[.slice none 0 0, .int .i64 0], by kernel_rfl, by kernel_rfl⟩, ⟨fieldsOf (Try.prog.underlying 53), by kernel_rfl, by kernel_rfl⟩⟩
theorem ty54 : TIOk Try.prog 54 ⟨.slice 9, 1, 24, some (.list .str), [.slice none 0 0]⟩ := ⟨⟨infoOf (Try.prog.info? 54), by kernel_rfl, by kernel_rfl, by kernel_rfl, .slice none 0 0, by kernel_rfl, by kernel_rfl⟩, (by kernel_rfl : Try.prog.underlying 54 = some (.slice 9))⟩
theorem ty57 : TIOk Try.prog 57 ⟨.strct [(0, 28), (1, 3), (2, 3)], 3, 40, some (.pair (.list (.int .i64)) (.pair (.int .i64) (.pair (.int .i64) .unit))), [.slice none 0 0, .int .i64 0, .int .i64 0]⟩ := ⟨⟨infoOf (Try.prog.info? 57), by kernel_rfl, by kernel_rfl, by kernel_rfl, .agg #[.slice none 0 0, .int .i64 0, .int .i64 0], by kernel_rfl, by kernel_rfl⟩, ⟨fieldsOf (Try.prog.underlying 57), by kernel_rfl, by kernel_rfl⟩⟩
def tys : List (TypeId × TI) := [(3, ⟨.int .i64, 1, 8, some (.int .i64), [.int .i64 0]⟩), (4, ⟨.bool, 1, 1, some .bool, [.bool false]⟩), (5, ⟨.int .u8, 1, 1, some (.int .u8), [.int .u8 0]⟩), (9, ⟨.str, 1, 16, some .str, [.string ByteArray.empty]⟩), (22, ⟨.slice 5, 1, 24, some (.list (.int .u8)), [.slice none 0 0]⟩), (28, ⟨.slice 3, 1, 24, some (.list (.int .i64)), [.slice none 0 0]⟩), (38, ⟨.strct [(0, 28), (1, 28), (2, 3), (3, 3)], 4, 64, some (.pair (.list (.int .i64)) (.pair (.list (.int .i64)) (.pair (.int .i64) (.pair (.int .i64) .unit)))), [.slice none 0 0, .slice none 0 0, .int .i64 0, .int .i64 0]⟩), (46, ⟨.map 5 48, 1, 8, none, [.map none]⟩), (48, ⟨.scalar, 1, 8, none, [.nilFunc]⟩), (53, ⟨.strct [(0, 22), (1, 3)], 2, 32, some (.pair (.list (.int .u8)) (.pair (.int .i64) .unit)), [.slice none 0 0, .int .i64 0]⟩), (54, ⟨.slice 9, 1, 24, some (.list .str), [.slice none 0 0]⟩), (57, ⟨.strct [(0, 28), (1, 3), (2, 3)], 3, 40, some (.pair (.list (.int .i64)) (.pair (.int .i64) (.pair (.int .i64) .unit))), [.slice none 0 0, .int .i64 0, .int .i64 0]⟩)]
theorem tys_ok : TOk Try.prog (tlook tys) := tok_of (List.forall_mem_cons.2 ⟨ty3, List.forall_mem_cons.2 ⟨ty4, List.forall_mem_cons.2 ⟨ty5, List.forall_mem_cons.2 ⟨ty9, List.forall_mem_cons.2 ⟨ty22, List.forall_mem_cons.2 ⟨ty28, List.forall_mem_cons.2 ⟨ty38, List.forall_mem_cons.2 ⟨ty46, List.forall_mem_cons.2 ⟨ty48, List.forall_mem_cons.2 ⟨ty53, List.forall_mem_cons.2 ⟨ty54, List.forall_mem_cons.2 ⟨ty57, by simp⟩⟩⟩⟩⟩⟩⟩⟩⟩⟩⟩⟩)
def ioF (f : FuncId) (i : Nat) : Bool := [(13, 0)].any fun (p : Nat × Nat) => Nat.beq p.1 f && Nat.beq p.2 i

/-! loop.example/headtrees/spec.l20Open -/

def spec_l20Open_an : Ann := (.seq (.leaf [0]) (.seq (.seq (.leaf [0, 5]) (.cond (.leaf [0]) (.leaf [0]))) (.seq (.leaf [2]) (.leaf [2]))))

noncomputable def spec_l20Open_ctx : Ctx := ⟨tlook tys, olook [], ioF, 0, false, []⟩

theorem spec_l20Open_n1_l (x14 : List Int) : Link spec_l20Open_ctx LL (bodyOf Try.f20) spec_l20Open_an (⟨mkE 11 0 [(0, .dat (.list (.int .u8)) x14)], []⟩ : St) (spec_l20Open_n1 x14) (fun (t : (List Int)) => (Exit.ret, (⟨mkE 11 0 [(2, .ptr 0 0)], [some (.box [.dat (.list (.int .u8)) t, .dat (.int .i64) 0])]⟩ : St))) := by
  refine Link.of fun K h => ?_
  simp only [spec_l20Open_n1, wpO_bind, wpO_cond, wpO_map, wpO_some] at h
  exact Awp.of (by kernel_rfl) h

theorem spec_l20Open_e (x14 : List Int) {r : AV} {H' : Heap} (h : (Ans.mk _ (spec_l20Open x14) (fun (t : (List Int)) => (.ptr 0 0, [some (.box [.dat (.list (.int .u8)) t, .dat (.int .i64) 0])])) [] none).run = some (r, H')) : Awp spec_l20Open_ctx LL (bodyOf Try.f20) spec_l20Open_an (⟨mkE 11 0 [(0, .dat (.list (.int .u8)) x14)], []⟩ : St) (Ret (tlook tys) Try.f20.results.toList r H') :=
  ret_of' (spec_l20Open_n1_l x14) (by unfold spec_l20Open; kernel_rfl) (by
  intro t
  exact ret_mk [.ptr 0 0] (by kernel_rfl) (by kernel_rfl) (by kernel_rfl) (by kernel_rfl)) h

def F_spec_l20Open : Fun := fun avs H =>
  match avs, H with
  | [.dat (.list (.int .u8)) x14], [] => ⟨_, spec_l20Open x14, fun (t : (List Int)) => (.ptr 0 0, [some (.box [.dat (.list (.int .u8)) t, .dat (.int .i64) 0])]), [], none⟩
  | _, _ => Ans.no

theorem spec_l20Open_sound : Sound Try.prog 20 F_spec_l20Open := by
  refine fn_sound' (C := spec_l20Open_ctx) (c := bodyOf Try.f20) (cok_of tys_ok (by simp) (by simp) (by kernel_rfl)) Try.func20 (by kernel_rfl) LL spec_l20Open_an ?_
  intro avs H r H' h
  unfold F_spec_l20Open at h
  split at h
  · refine Awp.cast ?_ ?_ ?_ (spec_l20Open_e _ h) <;> kernel_rfl
  · simp [Ans.no, Ans.run] at h

/-! (*loop.example/headtrees/spec.l20Rd).pick -/

def spec_l20Rd_pick_an : Ann := (.seq (.leaf [0, 1]) (.seq (.leaf [0, 1]) (.seq (.seq (.leaf [0, 1, 24]) (.cond (.seq (.leaf [4]) (.leaf [4])) (.leaf [0, 1]))) (.seq (.leaf [0, 1, 5]) (.seq (.seq (.leaf [0, 1, 5, 36]) (.cond (.seq (.leaf [4]) (.leaf [4])) (.leaf [0, 1, 5]))) (.seq (.draw [] [0, 1, 2, 3, 4, 5, 6, 7, 8, 9, 10, 11, 12, 13, 14, 15, 16, 17, 18, 19, 20, 21, 22, 23, 24, 25, 26, 27, 28, 29, 30, 31, 32, 33, 34, 35, 36, 37, 38, 39, 40, 41, 42, 43, 44, 45] [] [1, 6]) (.seq (.leaf [1, 6]) (.seq (.leaf [4]) (.leaf [4])))))))))

noncomputable def spec_l20Rd_pick_ctx : Ctx := ⟨tlook tys, olook [], ioF, 1, false, []⟩

theorem spec_l20Rd_pick_n1_l (x36 : Int) (x37 : List Int) (x38 : Int) : Link spec_l20Rd_pick_ctx LL (bodyOf Try.f21) spec_l20Rd_pick_an (⟨mkE 99 0 [(0, .ptr 0 0), (1, .dat (.int .i64) x36)], [some (.box [.dat (.list (.int .u8)) x37, .dat (.int .i64) x38])]⟩ : St) (spec_l20Rd_pick_n1 x36 x37 x38) (fun (t : Int × Int) => (Exit.ret, (⟨mkE 99 0 [(4, .dat (.int .i64) t.1)], [some (.box [.dat (.list (.int .u8)) x37, .dat (.int .i64) t.2])]⟩ : St))) := by
  refine Link.of fun K h => ?_
  simp only [spec_l20Rd_pick_n1, wpO_bind, wpO_cond, wpO_map, wpO_some] at h
  exact Awp.of (by kernel_rfl) h

theorem spec_l20Rd_pick_e (x36 : Int) (x37 : List Int) (x38 : Int) {r : AV} {H' : Heap} (h : (Ans.mk _ (spec_l20Rd_pick x36 x37 x38) (fun (t : Int × Int) => (.dat (.int .i64) t.1, [some (.box [.dat (.list (.int .u8)) x37, .dat (.int .i64) t.2])])) [] none).run = some (r, H')) : Awp spec_l20Rd_pick_ctx LL (bodyOf Try.f21) spec_l20Rd_pick_an (⟨mkE 99 0 [(0, .ptr 0 0), (1, .dat (.int .i64) x36)], [some (.box [.dat (.list (.int .u8)) x37, .dat (.int .i64) x38])]⟩ : St) (Ret (tlook tys) Try.f21.results.toList r H') :=
  ret_of' (spec_l20Rd_pick_n1_l x36 x37 x38) (by unfold spec_l20Rd_pick; kernel_rfl) (by
  intro t
  exact ret_mk [.dat (.int .i64) t.1] (by kernel_rfl) (by kernel_rfl) (by kernel_rfl) (by kernel_rfl)) h

def F_spec_l20Rd_pick : Fun := fun avs H =>
  match avs, H with
  | [.ptr 0 0, .dat (.int .i64) x36], [some (.box [.dat (.list (.int .u8)) x37, .dat (.int .i64) x38])] => ⟨_, spec_l20Rd_pick x36 x37 x38, fun (t : Int × Int) => (.dat (.int .i64) t.1, [some (.box [.dat (.list (.int .u8)) x37, .dat (.int .i64) t.2])]), [], none⟩
  | _, _ => Ans.no

theorem spec_l20Rd_pick_sound : Sound Try.prog 21 F_spec_l20Rd_pick := by
  refine fn_sound' (C := spec_l20Rd_pick_ctx) (c := bodyOf Try.f21) (cok_of tys_ok (by simp) (by simp) (by kernel_rfl)) Try.func21 (by kernel_rfl) LL spec_l20Rd_pick_an ?_
  intro avs H r H' h
  unfold F_spec_l20Rd_pick at h
  split at h
  · refine Awp.cast ?_ ?_ ?_ (spec_l20Rd_pick_e _ _ _ h) <;> kernel_rfl
  · simp [Ans.no, Ans.run] at h

/-! (*loop.example/headtrees/spec.l20Rd).odd -/

def spec_l20Rd_odd_an : Ann := (.seq (.leaf [0, 1]) (.seq (.leaf [4]) (.leaf [4])))

noncomputable def spec_l20Rd_odd_ctx : Ctx := ⟨tlook tys, olook [(21, F_spec_l20Rd_pick)], ioF, 1, false, []⟩

theorem spec_l20Rd_odd_n1_l (x353 : Int) (x354 : List Int) (x355 : Int) : Link spec_l20Rd_odd_ctx LL (bodyOf Try.f28) spec_l20Rd_odd_an (⟨mkE 15 0 [(0, .ptr 0 0), (1, .dat (.int .i64) x353)], [some (.box [.dat (.list (.int .u8)) x354, .dat (.int .i64) x355])]⟩ : St) (spec_l20Rd_odd_n1 x353 x354 x355) (fun (t : Bool × Int) => (Exit.ret, (⟨mkE 15 0 [(4, .dat .bool t.1)], [some (.box [.dat (.list (.int .u8)) x354, .dat (.int .i64) t.2])]⟩ : St))) := by
  refine Link.of fun K h => ?_
  simp only [spec_l20Rd_odd_n1, wpO_bind, wpO_cond, wpO_map, wpO_some] at h
  exact Awp.of (by kernel_rfl) h

theorem spec_l20Rd_odd_e (x353 : Int) (x354 : List Int) (x355 : Int) {r : AV} {H' : Heap} (h : (Ans.mk _ (spec_l20Rd_odd x353 x354 x355) (fun (t : Bool × Int) => (.dat .bool t.1, [some (.box [.dat (.list (.int .u8)) x354, .dat (.int .i64) t.2])])) [] none).run = some (r, H')) : Awp spec_l20Rd_odd_ctx LL (bodyOf Try.f28) spec_l20Rd_odd_an (⟨mkE 15 0 [(0, .ptr 0 0), (1, .dat (.int .i64) x353)], [some (.box [.dat (.list (.int .u8)) x354, .dat (.int .i64) x355])]⟩ : St) (Ret (tlook tys) Try.f28.results.toList r H') :=
  ret_of' (spec_l20Rd_odd_n1_l x353 x354 x355) (by unfold spec_l20Rd_odd; kernel_rfl) (by
  intro t
  exact ret_mk [.dat .bool t.1] (by kernel_rfl) (by kernel_rfl) (by kernel_rfl) (by kernel_rfl)) h

def F_spec_l20Rd_odd : Fun := fun avs H =>
  match avs, H with
  | [.ptr 0 0, .dat (.int .i64) x353], [some (.box [.dat (.list (.int .u8)) x354, .dat (.int .i64) x355])] => ⟨_, spec_l20Rd_odd x353 x354 x355, fun (t : Bool × Int) => (.dat .bool t.1, [some (.box [.dat (.list (.int .u8)) x354, .dat (.int .i64) t.2])]), [], none⟩
  | _, _ => Ans.no

theorem spec_l20Rd_odd_sound : Sound Try.prog 28 F_spec_l20Rd_odd := by
  refine fn_sound' (C := spec_l20Rd_odd_ctx) (c := bodyOf Try.f28) (cok_of tys_ok (List.forall_mem_cons.2 ⟨spec_l20Rd_pick_sound, by simp⟩) (List.forall_mem_cons.2 ⟨Try.call21, by simp⟩) (by kernel_rfl)) Try.func28 (by kernel_rfl) LL spec_l20Rd_odd_an ?_
  intro avs H r H' h
  unfold F_spec_l20Rd_odd at h
  split at h
  · refine Awp.cast ?_ ?_ ?_ (spec_l20Rd_odd_e _ _ _ h) <;> kernel_rfl
  · simp [Ans.no, Ans.run] at h

/-! loop.example/headtrees/spec.l20Moves -/

def spec_l20Moves_an : Ann := (.seq (.leaf [0, 1]) (.seq (.leaf [0, 1, 5]) (.seq (.leaf [0, 1, 5, 6]) (.seq (.leaf [0, 5, 6, 7]) (.seq (.block (.loop (.seq (.seq (.leaf [0, 5, 6, 7, 15]) (.cond (.leaf [0, 5, 6, 7]) (.leaf [0, 5]))) (.block (.seq (.seq (.leaf [0, 5, 6, 7, 26]) (.cond (.seq (.leaf [0, 5, 6, 7]) (.seq (.leaf [0, 5, 6, 7]) (.seq (.leaf [0, 5, 6, 7]) (.leaf [0, 5, 6, 7])))) (.leaf [0, 5, 6, 7]))) (.seq (.leaf [0, 5, 6, 7]) (.leaf [0, 5, 6, 7]))))))) (.seq (.seq (.leaf [0, 5, 48]) (.cond (.seq (.leaf [0, 5, 8]) (.seq (.draw [3, 2, 12] [0, 1, 2, 3, 4, 9, 10, 11, 12, 5, 6, 7, 8, 13, 14] [] [4]) (.leaf [4]))) (.leaf [5]))) (.seq (.leaf [4]) (.leaf [4]))))))))

noncomputable def spec_l20Moves_ctx : Ctx := ⟨tlook tys, olook [(21, F_spec_l20Rd_pick), (28, F_spec_l20Rd_odd)], ioF, 1, false, []⟩

theorem spec_l20Moves_n1_l (x214 : Int) (x215 : List Int) (x216 : Int) : Link spec_l20Moves_ctx LL (Code.seq (Code.fst (bodyOf Try.f22)) (Code.seq (Code.fst (Code.snd (bodyOf Try.f22))) (Code.seq (Code.fst (Code.snd (Code.snd (bodyOf Try.f22)))) (Code.fst (Code.snd (Code.snd (Code.snd (bodyOf Try.f22)))))))) (Ann.seq (Ann.fst spec_l20Moves_an) (Ann.seq (Ann.fst (Ann.snd spec_l20Moves_an)) (Ann.seq (Ann.fst (Ann.snd (Ann.snd spec_l20Moves_an))) (Ann.fst (Ann.snd (Ann.snd (Ann.snd spec_l20Moves_an))))))) (⟨mkE 68 0 [(0, .ptr 0 0), (1, .dat (.int .i64) x214)], [some (.box [.dat (.list (.int .u8)) x215, .dat (.int .i64) x216])]⟩ : St) (spec_l20Moves_n1) (fun (t : Unit) => (Exit.normal, (⟨mkE 68 0 [(0, .ptr 0 0), (5, .dat .str ByteArray.empty), (6, .dat (.int .i64) 0), (7, .dat (.int .i64) x214)], [some (.box [.dat (.list (.int .u8)) x215, .dat (.int .i64) x216])]⟩ : St))) := by
  refine Link.of fun K h => ?_
  simp only [spec_l20Moves_n1, wpO_bind, wpO_cond, wpO_map, wpO_some] at h
  exact Awp.of (by kernel_rfl) h

theorem spec_l20Moves_n2_l (x735 : ByteArray) (x736 : Int) (x737 : Int) (x215 : List Int) (x738 : Int) : Link spec_l20Moves_ctx LL (Code.fst (Code.fst (Code.fst (Code.snd (Code.snd (Code.snd (Code.snd (bodyOf Try.f22)))))))) (Ann.fst (Ann.fst (Ann.fst (Ann.snd (Ann.snd (Ann.snd (Ann.snd spec_l20Moves_an))))))) (⟨mkE 68 0 [(0, .ptr 0 0), (5, .dat .str x735), (6, .dat (.int .i64) x736), (7, .dat (.int .i64) x737)], [some (.box [.dat (.list (.int .u8)) x215, .dat (.int .i64) x738])]⟩ : St) (spec_l20Moves_n2 x735 x736 x737 x215 x738) (Sum.elim (fun (t : ByteArray × Int × Int × Int) => (Exit.normal, (⟨mkE 68 0 [(0, .ptr 0 0), (5, .dat .str t.1), (6, .dat (.int .i64) t.2.1), (7, .dat (.int .i64) t.2.2.1)], [some (.box [.dat (.list (.int .u8)) x215, .dat (.int .i64) t.2.2.2])]⟩ : St))) (fun (t : ByteArray × Int) => ((Exit.exit 0), (⟨mkE 68 0 [(0, .ptr 0 0), (5, .dat .str t.1)], [some (.box [.dat (.list (.int .u8)) x215, .dat (.int .i64) t.2])]⟩ : St)))) := by
  refine Link.of fun K h => ?_
  simp only [spec_l20Moves_n2, wpO_bind, wpO_cond, wpO_map, wpO_some] at h
  exact Awp.of (by kernel_rfl) h

theorem spec_l20Moves_n3_l (x214 : Int) (x215 : List Int) (x216 : Int) : Link spec_l20Moves_ctx LL (Code.fst (Code.fst (Code.snd (Code.snd (Code.snd (Code.snd (bodyOf Try.f22))))))) (Ann.fst (Ann.fst (Ann.snd (Ann.snd (Ann.snd (Ann.snd spec_l20Moves_an)))))) (⟨mkE 68 0 [(0, .ptr 0 0), (5, .dat .str ByteArray.empty), (6, .dat (.int .i64) 0), (7, .dat (.int .i64) x214)], [some (.box [.dat (.list (.int .u8)) x215, .dat (.int .i64) x216])]⟩ : St) (spec_l20Moves_n3 x214 x215 x216) (fun (t : ByteArray × Int) => ((Exit.exit 0), (⟨mkE 68 0 [(0, .ptr 0 0), (5, .dat .str t.1)], [some (.box [.dat (.list (.int .u8)) x215, .dat (.int .i64) t.2])]⟩ : St))) := by
  unfold spec_l20Moves_n3
  exact Link.cast (by kernel_rfl) (by kernel_rfl) (link_loop (mk := fun (s : ByteArray × Int × Int × Int) => (⟨mkE 68 0 [(0, .ptr 0 0), (5, .dat .str s.1), (6, .dat (.int .i64) s.2.1), (7, .dat (.int .i64) s.2.2.1)], [some (.box [.dat (.list (.int .u8)) x215, .dat (.int .i64) s.2.2.2])]⟩ : St)) (fin := (fun (t : ByteArray × Int) => ((Exit.exit 0), (⟨mkE 68 0 [(0, .ptr 0 0), (5, .dat .str t.1)], [some (.box [.dat (.list (.int .u8)) x215, .dat (.int .i64) t.2])]⟩ : St)))) (by
  rintro t f K h
  · exact h) (fun s => link_map (spec_l20Moves_n2_l s.1 s.2.1 s.2.2.1 x215 s.2.2.2) (Sum.elim (fun (t : ByteArray × Int × Int × Int) => Sum.inl (t.1, t.2.1, t.2.2.1, t.2.2.2)) (fun (t : ByteArray × Int) => Sum.inr t)) (by
  rintro (t | t)
  · kernel_rfl
  · kernel_rfl)) (ByteArray.empty, 0, x214, x216))

theorem spec_l20Moves_n4_l (x214 : Int) (x215 : List Int) (x216 : Int) : Link spec_l20Moves_ctx LL (Code.fst (Code.snd (Code.snd (Code.snd (Code.snd (bodyOf Try.f22)))))) (Ann.fst (Ann.snd (Ann.snd (Ann.snd (Ann.snd spec_l20Moves_an))))) (⟨mkE 68 0 [(0, .ptr 0 0), (5, .dat .str ByteArray.empty), (6, .dat (.int .i64) 0), (7, .dat (.int .i64) x214)], [some (.box [.dat (.list (.int .u8)) x215, .dat (.int .i64) x216])]⟩ : St) (spec_l20Moves_n4 x214 x215 x216) (fun (t : ByteArray × Int) => (Exit.normal, (⟨mkE 68 0 [(0, .ptr 0 0), (5, .dat .str t.1)], [some (.box [.dat (.list (.int .u8)) x215, .dat (.int .i64) t.2])]⟩ : St))) := by
  unfold spec_l20Moves_n4
  exact Link.cast (by kernel_rfl) (by kernel_rfl) (link_block (id := 0) (spec_l20Moves_n3_l x214 x215 x216) (fun (t : ByteArray × Int) => (t.1, t.2)) (by
  rintro t K h
  · exact Eq.mp (by kernel_rfl) h))

theorem spec_l20Moves_n5_l (x735 : ByteArray) (x215 : List Int) (x738 : Int) : Link spec_l20Moves_ctx LL (Code.snd (Code.snd (Code.snd (Code.snd (Code.snd (bodyOf Try.f22)))))) (Ann.snd (Ann.snd (Ann.snd (Ann.snd (Ann.snd spec_l20Moves_an))))) (⟨mkE 68 0 [(0, .ptr 0 0), (5, .dat .str x735)], [some (.box [.dat (.list (.int .u8)) x215, .dat (.int .i64) x738])]⟩ : St) (spec_l20Moves_n5 x735 x215 x738) (fun (t : ByteArray × Int) => (Exit.ret, (⟨mkE 68 0 [(4, .dat .str t.1)], [some (.box [.dat (.list (.int .u8)) x215, .dat (.int .i64) t.2])]⟩ : St))) := by
  refine Link.of fun K h => ?_
  simp only [spec_l20Moves_n5, wpO_bind, wpO_cond, wpO_map, wpO_some] at h
  exact Awp.of (by kernel_rfl) h

theorem spec_l20Moves_n6_l (x214 : Int) (x215 : List Int) (x216 : Int) : Link spec_l20Moves_ctx LL (Code.snd (Code.snd (Code.snd (Code.snd (bodyOf Try.f22))))) (Ann.snd (Ann.snd (Ann.snd (Ann.snd spec_l20Moves_an)))) (⟨mkE 68 0 [(0, .ptr 0 0), (5, .dat .str ByteArray.empty), (6, .dat (.int .i64) 0), (7, .dat (.int .i64) x214)], [some (.box [.dat (.list (.int .u8)) x215, .dat (.int .i64) x216])]⟩ : St) (spec_l20Moves_n6 x214 x215 x216) (fun (t : ByteArray × Int) => (Exit.ret, (⟨mkE 68 0 [(4, .dat .str t.1)], [some (.box [.dat (.list (.int .u8)) x215, .dat (.int .i64) t.2])]⟩ : St))) := by
  unfold spec_l20Moves_n6
  exact Link.cast (by kernel_rfl) (by kernel_rfl) (link_seq (b := (Code.snd (Code.snd (Code.snd (Code.snd (Code.snd (bodyOf Try.f22))))))) (y := (Ann.snd (Ann.snd (Ann.snd (Ann.snd (Ann.snd spec_l20Moves_an)))))) (spec_l20Moves_n4_l x214 x215 x216) (fun (t : ByteArray × Int) => (spec_l20Moves_n5_l t.1 x215 t.2)))

theorem spec_l20Moves_n7_l (x214 : Int) (x215 : List Int) (x216 : Int) : Link spec_l20Moves_ctx LL (bodyOf Try.f22) spec_l20Moves_an (⟨mkE 68 0 [(0, .ptr 0 0), (1, .dat (.int .i64) x214)], [some (.box [.dat (.list (.int .u8)) x215, .dat (.int .i64) x216])]⟩ : St) (spec_l20Moves_n7 x214 x215 x216) (fun (t : ByteArray × Int) => (Exit.ret, (⟨mkE 68 0 [(4, .dat .str t.1)], [some (.box [.dat (.list (.int .u8)) x215, .dat (.int .i64) t.2])]⟩ : St))) := by
  unfold spec_l20Moves_n7
  exact Link.cast (by kernel_rfl) (by kernel_rfl) (link_group (c := (Code.fst (Code.snd (Code.snd (Code.snd (bodyOf Try.f22)))))) (a := (Ann.fst (Ann.snd (Ann.snd (Ann.snd spec_l20Moves_an))))) [(Code.fst (bodyOf Try.f22)), (Code.fst (Code.snd (bodyOf Try.f22))), (Code.fst (Code.snd (Code.snd (bodyOf Try.f22))))] [(Ann.fst spec_l20Moves_an), (Ann.fst (Ann.snd spec_l20Moves_an)), (Ann.fst (Ann.snd (Ann.snd spec_l20Moves_an)))] rfl (link_seq (b := (Code.snd (Code.snd (Code.snd (Code.snd (bodyOf Try.f22)))))) (y := (Ann.snd (Ann.snd (Ann.snd (Ann.snd spec_l20Moves_an))))) (spec_l20Moves_n1_l x214 x215 x216) (fun (t : Unit) => (spec_l20Moves_n6_l x214 x215 x216))))

theorem spec_l20Moves_e (x214 : Int) (x215 : List Int) (x216 : Int) {r : AV} {H' : Heap} (h : (Ans.mk _ (spec_l20Moves x214 x215 x216) (fun (t : ByteArray × Int) => (.dat .str t.1, [some (.box [.dat (.list (.int .u8)) x215, .dat (.int .i64) t.2])])) [] none).run = some (r, H')) : Awp spec_l20Moves_ctx LL (bodyOf Try.f22) spec_l20Moves_an (⟨mkE 68 0 [(0, .ptr 0 0), (1, .dat (.int .i64) x214)], [some (.box [.dat (.list (.int .u8)) x215, .dat (.int .i64) x216])]⟩ : St) (Ret (tlook tys) Try.f22.results.toList r H') :=
  ret_of' (spec_l20Moves_n7_l x214 x215 x216) (by unfold spec_l20Moves; kernel_rfl) (by
  intro t
  exact ret_mk [.dat .str t.1] (by kernel_rfl) (by kernel_rfl) (by kernel_rfl) (by kernel_rfl)) h

def F_spec_l20Moves : Fun := fun avs H =>
  match avs, H with
  | [.ptr 0 0, .dat (.int .i64) x214], [some (.box [.dat (.list (.int .u8)) x215, .dat (.int .i64) x216])] => ⟨_, spec_l20Moves x214 x215 x216, fun (t : ByteArray × Int) => (.dat .str t.1, [some (.box [.dat (.list (.int .u8)) x215, .dat (.int .i64) t.2])]), [], none⟩
  | _, _ => Ans.no

theorem spec_l20Moves_sound : Sound Try.prog 22 F_spec_l20Moves := by
  refine fn_sound' (C := spec_l20Moves_ctx) (c := bodyOf Try.f22) (cok_of tys_ok (List.forall_mem_cons.2 ⟨spec_l20Rd_pick_sound, List.forall_mem_cons.2 ⟨spec_l20Rd_odd_sound, by simp⟩⟩) (List.forall_mem_cons.2 ⟨Try.call21, List.forall_mem_cons.2 ⟨Try.call28, by simp⟩⟩) (by kernel_rfl)) Try.func22 (by kernel_rfl) LL spec_l20Moves_an ?_
  intro avs H r H' h
  unfold F_spec_l20Moves at h
  split at h
  · refine Awp.cast ?_ ?_ ?_ (spec_l20Moves_e _ _ _ h) <;> kernel_rfl
  · simp [Ans.no, Ans.run] at h

/-! loop.example/headtrees/spec.DrawRunStack -/

def spec_DrawRunStack_an : Ann := (.seq (.leaf [0]) (.seq (.leaf [4]) (.seq (.leaf [4, 5]) (.seq (.leaf [2, 3]) (.leaf [2, 3])))))

noncomputable def spec_DrawRunStack_ctx : Ctx := ⟨tlook tys, olook [(20, F_spec_l20Open), (21, F_spec_l20Rd_pick), (22, F_spec_l20Moves)], ioF, 0, false, []⟩

theorem spec_DrawRunStack_n1_l (x13 : List Int) : Link spec_DrawRunStack_ctx LL (bodyOf Try.f15) spec_DrawRunStack_an (⟨mkE 23 0 [(0, .dat (.list (.int .u8)) x13)], []⟩ : St) (spec_DrawRunStack_n1 x13) (fun (t : Int × ByteArray) => (Exit.ret, (⟨mkE 23 0 [(2, .dat (.int .i64) t.1), (3, .dat .str t.2)], []⟩ : St))) := by
  refine Link.of fun K h => ?_
  simp only [spec_DrawRunStack_n1, wpO_bind, wpO_cond, wpO_map, wpO_some] at h
  exact Awp.of (by kernel_rfl) h

theorem spec_DrawRunStack_e (x13 : List Int) {r : AV} {H' : Heap} (h : (Ans.mk _ (spec_DrawRunStack x13) (fun (t : Int × ByteArray) => (.tup [.dat (.int .i64) t.1, .dat .str t.2], [])) [] none).run = some (r, H')) : Awp spec_DrawRunStack_ctx LL (bodyOf Try.f15) spec_DrawRunStack_an (⟨mkE 23 0 [(0, .dat (.list (.int .u8)) x13)], []⟩ : St) (Ret (tlook tys) Try.f15.results.toList r H') :=
  ret_of' (spec_DrawRunStack_n1_l x13) (by unfold spec_DrawRunStack; kernel_rfl) (by
  intro t
  exact ret_mk [.dat (.int .i64) t.1, .dat .str t.2] (by kernel_rfl) (by kernel_rfl) (by kernel_rfl) (by kernel_rfl)) h

def F_spec_DrawRunStack : Fun := fun avs H =>
  match avs, H with
  | [.dat (.list (.int .u8)) x13], [] => ⟨_, spec_DrawRunStack x13, fun (t : Int × ByteArray) => (.tup [.dat (.int .i64) t.1, .dat .str t.2], []), [], none⟩
  | _, _ => Ans.no

theorem spec_DrawRunStack_sound : Sound Try.prog 15 F_spec_DrawRunStack := by
  refine fn_sound' (C := spec_DrawRunStack_ctx) (c := bodyOf Try.f15) (cok_of tys_ok (List.forall_mem_cons.2 ⟨spec_l20Open_sound, List.forall_mem_cons.2 ⟨spec_l20Rd_pick_sound, List.forall_mem_cons.2 ⟨spec_l20Moves_sound, by simp⟩⟩⟩) (List.forall_mem_cons.2 ⟨Try.call20, List.forall_mem_cons.2 ⟨Try.call21, List.forall_mem_cons.2 ⟨Try.call22, by simp⟩⟩⟩) (by kernel_rfl)) Try.func15 (by kernel_rfl) LL spec_DrawRunStack_an ?_
  intro avs H r H' h
  unfold F_spec_DrawRunStack at h
  split at h
  · refine Awp.cast ?_ ?_ ?_ (spec_DrawRunStack_e _ h) <;> kernel_rfl
  · simp [Ans.no, Ans.run] at h

/-! loop.example/headtrees/spec.DrawDeepestStack -/

def spec_DrawDeepestStack_an : Ann := (.seq (.leaf [0]) (.seq (.leaf [2, 3]) (.leaf [2, 3])))

noncomputable def spec_DrawDeepestStack_ctx : Ctx := ⟨tlook tys, olook [(15, F_spec_DrawRunStack)], ioF, 0, false, []⟩

theorem spec_DrawDeepestStack_n1_l (x10 : List Int) : Link spec_DrawDeepestStack_ctx LL (bodyOf Try.f6) spec_DrawDeepestStack_an (⟨mkE 8 0 [(0, .dat (.list (.int .u8)) x10)], []⟩ : St) (spec_DrawDeepestStack_n1 x10) (fun (t : Int × ByteArray) => (Exit.ret, (⟨mkE 8 0 [(2, .dat (.int .i64) t.1), (3, .dat .str t.2)], []⟩ : St))) := by
  refine Link.of fun K h => ?_
  simp only [spec_DrawDeepestStack_n1, wpO_bind, wpO_cond, wpO_map, wpO_some] at h
  exact Awp.of (by kernel_rfl) h

theorem spec_DrawDeepestStack_e (x10 : List Int) {r : AV} {H' : Heap} (h : (Ans.mk _ (spec_DrawDeepestStack x10) (fun (t : Int × ByteArray) => (.tup [.dat (.int .i64) t.1, .dat .str t.2], [])) [] none).run = some (r, H')) : Awp spec_DrawDeepestStack_ctx LL (bodyOf Try.f6) spec_DrawDeepestStack_an (⟨mkE 8 0 [(0, .dat (.list (.int .u8)) x10)], []⟩ : St) (Ret (tlook tys) Try.f6.results.toList r H') :=
  ret_of' (spec_DrawDeepestStack_n1_l x10) (by unfold spec_DrawDeepestStack; kernel_rfl) (by
  intro t
  exact ret_mk [.dat (.int .i64) t.1, .dat .str t.2] (by kernel_rfl) (by kernel_rfl) (by kernel_rfl) (by kernel_rfl)) h

def F_spec_DrawDeepestStack : Fun := fun avs H =>
  match avs, H with
  | [.dat (.list (.int .u8)) x10], [] => ⟨_, spec_DrawDeepestStack x10, fun (t : Int × ByteArray) => (.tup [.dat (.int .i64) t.1, .dat .str t.2], []), [], none⟩
  | _, _ => Ans.no

theorem spec_DrawDeepestStack_sound : Sound Try.prog 6 F_spec_DrawDeepestStack := by
  refine fn_sound' (C := spec_DrawDeepestStack_ctx) (c := bodyOf Try.f6) (cok_of tys_ok (List.forall_mem_cons.2 ⟨spec_DrawRunStack_sound, by simp⟩) (List.forall_mem_cons.2 ⟨Try.call15, by simp⟩) (by kernel_rfl)) Try.func6 (by kernel_rfl) LL spec_DrawDeepestStack_an ?_
  intro avs H r H' h
  unfold F_spec_DrawDeepestStack at h
  split at h
  · refine Awp.cast ?_ ?_ ?_ (spec_DrawDeepestStack_e _ h) <;> kernel_rfl
  · simp [Ans.no, Ans.run] at h

/-! loop.example/headtrees/impl.newStackMachine -/

def impl_newStackMachine_an : Ann := (.seq (.leaf [0]) (.seq (.leaf [2]) (.leaf [2])))

noncomputable def impl_newStackMachine_ctx : Ctx := ⟨tlook tys, olook [], ioF, 0, false, []⟩

theorem impl_newStackMachine_n1_l (x917 : Int) : Link impl_newStackMachine_ctx LL (bodyOf Try.f23) impl_newStackMachine_an (⟨mkE 7 0 [(0, .dat (.int .i64) x917)], []⟩ : St) (impl_newStackMachine_n1 x917) (fun (t : (List Int)) => (Exit.ret, (⟨mkE 7 0 [(2, .ptr 0 0)], [some (.box [.slc 1, .nils, .dat (.int .i64) 0, .dat (.int .i64) 0]), some (.seq (.int .i64) t)]⟩ : St))) := by
  refine Link.of fun K h => ?_
  simp only [impl_newStackMachine_n1, wpO_bind, wpO_cond, wpO_map, wpO_some] at h
  exact Awp.of (by kernel_rfl) h

theorem impl_newStackMachine_e (x917 : Int) {r : AV} {H' : Heap} (h : (Ans.mk _ (impl_newStackMachine x917) (fun (t : (List Int)) => (.ptr 0 0, [some (.box [.slc 1, .nils, .dat (.int .i64) 0, .dat (.int .i64) 0]), some (.seq (.int .i64) t)])) [] none).run = some (r, H')) : Awp impl_newStackMachine_ctx LL (bodyOf Try.f23) impl_newStackMachine_an (⟨mkE 7 0 [(0, .dat (.int .i64) x917)], []⟩ : St) (Ret (tlook tys) Try.f23.results.toList r H') :=
  ret_of' (impl_newStackMachine_n1_l x917) (by unfold impl_newStackMachine; kernel_rfl) (by
  intro t
  exact ret_mk [.ptr 0 0] (by kernel_rfl) (by kernel_rfl) (by kernel_rfl) (by kernel_rfl)) h

def F_impl_newStackMachine : Fun := fun avs H =>
  match avs, H with
  | [.dat (.int .i64) x917], [] => ⟨_, impl_newStackMachine x917, fun (t : (List Int)) => (.ptr 0 0, [some (.box [.slc 1, .nils, .dat (.int .i64) 0, .dat (.int .i64) 0]), some (.seq (.int .i64) t)]), [], none⟩
  | _, _ => Ans.no

theorem impl_newStackMachine_sound : Sound Try.prog 23 F_impl_newStackMachine := by
  refine fn_sound' (C := impl_newStackMachine_ctx) (c := bodyOf Try.f23) (cok_of tys_ok (by simp) (by simp) (by kernel_rfl)) Try.func23 (by kernel_rfl) LL impl_newStackMachine_an ?_
  intro avs H r H' h
  unfold F_impl_newStackMachine at h
  split at h
  · refine Awp.cast ?_ ?_ ?_ (impl_newStackMachine_e _ h) <;> kernel_rfl
  · simp [Ans.no, Ans.run] at h

/-! loop.example/headtrees/impl.stackMoves -/

def F_impl_stackMoves : Fun := F_map [(.int .u8 83, 29), (.int .u8 76, 30), (.int .u8 82, 31)]

theorem impl_stackMoves_sound : Sound Try.prog 24 F_impl_stackMoves :=
  mapfn_sound (mt := 46) (kt := 5) (et := 48) (d := .int .u8) Try.func24 (by kernel_rfl) (by kernel_rfl) (by kernel_rfl) (by kernel_rfl) (by kernel_rfl)

/-! (*loop.example/headtrees/impl.stackMachine).putNext -/

def impl_stackMachine_putNext_an : Ann := (.seq (.leaf [0]) (.seq (.seq (.draw [] [0, 1, 2, 3, 4, 5, 6, 7, 8, 9] [] [0, 12]) (.cond (.seq (.leaf [2]) (.leaf [2])) (.leaf [0]))) (.seq (.leaf [0]) (.seq (.draw [] [0, 1, 2, 3, 4, 5, 6, 7, 8, 9, 10, 11, 12, 13] [] [0]) (.seq (.draw [] [0, 1, 2, 3, 4, 5, 6, 7, 8, 9, 10, 11, 12, 13] [] []) (.seq (.leaf [2]) (.leaf [2])))))))

noncomputable def impl_stackMachine_putNext_ctx : Ctx := ⟨tlook tys, olook [], ioF, 3, false, [2]⟩

theorem impl_stackMachine_putNext_n1_l (x977 : Int) (x978 : Int) (x979 : List Int) (x980 : List Int) : Link impl_stackMachine_putNext_ctx LL (bodyOf Try.f29) impl_stackMachine_putNext_an (⟨mkE 46 0 [(0, .ptr 0 0)], [some (.box [.slc 1, .slc 2, .dat (.int .i64) x977, .dat (.int .i64) x978]), some (.seq (.int .i64) x979), some (.seq (.int .i64) x980)]⟩ : St) (impl_stackMachine_putNext_n1 x977 x978 x979 x980) (fun (t : Bool × Int × Int × (List Int)) => (Exit.ret, (⟨mkE 46 0 [(2, .dat .bool t.1)], [some (.box [.slc 1, .slc 2, .dat (.int .i64) t.2.1, .dat (.int .i64) t.2.2.1]), some (.seq (.int .i64) x979), some (.seq (.int .i64) t.2.2.2)]⟩ : St))) := by
  refine Link.of fun K h => ?_
  simp only [impl_stackMachine_putNext_n1, wpO_bind, wpO_cond, wpO_map, wpO_some] at h
  exact Awp.of (by kernel_rfl) h

theorem impl_stackMachine_putNext_e (x977 : Int) (x978 : Int) (x979 : List Int) (x980 : List Int) {r : AV} {H' : Heap} (h : (Ans.mk _ (impl_stackMachine_putNext x977 x978 x979 x980) (fun (t : Bool × Int × Int × (List Int)) => (.dat .bool t.1, [some (.box [.slc 1, .slc 2, .dat (.int .i64) t.2.1, .dat (.int .i64) t.2.2.1]), some (.seq (.int .i64) x979), some (.seq (.int .i64) t.2.2.2)])) [2] none).run = some (r, H')) : Awp impl_stackMachine_putNext_ctx LL (bodyOf Try.f29) impl_stackMachine_putNext_an (⟨mkE 46 0 [(0, .ptr 0 0)], [some (.box [.slc 1, .slc 2, .dat (.int .i64) x977, .dat (.int .i64) x978]), some (.seq (.int .i64) x979), some (.seq (.int .i64) x980)]⟩ : St) (Ret (tlook tys) Try.f29.results.toList r H') :=
  ret_of' (impl_stackMachine_putNext_n1_l x977 x978 x979 x980) (by unfold impl_stackMachine_putNext; kernel_rfl) (by
  intro t
  exact ret_mk [.dat .bool t.1] (by kernel_rfl) (by kernel_rfl) (by kernel_rfl) (by kernel_rfl)) h

def F_impl_stackMachine_putNext : Fun := fun avs H =>
  match avs, H with
  | [.ptr 0 0], [some (.box [.slc 1, .slc 2, .dat (.int .i64) x977, .dat (.int .i64) x978]), some (.seq (.int .i64) x979), some (.seq (.int .i64) x980)] => ⟨_, impl_stackMachine_putNext x977 x978 x979 x980, fun (t : Bool × Int × Int × (List Int)) => (.dat .bool t.1, [some (.box [.slc 1, .slc 2, .dat (.int .i64) t.2.1, .dat (.int .i64) t.2.2.1]), some (.seq (.int .i64) x979), some (.seq (.int .i64) t.2.2.2)]), [2], none⟩
  | _, _ => Ans.no

theorem impl_stackMachine_putNext_sound : Sound Try.prog 29 F_impl_stackMachine_putNext := by
  refine fn_sound' (C := impl_stackMachine_putNext_ctx) (c := bodyOf Try.f29) (cok_of tys_ok (by simp) (by simp) (by kernel_rfl)) Try.func29 (by kernel_rfl) LL impl_stackMachine_putNext_an ?_
  intro avs H r H' h
  unfold F_impl_stackMachine_putNext at h
  split at h
  · refine Awp.cast ?_ ?_ ?_ (impl_stackMachine_putNext_e _ _ _ _ h) <;> kernel_rfl
  · simp [Ans.no, Ans.run] at h

/-! (*loop.example/headtrees/impl.stackMachine).upperTwo -/

def impl_stackMachine_upperTwo_an : Ann := (.seq (.leaf [0]) (.seq (.leaf [0, 5]) (.seq (.seq (.leaf [0, 5, 12]) (.cond (.seq (.leaf [2, 3, 4]) (.leaf [2, 3, 4])) (.leaf [0, 5]))) (.seq (.draw [] [0, 1, 2, 3, 4, 5, 6, 7, 8, 9, 10, 11, 12, 13, 14, 15, 16, 17, 18] [] [2, 3, 4]) (.leaf [2, 3, 4])))))

noncomputable def impl_stackMachine_upperTwo_ctx : Ctx := ⟨tlook tys, olook [], ioF, 3, false, []⟩

theorem impl_stackMachine_upperTwo_n1_l (x1035 : Int) (x1036 : Int) (x1037 : List Int) (x1038 : List Int) : Link impl_stackMachine_upperTwo_ctx LL (bodyOf Try.f33) impl_stackMachine_upperTwo_an (⟨mkE 29 0 [(0, .ptr 0 0)], [some (.box [.slc 1, .slc 2, .dat (.int .i64) x1035, .dat (.int .i64) x1036]), some (.seq (.int .i64) x1037), some (.seq (.int .i64) x1038)]⟩ : St) (impl_stackMachine_upperTwo_n1 x1038) (fun (t : Int × Int × Bool) => (Exit.ret, (⟨mkE 29 0 [(2, .dat (.int .i64) t.1), (3, .dat (.int .i64) t.2.1), (4, .dat .bool t.2.2)], [some (.box [.slc 1, .slc 2, .dat (.int .i64) x1035, .dat (.int .i64) x1036]), some (.seq (.int .i64) x1037), some (.seq (.int .i64) x1038)]⟩ : St))) := by
  refine Link.of fun K h => ?_
  simp only [impl_stackMachine_upperTwo_n1, wpO_bind, wpO_cond, wpO_map, wpO_some] at h
  exact Awp.of (by kernel_rfl) h

theorem impl_stackMachine_upperTwo_e (x1035 : Int) (x1036 : Int) (x1037 : List Int) (x1038 : List Int) {r : AV} {H' : Heap} (h : (Ans.mk _ (impl_stackMachine_upperTwo x1035 x1036 x1037 x1038) (fun (t : Int × Int × Bool) => (.tup [.dat (.int .i64) t.1, .dat (.int .i64) t.2.1, .dat .bool t.2.2], [some (.box [.slc 1, .slc 2, .dat (.int .i64) x1035, .dat (.int .i64) x1036]), some (.seq (.int .i64) x1037), some (.seq (.int .i64) x1038)])) [] none).run = some (r, H')) : Awp impl_stackMachine_upperTwo_ctx LL (bodyOf Try.f33) impl_stackMachine_upperTwo_an (⟨mkE 29 0 [(0, .ptr 0 0)], [some (.box [.slc 1, .slc 2, .dat (.int .i64) x1035, .dat (.int .i64) x1036]), some (.seq (.int .i64) x1037), some (.seq (.int .i64) x1038)]⟩ : St) (Ret (tlook tys) Try.f33.results.toList r H') :=
  ret_of' (impl_stackMachine_upperTwo_n1_l x1035 x1036 x1037 x1038) (by unfold impl_stackMachine_upperTwo; kernel_rfl) (by
  intro t
  exact ret_mk [.dat (.int .i64) t.1, .dat (.int .i64) t.2.1, .dat .bool t.2.2] (by kernel_rfl) (by kernel_rfl) (by kernel_rfl) (by kernel_rfl)) h

def F_impl_stackMachine_upperTwo : Fun := fun avs H =>
  match avs, H with
  | [.ptr 0 0], [some (.box [.slc 1, .slc 2, .dat (.int .i64) x1035, .dat (.int .i64) x1036]), some (.seq (.int .i64) x1037), some (.seq (.int .i64) x1038)] => ⟨_, impl_stackMachine_upperTwo x1035 x1036 x1037 x1038, fun (t : Int × Int × Bool) => (.tup [.dat (.int .i64) t.1, .dat (.int .i64) t.2.1, .dat .bool t.2.2], [some (.box [.slc 1, .slc 2, .dat (.int .i64) x1035, .dat (.int .i64) x1036]), some (.seq (.int .i64) x1037), some (.seq (.int .i64) x1038)]), [], none⟩
  | _, _ => Ans.no

theorem impl_stackMachine_upperTwo_sound : Sound Try.prog 33 F_impl_stackMachine_upperTwo := by
  refine fn_sound' (C := impl_stackMachine_upperTwo_ctx) (c := bodyOf Try.f33) (cok_of tys_ok (by simp) (by simp) (by kernel_rfl)) Try.func33 (by kernel_rfl) LL impl_stackMachine_upperTwo_an ?_
  intro avs H r H' h
  unfold F_impl_stackMachine_upperTwo at h
  split at h
  · refine Awp.cast ?_ ?_ ?_ (impl_stackMachine_upperTwo_e _ _ _ _ h) <;> kernel_rfl
  · simp [Ans.no, Ans.run] at h

/-! (*loop.example/headtrees/impl.stackMachine).join -/

def impl_stackMachine_join_an : Ann := (.seq (.leaf [0, 2]) (.draw [] [0, 1, 2, 3, 4, 5, 6, 7, 8, 9, 10, 11, 12, 13, 14, 15, 16, 17] [] []))

noncomputable def impl_stackMachine_join_ctx : Ctx := ⟨tlook tys, olook [], ioF, 3, false, [2]⟩

theorem impl_stackMachine_join_n1_l (x1069 : Int) (x1070 : Int) (x1071 : Int) (x1072 : Int) (x1073 : List Int) (x1074 : List Int) : Link impl_stackMachine_join_ctx LL (bodyOf Try.f34) impl_stackMachine_join_an (⟨mkE 31 0 [(0, .ptr 0 0), (1, .dat (.int .i64) x1069), (2, .dat (.int .i64) x1070)], [some (.box [.slc 1, .slc 2, .dat (.int .i64) x1071, .dat (.int .i64) x1072]), some (.seq (.int .i64) x1073), some (.seq (.int .i64) x1074)]⟩ : St) (impl_stackMachine_join_n1 x1069 x1070 x1073 x1074) (fun (t : (List Int) × (List Int)) => (Exit.normal, (⟨mkE 31 0 [], [some (.box [.slc 1, .slc 2, .dat (.int .i64) x1071, .dat (.int .i64) x1072]), some (.seq (.int .i64) t.1), some (.seq (.int .i64) t.2)]⟩ : St))) := by
  refine Link.of fun K h => ?_
  simp only [impl_stackMachine_join_n1, wpO_bind, wpO_cond, wpO_map, wpO_some] at h
  exact Awp.of (by kernel_rfl) h

theorem impl_stackMachine_join_e (x1069 : Int) (x1070 : Int) (x1071 : Int) (x1072 : Int) (x1073 : List Int) (x1074 : List Int) {r : AV} {H' : Heap} (h : (Ans.mk _ (impl_stackMachine_join x1069 x1070 x1071 x1072 x1073 x1074) (fun (t : (List Int) × (List Int)) => (.tup [], [some (.box [.slc 1, .slc 2, .dat (.int .i64) x1071, .dat (.int .i64) x1072]), some (.seq (.int .i64) t.1), some (.seq (.int .i64) t.2)])) [2] none).run = some (r, H')) : Awp impl_stackMachine_join_ctx LL (bodyOf Try.f34) impl_stackMachine_join_an (⟨mkE 31 0 [(0, .ptr 0 0), (1, .dat (.int .i64) x1069), (2, .dat (.int .i64) x1070)], [some (.box [.slc 1, .slc 2, .dat (.int .i64) x1071, .dat (.int .i64) x1072]), some (.seq (.int .i64) x1073), some (.seq (.int .i64) x1074)]⟩ : St) (Ret (tlook tys) Try.f34.results.toList r H') :=
  ret_of (impl_stackMachine_join_n1_l x1069 x1070 x1071 x1072 x1073 x1074) (fun (t : (List Int) × (List Int)) => (t.1, t.2)) (by unfold impl_stackMachine_join; kernel_rfl) (by
  rintro t
  · exact ret_mk [] (by kernel_rfl) (by kernel_rfl) (by kernel_rfl) (by kernel_rfl)) h

def F_impl_stackMachine_join : Fun := fun avs H =>
  match avs, H with
  | [.ptr 0 0, .dat (.int .i64) x1069, .dat (.int .i64) x1070], [some (.box [.slc 1, .slc 2, .dat (.int .i64) x1071, .dat (.int .i64) x1072]), some (.seq (.int .i64) x1073), some (.seq (.int .i64) x1074)] => ⟨_, impl_stackMachine_join x1069 x1070 x1071 x1072 x1073 x1074, fun (t : (List Int) × (List Int)) => (.tup [], [some (.box [.slc 1, .slc 2, .dat (.int .i64) x1071, .dat (.int .i64) x1072]), some (.seq (.int .i64) t.1), some (.seq (.int .i64) t.2)]), [2], none⟩
  | _, _ => Ans.no

theorem impl_stackMachine_join_sound : Sound Try.prog 34 F_impl_stackMachine_join := by
  refine fn_sound' (C := impl_stackMachine_join_ctx) (c := bodyOf Try.f34) (cok_of tys_ok (by simp) (by simp) (by kernel_rfl)) Try.func34 (by kernel_rfl) LL impl_stackMachine_join_an ?_
  intro avs H r H' h
  unfold F_impl_stackMachine_join at h
  split at h
  · refine Awp.cast ?_ ?_ ?_ (impl_stackMachine_join_e _ _ _ _ _ _ h) <;> kernel_rfl
  · simp [Ans.no, Ans.run] at h

/-! (*loop.example/headtrees/impl.stackMachine).takeBelow -/

def impl_stackMachine_takeBelow_an : Ann := (.seq (.leaf [0]) (.seq (.leaf [0, 3, 4, 5]) (.seq (.seq (.leaf [0, 3, 4, 5, 12]) (.cond (.leaf [5]) (.leaf [5]))) (.seq (.leaf [2]) (.leaf [2])))))

noncomputable def impl_stackMachine_takeBelow_ctx : Ctx := ⟨tlook tys, olook [(33, F_impl_stackMachine_upperTwo), (34, F_impl_stackMachine_join)], ioF, 3, false, [2]⟩

theorem impl_stackMachine_takeBelow_n1_l (x1031 : Int) (x1032 : Int) (x1033 : List Int) (x1034 : List Int) : Link impl_stackMachine_takeBelow_ctx LL (bodyOf Try.f30) impl_stackMachine_takeBelow_an (⟨mkE 18 0 [(0, .ptr 0 0)], [some (.box [.slc 1, .slc 2, .dat (.int .i64) x1031, .dat (.int .i64) x1032]), some (.seq (.int .i64) x1033), some (.seq (.int .i64) x1034)]⟩ : St) (impl_stackMachine_takeBelow_n1 x1031 x1032 x1033 x1034) (fun (t : Bool × (List Int) × (List Int)) => (Exit.ret, (⟨mkE 18 0 [(2, .dat .bool t.1)], [some (.box [.slc 1, .slc 2, .dat (.int .i64) x1031, .dat (.int .i64) x1032]), some (.seq (.int .i64) t.2.1), some (.seq (.int .i64) t.2.2)]⟩ : St))) := by
  refine Link.of fun K h => ?_
  simp only [impl_stackMachine_takeBelow_n1, wpO_bind, wpO_cond, wpO_map, wpO_some] at h
  exact Awp.of (by kernel_rfl) h

theorem impl_stackMachine_takeBelow_e (x1031 : Int) (x1032 : Int) (x1033 : List Int) (x1034 : List Int) {r : AV} {H' : Heap} (h : (Ans.mk _ (impl_stackMachine_takeBelow x1031 x1032 x1033 x1034) (fun (t : Bool × (List Int) × (List Int)) => (.dat .bool t.1, [some (.box [.slc 1, .slc 2, .dat (.int .i64) x1031, .dat (.int .i64) x1032]), some (.seq (.int .i64) t.2.1), some (.seq (.int .i64) t.2.2)])) [2] none).run = some (r, H')) : Awp impl_stackMachine_takeBelow_ctx LL (bodyOf Try.f30) impl_stackMachine_takeBelow_an (⟨mkE 18 0 [(0, .ptr 0 0)], [some (.box [.slc 1, .slc 2, .dat (.int .i64) x1031, .dat (.int .i64) x1032]), some (.seq (.int .i64) x1033), some (.seq (.int .i64) x1034)]⟩ : St) (Ret (tlook tys) Try.f30.results.toList r H') :=
  ret_of' (impl_stackMachine_takeBelow_n1_l x1031 x1032 x1033 x1034) (by unfold impl_stackMachine_takeBelow; kernel_rfl) (by
  intro t
  exact ret_mk [.dat .bool t.1] (by kernel_rfl) (by kernel_rfl) (by kernel_rfl) (by kernel_rfl)) h

def F_impl_stackMachine_takeBelow : Fun := fun avs H =>
  match avs, H with
  | [.ptr 0 0], [some (.box [.slc 1, .slc 2, .dat (.int .i64) x1031, .dat (.int .i64) x1032]), some (.seq (.int .i64) x1033), some (.seq (.int .i64) x1034)] => ⟨_, impl_stackMachine_takeBelow x1031 x1032 x1033 x1034, fun (t : Bool × (List Int) × (List Int)) => (.dat .bool t.1, [some (.box [.slc 1, .slc 2, .dat (.int .i64) x1031, .dat (.int .i64) x1032]), some (.seq (.int .i64) t.2.1), some (.seq (.int .i64) t.2.2)]), [2], none⟩
  | _, _ => Ans.no

theorem impl_stackMachine_takeBelow_sound : Sound Try.prog 30 F_impl_stackMachine_takeBelow := by
  refine fn_sound' (C := impl_stackMachine_takeBelow_ctx) (c := bodyOf Try.f30) (cok_of tys_ok (List.forall_mem_cons.2 ⟨impl_stackMachine_upperTwo_sound, List.forall_mem_cons.2 ⟨impl_stackMachine_join_sound, by simp⟩⟩) (List.forall_mem_cons.2 ⟨Try.call33, List.forall_mem_cons.2 ⟨Try.call34, by simp⟩⟩) (by kernel_rfl)) Try.func30 (by kernel_rfl) LL impl_stackMachine_takeBelow_an ?_
  intro avs H r H' h
  unfold F_impl_stackMachine_takeBelow at h
  split at h
  · refine Awp.cast ?_ ?_ ?_ (impl_stackMachine_takeBelow_e _ _ _ _ h) <;> kernel_rfl
  · simp [Ans.no, Ans.run] at h

/-! (*loop.example/headtrees/impl.stackMachine).takeUpper -/

def impl_stackMachine_takeUpper_an : Ann := (.seq (.leaf [0]) (.seq (.leaf [0, 3, 4, 5]) (.seq (.seq (.leaf [0, 3, 4, 5, 12]) (.cond (.leaf [5]) (.leaf [5]))) (.seq (.leaf [2]) (.leaf [2])))))

noncomputable def impl_stackMachine_takeUpper_ctx : Ctx := ⟨tlook tys, olook [(33, F_impl_stackMachine_upperTwo), (34, F_impl_stackMachine_join)], ioF, 3, false, [2]⟩

theorem impl_stackMachine_takeUpper_n1_l (x1115 : Int) (x1116 : Int) (x1117 : List Int) (x1118 : List Int) : Link impl_stackMachine_takeUpper_ctx LL (bodyOf Try.f31) impl_stackMachine_takeUpper_an (⟨mkE 18 0 [(0, .ptr 0 0)], [some (.box [.slc 1, .slc 2, .dat (.int .i64) x1115, .dat (.int .i64) x1116]), some (.seq (.int .i64) x1117), some (.seq (.int .i64) x1118)]⟩ : St) (impl_stackMachine_takeUpper_n1 x1115 x1116 x1117 x1118) (fun (t : Bool × (List Int) × (List Int)) => (Exit.ret, (⟨mkE 18 0 [(2, .dat .bool t.1)], [some (.box [.slc 1, .slc 2, .dat (.int .i64) x1115, .dat (.int .i64) x1116]), some (.seq (.int .i64) t.2.1), some (.seq (.int .i64) t.2.2)]⟩ : St))) := by
  refine Link.of fun K h => ?_
  simp only [impl_stackMachine_takeUpper_n1, wpO_bind, wpO_cond, wpO_map, wpO_some] at h
  exact Awp.of (by kernel_rfl) h

theorem impl_stackMachine_takeUpper_e (x1115 : Int) (x1116 : Int) (x1117 : List Int) (x1118 : List Int) {r : AV} {H' : Heap} (h : (Ans.mk _ (impl_stackMachine_takeUpper x1115 x1116 x1117 x1118) (fun (t : Bool × (List Int) × (List Int)) => (.dat .bool t.1, [some (.box [.slc 1, .slc 2, .dat (.int .i64) x1115, .dat (.int .i64) x1116]), some (.seq (.int .i64) t.2.1), some (.seq (.int .i64) t.2.2)])) [2] none).run = some (r, H')) : Awp impl_stackMachine_takeUpper_ctx LL (bodyOf Try.f31) impl_stackMachine_takeUpper_an (⟨mkE 18 0 [(0, .ptr 0 0)], [some (.box [.slc 1, .slc 2, .dat (.int .i64) x1115, .dat (.int .i64) x1116]), some (.seq (.int .i64) x1117), some (.seq (.int .i64) x1118)]⟩ : St) (Ret (tlook tys) Try.f31.results.toList r H') :=
  ret_of' (impl_stackMachine_takeUpper_n1_l x1115 x1116 x1117 x1118) (by unfold impl_stackMachine_takeUpper; kernel_rfl) (by
  intro t
  exact ret_mk [.dat .bool t.1] (by kernel_rfl) (by kernel_rfl) (by kernel_rfl) (by kernel_rfl)) h

def F_impl_stackMachine_takeUpper : Fun := fun avs H =>
  match avs, H with
  | [.ptr 0 0], [some (.box [.slc 1, .slc 2, .dat (.int .i64) x1115, .dat (.int .i64) x1116]), some (.seq (.int .i64) x1117), some (.seq (.int .i64) x1118)] => ⟨_, impl_stackMachine_takeUpper x1115 x1116 x1117 x1118, fun (t : Bool × (List Int) × (List Int)) => (.dat .bool t.1, [some (.box [.slc 1, .slc 2, .dat (.int .i64) x1115, .dat (.int .i64) x1116]), some (.seq (.int .i64) t.2.1), some (.seq (.int .i64) t.2.2)]), [2], none⟩
  | _, _ => Ans.no

theorem impl_stackMachine_takeUpper_sound : Sound Try.prog 31 F_impl_stackMachine_takeUpper := by
  refine fn_sound' (C := impl_stackMachine_takeUpper_ctx) (c := bodyOf Try.f31) (cok_of tys_ok (List.forall_mem_cons.2 ⟨impl_stackMachine_upperTwo_sound, List.forall_mem_cons.2 ⟨impl_stackMachine_join_sound, by simp⟩⟩) (List.forall_mem_cons.2 ⟨Try.call33, List.forall_mem_cons.2 ⟨Try.call34, by simp⟩⟩) (by kernel_rfl)) Try.func31 (by kernel_rfl) LL impl_stackMachine_takeUpper_an ?_
  intro avs H r H' h
  unfold F_impl_stackMachine_takeUpper at h
  split at h
  · refine Awp.cast ?_ ?_ ?_ (impl_stackMachine_takeUpper_e _ _ _ _ h) <;> kernel_rfl
  · simp [Ans.no, Ans.run] at h

/-! (*loop.example/headtrees/impl.stackMachine).ended -/

def impl_stackMachine_ended_an : Ann := (.seq (.leaf [0]) (.seq (.draw [] [0, 1, 2, 3, 4, 5, 6, 7, 8, 9, 10, 11, 12, 13, 14, 15, 16, 17, 18] [] [2]) (.leaf [2])))

noncomputable def impl_stackMachine_ended_ctx : Ctx := ⟨tlook tys, olook [], ioF, 3, false, []⟩

theorem impl_stackMachine_ended_n1_l (x1296 : Int) (x1297 : Int) (x1298 : List Int) (x1299 : List Int) : Link impl_stackMachine_ended_ctx LL (bodyOf Try.f25) impl_stackMachine_ended_an (⟨mkE 21 0 [(0, .ptr 0 0)], [some (.box [.slc 1, .slc 2, .dat (.int .i64) x1296, .dat (.int .i64) x1297]), some (.seq (.int .i64) x1298), some (.seq (.int .i64) x1299)]⟩ : St) (impl_stackMachine_ended_n1 x1296 x1298 x1299) (fun (t : Bool) => (Exit.ret, (⟨mkE 21 0 [(2, .dat .bool t)], [some (.box [.slc 1, .slc 2, .dat (.int .i64) x1296, .dat (.int .i64) x1297]), some (.seq (.int .i64) x1298), some (.seq (.int .i64) x1299)]⟩ : St))) := by
  refine Link.of fun K h => ?_
  simp only [impl_stackMachine_ended_n1, wpO_bind, wpO_cond, wpO_map, wpO_some] at h
  exact Awp.of (by kernel_rfl) h

theorem impl_stackMachine_ended_e (x1296 : Int) (x1297 : Int) (x1298 : List Int) (x1299 : List Int) {r : AV} {H' : Heap} (h : (Ans.mk _ (impl_stackMachine_ended x1296 x1297 x1298 x1299) (fun (t : Bool) => (.dat .bool t, [some (.box [.slc 1, .slc 2, .dat (.int .i64) x1296, .dat (.int .i64) x1297]), some (.seq (.int .i64) x1298), some (.seq (.int .i64) x1299)])) [] none).run = some (r, H')) : Awp impl_stackMachine_ended_ctx LL (bodyOf Try.f25) impl_stackMachine_ended_an (⟨mkE 21 0 [(0, .ptr 0 0)], [some (.box [.slc 1, .slc 2, .dat (.int .i64) x1296, .dat (.int .i64) x1297]), some (.seq (.int .i64) x1298), some (.seq (.int .i64) x1299)]⟩ : St) (Ret (tlook tys) Try.f25.results.toList r H') :=
  ret_of' (impl_stackMachine_ended_n1_l x1296 x1297 x1298 x1299) (by unfold impl_stackMachine_ended; kernel_rfl) (by
  intro t
  exact ret_mk [.dat .bool t] (by kernel_rfl) (by kernel_rfl) (by kernel_rfl) (by kernel_rfl)) h

def F_impl_stackMachine_ended : Fun := fun avs H =>
  match avs, H with
  | [.ptr 0 0], [some (.box [.slc 1, .slc 2, .dat (.int .i64) x1296, .dat (.int .i64) x1297]), some (.seq (.int .i64) x1298), some (.seq (.int .i64) x1299)] => ⟨_, impl_stackMachine_ended x1296 x1297 x1298 x1299, fun (t : Bool) => (.dat .bool t, [some (.box [.slc 1, .slc 2, .dat (.int .i64) x1296, .dat (.int .i64) x1297]), some (.seq (.int .i64) x1298), some (.seq (.int .i64) x1299)]), [], none⟩
  | _, _ => Ans.no

theorem impl_stackMachine_ended_sound : Sound Try.prog 25 F_impl_stackMachine_ended := by
  refine fn_sound' (C := impl_stackMachine_ended_ctx) (c := bodyOf Try.f25) (cok_of tys_ok (by simp) (by simp) (by kernel_rfl)) Try.func25 (by kernel_rfl) LL impl_stackMachine_ended_an ?_
  intro avs H r H' h
  unfold F_impl_stackMachine_ended at h
  split at h
  · refine Awp.cast ?_ ?_ ?_ (impl_stackMachine_ended_e _ _ _ _ h) <;> kernel_rfl
  · simp [Ans.no, Ans.run] at h

/-! loop.example/headtrees/impl.afterMoves -/

def impl_afterMoves_an : Ann := (.seq (.leaf [0, 1]) (.seq (.seq (.leaf [0, 1, 16]) (.cond (.seq (.leaf [4, 5]) (.leaf [4, 5])) (.leaf [0, 1]))) (.seq (.leaf [1, 6, 7]) (.seq (.seq (.leafF [⟨3, 6, false, some 1, some (.int .i64)⟩] [1, 6, 7, 21, 22]) (.block (.loop (.seq (.leaf [1, 6, 7, 21, 22, 23]) (.seq (.cond (.leaf [1, 6, 7, 21, 22]) (.leaf [6])) (.seq (.block (.seq (.leaf [1, 6, 7, 8, 21, 22]) (.seq (.leaf [1, 6, 7, 9, 10, 21, 22]) (.seq (.leafF [⟨5, 6, false, some 1, some (.int .i64)⟩] [1, 6, 7, 21, 22, 40]) (.cond (.seq (.leaf [4, 5]) (.leaf [4, 5])) (.leaf [1, 6, 7, 21, 22])))))) (.leaf [1, 6, 7, 21, 22]))))))) (.seq (.seq (.leaf [6, 44]) (.cond (.seq (.leaf [4, 5]) (.leaf [4, 5])) (.leaf [6]))) (.seq (.leaf [4, 5]) (.leaf [4, 5])))))))

noncomputable def impl_afterMoves_ctx : Ctx := ⟨tlook tys, olook [(23, F_impl_newStackMachine), (24, F_impl_stackMoves), (29, F_impl_stackMachine_putNext), (30, F_impl_stackMachine_takeBelow), (31, F_impl_stackMachine_takeUpper), (25, F_impl_stackMachine_ended)], ioF, 0, false, []⟩

theorem impl_afterMoves_n1_l (x911 : Int) (x912 : ByteArray) : Link impl_afterMoves_ctx LL (Code.seq (Code.fst (bodyOf Try.f16)) (Code.seq (Code.fst (Code.snd (bodyOf Try.f16))) (Code.fst (Code.snd (Code.snd (bodyOf Try.f16)))))) (Ann.seq (Ann.fst impl_afterMoves_an) (Ann.seq (Ann.fst (Ann.snd impl_afterMoves_an)) (Ann.fst (Ann.snd (Ann.snd impl_afterMoves_an))))) (⟨mkE 46 0 [(0, .dat (.int .i64) x911), (1, .dat .str x912)], []⟩ : St) (impl_afterMoves_n1 x911) (Sum.elim (fun (t : (List Int)) => (Exit.normal, (⟨mkE 46 0 [(1, .dat .str x912), (6, .ptr 0 0), (7, .fmap [(.int .u8 83, 29), (.int .u8 76, 30), (.int .u8 82, 31)])], [some (.box [.slc 1, .nils, .dat (.int .i64) 0, .dat (.int .i64) 0]), some (.seq (.int .i64) t)]⟩ : St))) (fun (t : Unit) => (Exit.ret, (⟨mkE 46 0 [(4, .raw (.pointer none)), (5, .dat .bool false)], []⟩ : St)))) := by
  refine Link.of fun K h => ?_
  simp only [impl_afterMoves_n1, wpO_bind, wpO_cond, wpO_map, wpO_some] at h
  exact Awp.of (by kernel_rfl) h

theorem impl_afterMoves_n2_l (x912 : ByteArray) (x1319 : List Int) : Link impl_afterMoves_ctx LL (Code.fst (Code.fst (Code.snd (Code.snd (Code.snd (bodyOf Try.f16)))))) (Ann.fst (Ann.fst (Ann.snd (Ann.snd (Ann.snd impl_afterMoves_an))))) (⟨mkE 46 0 [(1, .dat .str x912), (6, .ptr 0 0), (7, .fmap [(.int .u8 83, 29), (.int .u8 76, 30), (.int .u8 82, 31)])], [some (.box [.slc 1, .nils, .dat (.int .i64) 0, .dat (.int .i64) 0]), some (.seq (.int .i64) x1319)]⟩ : St) (impl_afterMoves_n2 x912) (fun (t : Int) => (Exit.normal, (⟨mkE 46 0 [(1, .dat .str x912), (6, .ptr 0 0), (7, .fmap [(.int .u8 83, 29), (.int .u8 76, 30), (.int .u8 82, 31)]), (21, .dat (.int .i64) t), (22, .dat (.int .i64) 0)], [some (.box [.slc 1, .slc 2, .dat (.int .i64) 0, .dat (.int .i64) 0]), some (.seq (.int .i64) x1319), some (.seq (.int .i64) ([] : List Int))]⟩ : St))) := by
  refine Link.of fun K h => ?_
  simp only [impl_afterMoves_n2, wpO_bind, wpO_cond, wpO_map, wpO_some] at h
  exact Awp.of (by kernel_rfl) h

theorem impl_afterMoves_n3_l (x912 : ByteArray) (x1321 : Int) (x1374 : Int) (x1375 : Int) (x1376 : Int) (x1377 : List Int) (x1378 : List Int) : Link impl_afterMoves_ctx LL (Code.fst (Code.fst (Code.snd (Code.fst (Code.snd (Code.snd (Code.snd (bodyOf Try.f16)))))))) (Ann.fst (Ann.fst (Ann.snd (Ann.fst (Ann.snd (Ann.snd (Ann.snd impl_afterMoves_an))))))) (⟨mkE 46 0 [(1, .dat .str x912), (6, .ptr 0 0), (7, .fmap [(.int .u8 83, 29), (.int .u8 76, 30), (.int .u8 82, 31)]), (21, .dat (.int .i64) x1321), (22, .dat (.int .i64) x1374)], [some (.box [.slc 1, .slc 2, .dat (.int .i64) x1375, .dat (.int .i64) x1376]), some (.seq (.int .i64) x1377), some (.seq (.int .i64) x1378)]⟩ : St) (impl_afterMoves_n3 x912 x1321 x1374 x1375 x1376 x1377 x1378) (Sum.elim (fun (t : Int × Int × Int × (List Int) × (List Int)) => (Exit.normal, (⟨mkE 46 0 [(1, .dat .str x912), (6, .ptr 0 0), (7, .fmap [(.int .u8 83, 29), (.int .u8 76, 30), (.int .u8 82, 31)]), (21, .dat (.int .i64) x1321), (22, .dat (.int .i64) t.1)], [some (.box [.slc 1, .slc 2, .dat (.int .i64) t.2.1, .dat (.int .i64) t.2.2.1]), some (.seq (.int .i64) t.2.2.2.1), some (.seq (.int .i64) t.2.2.2.2)]⟩ : St))) (Sum.elim (fun (t : Unit) => (Exit.ret, (⟨mkE 46 0 [(4, .raw (.pointer none)), (5, .dat .bool false)], []⟩ : St))) (fun (t : Int × Int × (List Int) × (List Int)) => ((Exit.exit 0), (⟨mkE 46 0 [(6, .ptr 0 0)], [some (.box [.slc 1, .slc 2, .dat (.int .i64) t.1, .dat (.int .i64) t.2.1]), some (.seq (.int .i64) t.2.2.1), some (.seq (.int .i64) t.2.2.2)]⟩ : St))))) := by
  refine Link.of fun K h => ?_
  simp only [impl_afterMoves_n3, wpO_bind, wpO_cond, wpO_map, wpO_some] at h
  exact Awp.of (by kernel_rfl) h

theorem impl_afterMoves_n4_l (x912 : ByteArray) (x1321 : Int) (x1319 : List Int) : Link impl_afterMoves_ctx LL (Code.fst (Code.snd (Code.fst (Code.snd (Code.snd (Code.snd (bodyOf Try.f16))))))) (Ann.fst (Ann.snd (Ann.fst (Ann.snd (Ann.snd (Ann.snd impl_afterMoves_an)))))) (⟨mkE 46 0 [(1, .dat .str x912), (6, .ptr 0 0), (7, .fmap [(.int .u8 83, 29), (.int .u8 76, 30), (.int .u8 82, 31)]), (21, .dat (.int .i64) x1321), (22, .dat (.int .i64) 0)], [some (.box [.slc 1, .slc 2, .dat (.int .i64) 0, .dat (.int .i64) 0]), some (.seq (.int .i64) x1319), some (.seq (.int .i64) ([] : List Int))]⟩ : St) (impl_afterMoves_n4 x912 x1321 x1319) (Sum.elim (fun (t : Unit) => (Exit.ret, (⟨mkE 46 0 [(4, .raw (.pointer none)), (5, .dat .bool false)], []⟩ : St))) (fun (t : Int × Int × (List Int) × (List Int)) => ((Exit.exit 0), (⟨mkE 46 0 [(6, .ptr 0 0)], [some (.box [.slc 1, .slc 2, .dat (.int .i64) t.1, .dat (.int .i64) t.2.1]), some (.seq (.int .i64) t.2.2.1), some (.seq (.int .i64) t.2.2.2)]⟩ : St)))) := by
  unfold impl_afterMoves_n4
  exact Link.cast (by kernel_rfl) (by kernel_rfl) (link_loop (mk := fun (s : Int × Int × Int × (List Int) × (List Int)) => (⟨mkE 46 0 [(1, .dat .str x912), (6, .ptr 0 0), (7, .fmap [(.int .u8 83, 29), (.int .u8 76, 30), (.int .u8 82, 31)]), (21, .dat (.int .i64) x1321), (22, .dat (.int .i64) s.1)], [some (.box [.slc 1, .slc 2, .dat (.int .i64) s.2.1, .dat (.int .i64) s.2.2.1]), some (.seq (.int .i64) s.2.2.2.1), some (.seq (.int .i64) s.2.2.2.2)]⟩ : St)) (fin := (Sum.elim (fun (t : Unit) => (Exit.ret, (⟨mkE 46 0 [(4, .raw (.pointer none)), (5, .dat .bool false)], []⟩ : St))) (fun (t : Int × Int × (List Int) × (List Int)) => ((Exit.exit 0), (⟨mkE 46 0 [(6, .ptr 0 0)], [some (.box [.slc 1, .slc 2, .dat (.int .i64) t.1, .dat (.int .i64) t.2.1]), some (.seq (.int .i64) t.2.2.1), some (.seq (.int .i64) t.2.2.2)]⟩ : St))))) (by
  rintro (t | t) f K h
  · exact h
  · exact h) (fun s => link_map (impl_afterMoves_n3_l x912 x1321 s.1 s.2.1 s.2.2.1 s.2.2.2.1 s.2.2.2.2) (Sum.elim (fun (t : Int × Int × Int × (List Int) × (List Int)) => Sum.inl (t.1, t.2.1, t.2.2.1, t.2.2.2.1, t.2.2.2.2)) (Sum.elim (fun (t : Unit) => Sum.inr (Sum.inl t)) (fun (t : Int × Int × (List Int) × (List Int)) => Sum.inr (Sum.inr t)))) (by
  rintro (t | t | t)
  · kernel_rfl
  · kernel_rfl
  · kernel_rfl)) (0, 0, 0, x1319, ([] : List Int)))

theorem impl_afterMoves_n5_l (x912 : ByteArray) (x1321 : Int) (x1319 : List Int) : Link impl_afterMoves_ctx LL (Code.snd (Code.fst (Code.snd (Code.snd (Code.snd (bodyOf Try.f16)))))) (Ann.snd (Ann.fst (Ann.snd (Ann.snd (Ann.snd impl_afterMoves_an))))) (⟨mkE 46 0 [(1, .dat .str x912), (6, .ptr 0 0), (7, .fmap [(.int .u8 83, 29), (.int .u8 76, 30), (.int .u8 82, 31)]), (21, .dat (.int .i64) x1321), (22, .dat (.int .i64) 0)], [some (.box [.slc 1, .slc 2, .dat (.int .i64) 0, .dat (.int .i64) 0]), some (.seq (.int .i64) x1319), some (.seq (.int .i64) ([] : List Int))]⟩ : St) (impl_afterMoves_n5 x912 x1321 x1319) (Sum.elim (fun (t : Int × Int × (List Int) × (List Int)) => (Exit.normal, (⟨mkE 46 0 [(6, .ptr 0 0)], [some (.box [.slc 1, .slc 2, .dat (.int .i64) t.1, .dat (.int .i64) t.2.1]), some (.seq (.int .i64) t.2.2.1), some (.seq (.int .i64) t.2.2.2)]⟩ : St))) (fun (t : Unit) => (Exit.ret, (⟨mkE 46 0 [(4, .raw (.pointer none)), (5, .dat .bool false)], []⟩ : St)))) := by
  unfold impl_afterMoves_n5
  exact Link.cast (by kernel_rfl) (by kernel_rfl) (link_block (id := 0) (impl_afterMoves_n4_l x912 x1321 x1319) (Sum.elim (fun (t : Unit) => (Sum.inr t)) (fun (t : Int × Int × (List Int) × (List Int)) => (Sum.inl (t.1, t.2.1, t.2.2.1, t.2.2.2)))) (by
  rintro (t | t) K h
  · exact Eq.mp (by kernel_rfl) h
  · exact Eq.mp (by kernel_rfl) h))

theorem impl_afterMoves_n6_l (x912 : ByteArray) (x1319 : List Int) : Link impl_afterMoves_ctx LL (Code.fst (Code.snd (Code.snd (Code.snd (bodyOf Try.f16))))) (Ann.fst (Ann.snd (Ann.snd (Ann.snd impl_afterMoves_an)))) (⟨mkE 46 0 [(1, .dat .str x912), (6, .ptr 0 0), (7, .fmap [(.int .u8 83, 29), (.int .u8 76, 30), (.int .u8 82, 31)])], [some (.box [.slc 1, .nils, .dat (.int .i64) 0, .dat (.int .i64) 0]), some (.seq (.int .i64) x1319)]⟩ : St) (impl_afterMoves_n6 x912 x1319) (Sum.elim (fun (t : Int × Int × (List Int) × (List Int)) => (Exit.normal, (⟨mkE 46 0 [(6, .ptr 0 0)], [some (.box [.slc 1, .slc 2, .dat (.int .i64) t.1, .dat (.int .i64) t.2.1]), some (.seq (.int .i64) t.2.2.1), some (.seq (.int .i64) t.2.2.2)]⟩ : St))) (fun (t : Unit) => (Exit.ret, (⟨mkE 46 0 [(4, .raw (.pointer none)), (5, .dat .bool false)], []⟩ : St)))) := by
  unfold impl_afterMoves_n6
  exact Link.cast (by kernel_rfl) (by kernel_rfl) (link_seq (b := (Code.snd (Code.fst (Code.snd (Code.snd (Code.snd (bodyOf Try.f16))))))) (y := (Ann.snd (Ann.fst (Ann.snd (Ann.snd (Ann.snd impl_afterMoves_an)))))) (impl_afterMoves_n2_l x912 x1319) (fun (t : Int) => (impl_afterMoves_n5_l x912 t x1319)))

theorem impl_afterMoves_n7_l (x1375 : Int) (x1376 : Int) (x1377 : List Int) (x1378 : List Int) : Link impl_afterMoves_ctx LL (Code.snd (Code.snd (Code.snd (Code.snd (bodyOf Try.f16))))) (Ann.snd (Ann.snd (Ann.snd (Ann.snd impl_afterMoves_an)))) (⟨mkE 46 0 [(6, .ptr 0 0)], [some (.box [.slc 1, .slc 2, .dat (.int .i64) x1375, .dat (.int .i64) x1376]), some (.seq (.int .i64) x1377), some (.seq (.int .i64) x1378)]⟩ : St) (impl_afterMoves_n7 x1375 x1376 x1377 x1378) (Sum.elim (fun (t : Int × Int × (List Int) × (List Int)) => (Exit.ret, (⟨mkE 46 0 [(4, .ptr 0 0), (5, .dat .bool true)], [some (.box [.slc 1, .slc 2, .dat (.int .i64) t.1, .dat (.int .i64) t.2.1]), some (.seq (.int .i64) t.2.2.1), some (.seq (.int .i64) t.2.2.2)]⟩ : St))) (fun (t : Unit) => (Exit.ret, (⟨mkE 46 0 [(4, .raw (.pointer none)), (5, .dat .bool false)], []⟩ : St)))) := by
  refine Link.of fun K h => ?_
  simp only [impl_afterMoves_n7, wpO_bind, wpO_cond, wpO_map, wpO_some] at h
  exact Awp.of (by kernel_rfl) h

theorem impl_afterMoves_n8_l (x912 : ByteArray) (x1319 : List Int) : Link impl_afterMoves_ctx LL (Code.snd (Code.snd (Code.snd (bodyOf Try.f16)))) (Ann.snd (Ann.snd (Ann.snd impl_afterMoves_an))) (⟨mkE 46 0 [(1, .dat .str x912), (6, .ptr 0 0), (7, .fmap [(.int .u8 83, 29), (.int .u8 76, 30), (.int .u8 82, 31)])], [some (.box [.slc 1, .nils, .dat (.int .i64) 0, .dat (.int .i64) 0]), some (.seq (.int .i64) x1319)]⟩ : St) (impl_afterMoves_n8 x912 x1319) (Sum.elim (fun (t : Int × Int × (List Int) × (List Int)) => (Exit.ret, (⟨mkE 46 0 [(4, .ptr 0 0), (5, .dat .bool true)], [some (.box [.slc 1, .slc 2, .dat (.int .i64) t.1, .dat (.int .i64) t.2.1]), some (.seq (.int .i64) t.2.2.1), some (.seq (.int .i64) t.2.2.2)]⟩ : St))) (fun (t : Unit) => (Exit.ret, (⟨mkE 46 0 [(4, .raw (.pointer none)), (5, .dat .bool false)], []⟩ : St)))) := by
  unfold impl_afterMoves_n8
  exact Link.cast (by kernel_rfl) (by kernel_rfl) (link_seq2 (b := (Code.snd (Code.snd (Code.snd (Code.snd (bodyOf Try.f16)))))) (y := (Ann.snd (Ann.snd (Ann.snd (Ann.snd impl_afterMoves_an))))) (impl_afterMoves_n6_l x912 x1319) (fun (t : Int × Int × (List Int) × (List Int)) => (impl_afterMoves_n7_l t.1 t.2.1 t.2.2.1 t.2.2.2)) (fun (t : Unit) => (Sum.inr t)) (by
  rintro t
  · kernel_rfl) (by
  rintro t f K h
  · exact h))

theorem impl_afterMoves_n9_l (x911 : Int) (x912 : ByteArray) : Link impl_afterMoves_ctx LL (bodyOf Try.f16) impl_afterMoves_an (⟨mkE 46 0 [(0, .dat (.int .i64) x911), (1, .dat .str x912)], []⟩ : St) (impl_afterMoves_n9 x911 x912) (Sum.elim (fun (t : Int × Int × (List Int) × (List Int)) => (Exit.ret, (⟨mkE 46 0 [(4, .ptr 0 0), (5, .dat .bool true)], [some (.box [.slc 1, .slc 2, .dat (.int .i64) t.1, .dat (.int .i64) t.2.1]), some (.seq (.int .i64) t.2.2.1), some (.seq (.int .i64) t.2.2.2)]⟩ : St))) (fun (t : Unit) => (Exit.ret, (⟨mkE 46 0 [(4, .raw (.pointer none)), (5, .dat .bool false)], []⟩ : St)))) := by
  unfold impl_afterMoves_n9
  exact Link.cast (by kernel_rfl) (by kernel_rfl) (link_group (c := (Code.fst (Code.snd (Code.snd (bodyOf Try.f16))))) (a := (Ann.fst (Ann.snd (Ann.snd impl_afterMoves_an)))) [(Code.fst (bodyOf Try.f16)), (Code.fst (Code.snd (bodyOf Try.f16)))] [(Ann.fst impl_afterMoves_an), (Ann.fst (Ann.snd impl_afterMoves_an))] rfl (link_seq2 (b := (Code.snd (Code.snd (Code.snd (bodyOf Try.f16))))) (y := (Ann.snd (Ann.snd (Ann.snd impl_afterMoves_an)))) (impl_afterMoves_n1_l x911 x912) (fun (t : (List Int)) => (impl_afterMoves_n8_l x912 t)) (fun (t : Unit) => (Sum.inr t)) (by
  rintro t
  · kernel_rfl) (by
  rintro t f K h
  · exact h)))

theorem impl_afterMoves_e (x911 : Int) (x912 : ByteArray) {r : AV} {H' : Heap} (h : (Ans.mk _ (impl_afterMoves x911 x912) (fun (t : Bool × Int × Int × (List Int) × (List Int)) => (.tup [.ptr 0 0, .dat .bool true], [some (.box [.slc 1, .slc 2, .dat (.int .i64) t.2.1, .dat (.int .i64) t.2.2.1]), some (.seq (.int .i64) t.2.2.2.1), some (.seq (.int .i64) t.2.2.2.2)])) [] (some (fun (t : Bool × Int × Int × (List Int) × (List Int)) => t.1, fun (t : Bool × Int × Int × (List Int) × (List Int)) => (.tup [.raw (.pointer none), .dat .bool false], [])))).run = some (r, H')) : Awp impl_afterMoves_ctx LL (bodyOf Try.f16) impl_afterMoves_an (⟨mkE 46 0 [(0, .dat (.int .i64) x911), (1, .dat .str x912)], []⟩ : St) (Ret (tlook tys) Try.f16.results.toList r H') :=
  ret_of2 (impl_afterMoves_n9_l x911 x912) (Sum.elim (fun (t : Int × Int × (List Int) × (List Int)) => (true, t.1, t.2.1, t.2.2.1, t.2.2.2)) (fun (t : Unit) => (false, 0, 0, [], []))) (by unfold impl_afterMoves; kernel_rfl) (by
  rintro (t | t)
  · exact ret_mk [.ptr 0 0, .dat .bool true] (by kernel_rfl) (by kernel_rfl) (by kernel_rfl) (by kernel_rfl)
  · exact ret_mk [.raw (.pointer none), .dat .bool false] (by kernel_rfl) (by kernel_rfl) (by kernel_rfl) (by kernel_rfl)) h

def F_impl_afterMoves : Fun := fun avs H =>
  match avs, H with
  | [.dat (.int .i64) x911, .dat .str x912], [] => ⟨_, impl_afterMoves x911 x912, fun (t : Bool × Int × Int × (List Int) × (List Int)) => (.tup [.ptr 0 0, .dat .bool true], [some (.box [.slc 1, .slc 2, .dat (.int .i64) t.2.1, .dat (.int .i64) t.2.2.1]), some (.seq (.int .i64) t.2.2.2.1), some (.seq (.int .i64) t.2.2.2.2)]), [], (some (fun (t : Bool × Int × Int × (List Int) × (List Int)) => t.1, fun (t : Bool × Int × Int × (List Int) × (List Int)) => (.tup [.raw (.pointer none), .dat .bool false], [])))⟩
  | _, _ => Ans.no

theorem impl_afterMoves_sound : Sound Try.prog 16 F_impl_afterMoves := by
  refine fn_sound' (C := impl_afterMoves_ctx) (c := bodyOf Try.f16) (cok_of tys_ok (List.forall_mem_cons.2 ⟨impl_newStackMachine_sound, List.forall_mem_cons.2 ⟨impl_stackMoves_sound, List.forall_mem_cons.2 ⟨impl_stackMachine_putNext_sound, List.forall_mem_cons.2 ⟨impl_stackMachine_takeBelow_sound, List.forall_mem_cons.2 ⟨impl_stackMachine_takeUpper_sound, List.forall_mem_cons.2 ⟨impl_stackMachine_ended_sound, by simp⟩⟩⟩⟩⟩⟩) (List.forall_mem_cons.2 ⟨Try.call23, List.forall_mem_cons.2 ⟨Try.call24, List.forall_mem_cons.2 ⟨Try.call29, List.forall_mem_cons.2 ⟨Try.call30, List.forall_mem_cons.2 ⟨Try.call31, List.forall_mem_cons.2 ⟨Try.call25, by simp⟩⟩⟩⟩⟩⟩) (by kernel_rfl)) Try.func16 (by kernel_rfl) LL impl_afterMoves_an ?_
  intro avs H r H' h
  unfold F_impl_afterMoves at h
  split at h
  · refine Awp.cast ?_ ?_ ?_ (impl_afterMoves_e _ _ h) <;> kernel_rfl
  · simp [Ans.no, Ans.run] at h

/-! loop.example/headtrees/impl.DeepestStack -/

def impl_DeepestStack_an : Ann := (.seq (.leaf [0, 1]) (.seq (.leaf [5, 6]) (.seq (.seq (.leaf [5, 14]) (.cond (.seq (.leaf [4]) (.leaf [4])) (.leaf [5]))) (.seq (.leaf [4]) (.leaf [4])))))

noncomputable def impl_DeepestStack_ctx : Ctx := ⟨tlook tys, olook [(16, F_impl_afterMoves)], ioF, 0, false, []⟩

theorem impl_DeepestStack_n1_l (x909 : Int) (x910 : ByteArray) : Link impl_DeepestStack_ctx LL (bodyOf Try.f7) impl_DeepestStack_an (⟨mkE 19 0 [(0, .dat (.int .i64) x909), (1, .dat .str x910)], []⟩ : St) (impl_DeepestStack_n1 x909 x910) (fun (t : Int) => (Exit.ret, (⟨mkE 19 0 [(4, .dat (.int .i64) t)], []⟩ : St))) := by
  refine Link.of fun K h => ?_
  simp only [impl_DeepestStack_n1, wpO_bind, wpO_cond, wpO_map, wpO_some] at h
  exact Awp.of (by kernel_rfl) h

theorem impl_DeepestStack_e (x909 : Int) (x910 : ByteArray) {r : AV} {H' : Heap} (h : (Ans.mk _ (impl_DeepestStack x909 x910) (fun (t : Int) => (.dat (.int .i64) t, [])) [] none).run = some (r, H')) : Awp impl_DeepestStack_ctx LL (bodyOf Try.f7) impl_DeepestStack_an (⟨mkE 19 0 [(0, .dat (.int .i64) x909), (1, .dat .str x910)], []⟩ : St) (Ret (tlook tys) Try.f7.results.toList r H') :=
  ret_of' (impl_DeepestStack_n1_l x909 x910) (by unfold impl_DeepestStack; kernel_rfl) (by
  intro t
  exact ret_mk [.dat (.int .i64) t] (by kernel_rfl) (by kernel_rfl) (by kernel_rfl) (by kernel_rfl)) h

def F_impl_DeepestStack : Fun := fun avs H =>
  match avs, H with
  | [.dat (.int .i64) x909, .dat .str x910], [] => ⟨_, impl_DeepestStack x909 x910, fun (t : Int) => (.dat (.int .i64) t, []), [], none⟩
  | _, _ => Ans.no

theorem impl_DeepestStack_sound : Sound Try.prog 7 F_impl_DeepestStack := by
  refine fn_sound' (C := impl_DeepestStack_ctx) (c := bodyOf Try.f7) (cok_of tys_ok (List.forall_mem_cons.2 ⟨impl_afterMoves_sound, by simp⟩) (List.forall_mem_cons.2 ⟨Try.call16, by simp⟩) (by kernel_rfl)) Try.func7 (by kernel_rfl) LL impl_DeepestStack_an ?_
  intro avs H r H' h
  unfold F_impl_DeepestStack at h
  split at h
  · refine Awp.cast ?_ ?_ ?_ (impl_DeepestStack_e _ _ h) <;> kernel_rfl
  · simp [Ans.no, Ans.run] at h

/-! loop.example/headtrees/spec.l1In -/

def spec_l1In_an : Ann := (.seq (.leaf [0, 1, 2]) (.seq (.leaf [6]) (.leaf [6])))

noncomputable def spec_l1In_ctx : Ctx := ⟨tlook tys, olook [], ioF, 0, false, []⟩

theorem spec_l1In_n1_l (x1475 : Int) (x1476 : Int) (x1477 : Int) : Link spec_l1In_ctx LL (bodyOf Try.f18) spec_l1In_an (⟨mkE 15 0 [(0, .dat (.int .i64) x1475), (1, .dat (.int .i64) x1476), (2, .dat (.int .i64) x1477)], []⟩ : St) (spec_l1In_n1 x1475 x1476 x1477) (fun (t : Bool) => (Exit.ret, (⟨mkE 15 0 [(6, .dat .bool t)], []⟩ : St))) := by
  refine Link.of fun K h => ?_
  simp only [spec_l1In_n1, wpO_bind, wpO_cond, wpO_map, wpO_some] at h
  exact Awp.of (by kernel_rfl) h

theorem spec_l1In_e (x1475 : Int) (x1476 : Int) (x1477 : Int) {r : AV} {H' : Heap} (h : (Ans.mk _ (spec_l1In x1475 x1476 x1477) (fun (t : Bool) => (.dat .bool t, [])) [] none).run = some (r, H')) : Awp spec_l1In_ctx LL (bodyOf Try.f18) spec_l1In_an (⟨mkE 15 0 [(0, .dat (.int .i64) x1475), (1, .dat (.int .i64) x1476), (2, .dat (.int .i64) x1477)], []⟩ : St) (Ret (tlook tys) Try.f18.results.toList r H') :=
  ret_of' (spec_l1In_n1_l x1475 x1476 x1477) (by unfold spec_l1In; kernel_rfl) (by
  intro t
  exact ret_mk [.dat .bool t] (by kernel_rfl) (by kernel_rfl) (by kernel_rfl) (by kernel_rfl)) h

def F_spec_l1In : Fun := fun avs H =>
  match avs, H with
  | [.dat (.int .i64) x1475, .dat (.int .i64) x1476, .dat (.int .i64) x1477], [] => ⟨_, spec_l1In x1475 x1476 x1477, fun (t : Bool) => (.dat .bool t, []), [], none⟩
  | _, _ => Ans.no

theorem spec_l1In_sound : Sound Try.prog 18 F_spec_l1In := by
  refine fn_sound' (C := spec_l1In_ctx) (c := bodyOf Try.f18) (cok_of tys_ok (by simp) (by simp) (by kernel_rfl)) Try.func18 (by kernel_rfl) LL spec_l1In_an ?_
  intro avs H r H' h
  unfold F_spec_l1In at h
  split at h
  · refine Awp.cast ?_ ?_ ?_ (spec_l1In_e _ _ _ h) <;> kernel_rfl
  · simp [Ans.no, Ans.run] at h

/-! loop.example/headtrees/spec.l6Run -/

def spec_l6Run_an : Ann := (.seq (.leaf [0, 1]) (.seq (.leaf [0, 1, 6]) (.seq (.leaf [0, 1, 6, 7]) (.seq (.leaf [0, 1, 6, 7, 8]) (.seq (.seq (.leaf [0, 1, 6, 7, 8, 9]) (.block (.loop (.seq (.seq (.leaf [0, 1, 6, 7, 8, 9, 17]) (.cond (.leaf [0, 1, 6, 7, 8, 9]) (.leaf [0, 6, 7, 8]))) (.seq (.block (.seq (.leaf [0, 1, 6, 7, 8, 9, 10]) (.block (.seq (.leaf [0, 1, 6, 7, 8, 9, 10, 24]) (.cond (.seq (.leaf [0, 1, 6, 7, 8, 9]) (.leaf [0, 1, 6, 7, 8, 9])) (.seq (.leaf [0, 1, 6, 7, 8, 9, 10, 40]) (.cond (.seq (.draw [] [0, 1, 2, 3, 4, 5, 6, 7, 8, 9, 10, 11, 12] [] [0, 1, 6, 7, 8, 9, 10]) (.draw [5, 0, 10] [0, 1, 2, 3, 4, 6, 7, 8, 9, 10, 5, 11, 12] [] [0, 1, 6, 7, 8, 9])) (.seq (.leaf [0, 1, 6, 7, 8, 9, 10, 73]) (.cond (.seq (.draw [] [0, 1, 2, 3, 4, 5, 6, 7, 8, 9, 10, 11, 12] [] [0, 1, 6, 7, 8, 9, 10]) (.leaf [0, 1, 6, 7, 8, 9])) (.seq (.leaf [4, 5]) (.leaf [4, 5]))))))))))) (.leaf [0, 1, 6, 7, 8, 9])))))) (.seq (.leaf [4, 5]) (.leaf [4, 5])))))))

noncomputable def spec_l6Run_ctx : Ctx := ⟨tlook tys, olook [], ioF, 0, false, []⟩

theorem spec_l6Run_n1_l (x1487 : Int) (x1488 : ByteArray) : Link spec_l6Run_ctx LL (Code.seq (Code.fst (bodyOf Try.f19)) (Code.seq (Code.fst (Code.snd (bodyOf Try.f19))) (Code.seq (Code.fst (Code.snd (Code.snd (bodyOf Try.f19)))) (Code.fst (Code.snd (Code.snd (Code.snd (bodyOf Try.f19)))))))) (Ann.seq (Ann.fst spec_l6Run_an) (Ann.seq (Ann.fst (Ann.snd spec_l6Run_an)) (Ann.seq (Ann.fst (Ann.snd (Ann.snd spec_l6Run_an))) (Ann.fst (Ann.snd (Ann.snd (Ann.snd spec_l6Run_an))))))) (⟨mkE 108 0 [(0, .dat (.int .i64) x1487), (1, .dat .str x1488)], []⟩ : St) (spec_l6Run_n1 x1487) (fun (t : (List Int)) => (Exit.normal, (⟨mkE 108 0 [(0, .dat (.int .i64) x1487), (1, .dat .str x1488), (6, .slc 0), (7, .slc 1), (8, .dat (.int .i64) 1)], [some (.seq (.int .i64) t), some (.seq (.int .i64) ([] : List Int))]⟩ : St))) := by
  refine Link.of fun K h => ?_
  simp only [spec_l6Run_n1, wpO_bind, wpO_cond, wpO_map, wpO_some] at h
  exact Awp.of (by kernel_rfl) h

theorem spec_l6Run_n2_l (x1487 : Int) (x1488 : ByteArray) (x1562 : List Int) : Link spec_l6Run_ctx LL (Code.fst (Code.fst (Code.snd (Code.snd (Code.snd (Code.snd (bodyOf Try.f19))))))) (Ann.fst (Ann.fst (Ann.snd (Ann.snd (Ann.snd (Ann.snd spec_l6Run_an)))))) (⟨mkE 108 0 [(0, .dat (.int .i64) x1487), (1, .dat .str x1488), (6, .slc 0), (7, .slc 1), (8, .dat (.int .i64) 1)], [some (.seq (.int .i64) x1562), some (.seq (.int .i64) ([] : List Int))]⟩ : St) (spec_l6Run_n2) (fun (t : Unit) => (Exit.normal, (⟨mkE 108 0 [(0, .dat (.int .i64) x1487), (1, .dat .str x1488), (6, .slc 0), (7, .slc 1), (8, .dat (.int .i64) 1), (9, .dat (.int .i64) 0)], [some (.seq (.int .i64) x1562), some (.seq (.int .i64) ([] : List Int))]⟩ : St))) := by
  refine Link.of fun K h => ?_
  simp only [spec_l6Run_n2, wpO_bind, wpO_cond, wpO_map, wpO_some] at h
  exact Awp.of (by kernel_rfl) h

theorem spec_l6Run_n3_l (x1487 : Int) (x1488 : ByteArray) (x2278 : Int) (x2279 : Int) (x2280 : List Int) (x2281 : List Int) : Link spec_l6Run_ctx LL (Code.fst (Code.fst (Code.fst (Code.snd (Code.fst (Code.snd (Code.snd (Code.snd (Code.snd (bodyOf Try.f19)))))))))) (Ann.fst (Ann.fst (Ann.fst (Ann.snd (Ann.fst (Ann.snd (Ann.snd (Ann.snd (Ann.snd spec_l6Run_an))))))))) (⟨mkE 108 0 [(0, .dat (.int .i64) x1487), (1, .dat .str x1488), (6, .slc 0), (7, .slc 1), (8, .dat (.int .i64) x2278), (9, .dat (.int .i64) x2279)], [some (.seq (.int .i64) x2280), some (.seq (.int .i64) x2281)]⟩ : St) (spec_l6Run_n3 x1488 x2278 x2279 x2280 x2281) (Sum.elim (fun (t : Unit) => (Exit.normal, (⟨mkE 108 0 [(0, .dat (.int .i64) x1487), (1, .dat .str x1488), (6, .slc 0), (7, .slc 1), (8, .dat (.int .i64) x2278), (9, .dat (.int .i64) x2279)], [some (.seq (.int .i64) x2280), some (.seq (.int .i64) x2281)]⟩ : St))) (fun (t : Int × (List Int) × (List Int)) => ((Exit.exit 0), (⟨mkE 108 0 [(0, .dat (.int .i64) x1487), (6, .slc 0), (7, .slc 1), (8, .dat (.int .i64) t.1)], [some (.seq (.int .i64) t.2.1), some (.seq (.int .i64) t.2.2)]⟩ : St)))) := by
  refine Link.of fun K h => ?_
  simp only [spec_l6Run_n3, wpO_bind, wpO_cond, wpO_map, wpO_some] at h
  exact Awp.of (by kernel_rfl) h

theorem spec_l6Run_n4_l (x1487 : Int) (x1488 : ByteArray) (x2278 : Int) (x2279 : Int) (x2280 : List Int) (x2281 : List Int) : Link spec_l6Run_ctx LL (Code.fst (Code.fst (Code.fst (Code.snd (Code.fst (Code.fst (Code.snd (Code.fst (Code.snd (Code.snd (Code.snd (Code.snd (bodyOf Try.f19))))))))))))) (Ann.fst (Ann.fst (Ann.fst (Ann.snd (Ann.fst (Ann.fst (Ann.snd (Ann.fst (Ann.snd (Ann.snd (Ann.snd (Ann.snd spec_l6Run_an)))))))))))) (⟨mkE 108 0 [(0, .dat (.int .i64) x1487), (1, .dat .str x1488), (6, .slc 0), (7, .slc 1), (8, .dat (.int .i64) x2278), (9, .dat (.int .i64) x2279)], [some (.seq (.int .i64) x2280), some (.seq (.int .i64) x2281)]⟩ : St) (spec_l6Run_n4 x2281) (fun (t : Int) => (Exit.normal, (⟨mkE 108 0 [(0, .dat (.int .i64) x1487), (1, .dat .str x1488), (6, .slc 0), (7, .slc 1), (8, .dat (.int .i64) x2278), (9, .dat (.int .i64) x2279), (10, .dat (.int .i64) t)], [some (.seq (.int .i64) x2280), some (.seq (.int .i64) x2281)]⟩ : St))) := by
  refine Link.of fun K h => ?_
  simp only [spec_l6Run_n4, wpO_bind, wpO_cond, wpO_map, wpO_some] at h
  exact Awp.of (by kernel_rfl) h

theorem spec_l6Run_n5_l (x1487 : Int) (x1488 : ByteArray) (x2278 : Int) (x2279 : Int) (x2543 : Int) (x2280 : List Int) (x2281 : List Int) : Link spec_l6Run_ctx LL (Code.fst (Code.fst (Code.snd (Code.fst (Code.fst (Code.snd (Code.fst (Code.fst (Code.snd (Code.fst (Code.snd (Code.snd (Code.snd (Code.snd (bodyOf Try.f19))))))))))))))) (Ann.fst (Ann.fst (Ann.snd (Ann.fst (Ann.fst (Ann.snd (Ann.fst (Ann.fst (Ann.snd (Ann.fst (Ann.snd (Ann.snd (Ann.snd (Ann.snd spec_l6Run_an)))))))))))))) (⟨mkE 108 0 [(0, .dat (.int .i64) x1487), (1, .dat .str x1488), (6, .slc 0), (7, .slc 1), (8, .dat (.int .i64) x2278), (9, .dat (.int .i64) x2279), (10, .dat (.int .i64) x2543)], [some (.seq (.int .i64) x2280), some (.seq (.int .i64) x2281)]⟩ : St) (spec_l6Run_n5 x1487 x1488 x2278 x2279) (fun (t : Bool) => (Exit.normal, (⟨mkE 108 0 [(0, .dat (.int .i64) x1487), (1, .dat .str x1488), (6, .slc 0), (7, .slc 1), (8, .dat (.int .i64) x2278), (9, .dat (.int .i64) x2279), (10, .dat (.int .i64) x2543), (24, .dat .bool t)], [some (.seq (.int .i64) x2280), some (.seq (.int .i64) x2281)]⟩ : St))) := by
  refine Link.of fun K h => ?_
  simp only [spec_l6Run_n5, wpO_bind, wpO_cond, wpO_map, wpO_some] at h
  exact Awp.of (by kernel_rfl) h

theorem spec_l6Run_n6_l (x1487 : Int) (x1488 : ByteArray) (x2278 : Int) (x2279 : Int) (x2543 : Int) (x2927 : Bool) (x2280 : List Int) (x2281 : List Int) : Link spec_l6Run_ctx LL (Code.snd (Code.fst (Code.snd (Code.fst (Code.fst (Code.snd (Code.fst (Code.fst (Code.snd (Code.fst (Code.snd (Code.snd (Code.snd (Code.snd (bodyOf Try.f19))))))))))))))) (Ann.snd (Ann.fst (Ann.snd (Ann.fst (Ann.fst (Ann.snd (Ann.fst (Ann.fst (Ann.snd (Ann.fst (Ann.snd (Ann.snd (Ann.snd (Ann.snd spec_l6Run_an)))))))))))))) (⟨mkE 108 0 [(0, .dat (.int .i64) x1487), (1, .dat .str x1488), (6, .slc 0), (7, .slc 1), (8, .dat (.int .i64) x2278), (9, .dat (.int .i64) x2279), (10, .dat (.int .i64) x2543), (24, .dat .bool x2927)], [some (.seq (.int .i64) x2280), some (.seq (.int .i64) x2281)]⟩ : St) (spec_l6Run_n6 x1488 x2278 x2279 x2543 x2927 x2280 x2281) (Sum.elim (fun (t : Int × (List Int) × (List Int)) => (Exit.normal, (⟨mkE 108 0 [(0, .dat (.int .i64) x1487), (1, .dat .str x1488), (6, .slc 0), (7, .slc 1), (8, .dat (.int .i64) t.1), (9, .dat (.int .i64) x2279)], [some (.seq (.int .i64) t.2.1), some (.seq (.int .i64) t.2.2)]⟩ : St))) (fun (t : Bool × (List Int)) => (Exit.ret, (⟨mkE 108 0 [(4, .slc 0), (5, .dat .bool t.1)], [some (.seq (.int .i64) t.2)]⟩ : St)))) := by
  refine Link.of fun K h => ?_
  simp only [spec_l6Run_n6, wpO_bind, wpO_cond, wpO_map, wpO_some] at h
  exact Awp.of (by kernel_rfl) h

theorem spec_l6Run_n7_l (x1487 : Int) (x1488 : ByteArray) (x2278 : Int) (x2279 : Int) (x2543 : Int) (x2280 : List Int) (x2281 : List Int) : Link spec_l6Run_ctx LL (Code.fst (Code.snd (Code.fst (Code.fst (Code.snd (Code.fst (Code.fst (Code.snd (Code.fst (Code.snd (Code.snd (Code.snd (Code.snd (bodyOf Try.f19)))))))))))))) (Ann.fst (Ann.snd (Ann.fst (Ann.fst (Ann.snd (Ann.fst (Ann.fst (Ann.snd (Ann.fst (Ann.snd (Ann.snd (Ann.snd (Ann.snd spec_l6Run_an))))))))))))) (⟨mkE 108 0 [(0, .dat (.int .i64) x1487), (1, .dat .str x1488), (6, .slc 0), (7, .slc 1), (8, .dat (.int .i64) x2278), (9, .dat (.int .i64) x2279), (10, .dat (.int .i64) x2543)], [some (.seq (.int .i64) x2280), some (.seq (.int .i64) x2281)]⟩ : St) (spec_l6Run_n7 x1487 x1488 x2278 x2279 x2543 x2280 x2281) (Sum.elim (fun (t : Int × (List Int) × (List Int)) => (Exit.normal, (⟨mkE 108 0 [(0, .dat (.int .i64) x1487), (1, .dat .str x1488), (6, .slc 0), (7, .slc 1), (8, .dat (.int .i64) t.1), (9, .dat (.int .i64) x2279)], [some (.seq (.int .i64) t.2.1), some (.seq (.int .i64) t.2.2)]⟩ : St))) (fun (t : Bool × (List Int)) => (Exit.ret, (⟨mkE 108 0 [(4, .slc 0), (5, .dat .bool t.1)], [some (.seq (.int .i64) t.2)]⟩ : St)))) := by
  unfold spec_l6Run_n7
  exact Link.cast (by kernel_rfl) (by kernel_rfl) (link_seq (b := (Code.snd (Code.fst (Code.snd (Code.fst (Code.fst (Code.snd (Code.fst (Code.fst (Code.snd (Code.fst (Code.snd (Code.snd (Code.snd (Code.snd (bodyOf Try.f19)))))))))))))))) (y := (Ann.snd (Ann.fst (Ann.snd (Ann.fst (Ann.fst (Ann.snd (Ann.fst (Ann.fst (Ann.snd (Ann.fst (Ann.snd (Ann.snd (Ann.snd (Ann.snd spec_l6Run_an))))))))))))))) (spec_l6Run_n5_l x1487 x1488 x2278 x2279 x2543 x2280 x2281) (fun (t : Bool) => (spec_l6Run_n6_l x1487 x1488 x2278 x2279 x2543 t x2280 x2281)))

theorem spec_l6Run_n8_l (x1487 : Int) (x1488 : ByteArray) (x2278 : Int) (x2279 : Int) (x2543 : Int) (x2280 : List Int) (x2281 : List Int) : Link spec_l6Run_ctx LL (Code.snd (Code.fst (Code.fst (Code.snd (Code.fst (Code.fst (Code.snd (Code.fst (Code.snd (Code.snd (Code.snd (Code.snd (bodyOf Try.f19))))))))))))) (Ann.snd (Ann.fst (Ann.fst (Ann.snd (Ann.fst (Ann.fst (Ann.snd (Ann.fst (Ann.snd (Ann.snd (Ann.snd (Ann.snd spec_l6Run_an)))))))))))) (⟨mkE 108 0 [(0, .dat (.int .i64) x1487), (1, .dat .str x1488), (6, .slc 0), (7, .slc 1), (8, .dat (.int .i64) x2278), (9, .dat (.int .i64) x2279), (10, .dat (.int .i64) x2543)], [some (.seq (.int .i64) x2280), some (.seq (.int .i64) x2281)]⟩ : St) (spec_l6Run_n8 x1487 x1488 x2278 x2279 x2543 x2280 x2281) (Sum.elim (fun (t : Int × (List Int) × (List Int)) => (Exit.normal, (⟨mkE 108 0 [(0, .dat (.int .i64) x1487), (1, .dat .str x1488), (6, .slc 0), (7, .slc 1), (8, .dat (.int .i64) t.1), (9, .dat (.int .i64) x2279)], [some (.seq (.int .i64) t.2.1), some (.seq (.int .i64) t.2.2)]⟩ : St))) (fun (t : Bool × (List Int)) => (Exit.ret, (⟨mkE 108 0 [(4, .slc 0), (5, .dat .bool t.1)], [some (.seq (.int .i64) t.2)]⟩ : St)))) := by
  unfold spec_l6Run_n8
  exact Link.cast (by kernel_rfl) (by kernel_rfl) (link_block (id := 2) (spec_l6Run_n7_l x1487 x1488 x2278 x2279 x2543 x2280 x2281) (Sum.elim (fun (t : Int × (List Int) × (List Int)) => (Sum.inl (t.1, t.2.1, t.2.2))) (fun (t : Bool × (List Int)) => (Sum.inr t))) (by
  rintro (t | t) K h
  · exact Eq.mp (by kernel_rfl) h
  · exact Eq.mp (by kernel_rfl) h))

theorem spec_l6Run_n9_l (x1487 : Int) (x1488 : ByteArray) (x2278 : Int) (x2279 : Int) (x2280 : List Int) (x2281 : List Int) : Link spec_l6Run_ctx LL (Code.fst (Code.fst (Code.snd (Code.fst (Code.fst (Code.snd (Code.fst (Code.snd (Code.snd (Code.snd (Code.snd (bodyOf Try.f19)))))))))))) (Ann.fst (Ann.fst (Ann.snd (Ann.fst (Ann.fst (Ann.snd (Ann.fst (Ann.snd (Ann.snd (Ann.snd (Ann.snd spec_l6Run_an))))))))))) (⟨mkE 108 0 [(0, .dat (.int .i64) x1487), (1, .dat .str x1488), (6, .slc 0), (7, .slc 1), (8, .dat (.int .i64) x2278), (9, .dat (.int .i64) x2279)], [some (.seq (.int .i64) x2280), some (.seq (.int .i64) x2281)]⟩ : St) (spec_l6Run_n9 x1487 x1488 x2278 x2279 x2280 x2281) (Sum.elim (fun (t : Int × (List Int) × (List Int)) => (Exit.normal, (⟨mkE 108 0 [(0, .dat (.int .i64) x1487), (1, .dat .str x1488), (6, .slc 0), (7, .slc 1), (8, .dat (.int .i64) t.1), (9, .dat (.int .i64) x2279)], [some (.seq (.int .i64) t.2.1), some (.seq (.int .i64) t.2.2)]⟩ : St))) (fun (t : Bool × (List Int)) => (Exit.ret, (⟨mkE 108 0 [(4, .slc 0), (5, .dat .bool t.1)], [some (.seq (.int .i64) t.2)]⟩ : St)))) := by
  unfold spec_l6Run_n9
  exact Link.cast (by kernel_rfl) (by kernel_rfl) (link_seq (b := (Code.snd (Code.fst (Code.fst (Code.snd (Code.fst (Code.fst (Code.snd (Code.fst (Code.snd (Code.snd (Code.snd (Code.snd (bodyOf Try.f19)))))))))))))) (y := (Ann.snd (Ann.fst (Ann.fst (Ann.snd (Ann.fst (Ann.fst (Ann.snd (Ann.fst (Ann.snd (Ann.snd (Ann.snd (Ann.snd spec_l6Run_an))))))))))))) (spec_l6Run_n4_l x1487 x1488 x2278 x2279 x2280 x2281) (fun (t : Int) => (spec_l6Run_n8_l x1487 x1488 x2278 x2279 t x2280 x2281)))

theorem spec_l6Run_n10_l (x1487 : Int) (x1488 : ByteArray) (x2278 : Int) (x2279 : Int) (x2280 : List Int) (x2281 : List Int) : Link spec_l6Run_ctx LL (Code.fst (Code.snd (Code.fst (Code.fst (Code.snd (Code.fst (Code.snd (Code.snd (Code.snd (Code.snd (bodyOf Try.f19))))))))))) (Ann.fst (Ann.snd (Ann.fst (Ann.fst (Ann.snd (Ann.fst (Ann.snd (Ann.snd (Ann.snd (Ann.snd spec_l6Run_an)))))))))) (⟨mkE 108 0 [(0, .dat (.int .i64) x1487), (1, .dat .str x1488), (6, .slc 0), (7, .slc 1), (8, .dat (.int .i64) x2278), (9, .dat (.int .i64) x2279)], [some (.seq (.int .i64) x2280), some (.seq (.int .i64) x2281)]⟩ : St) (spec_l6Run_n10 x1487 x1488 x2278 x2279 x2280 x2281) (Sum.elim (fun (t : Int × (List Int) × (List Int)) => (Exit.normal, (⟨mkE 108 0 [(0, .dat (.int .i64) x1487), (1, .dat .str x1488), (6, .slc 0), (7, .slc 1), (8, .dat (.int .i64) t.1), (9, .dat (.int .i64) x2279)], [some (.seq (.int .i64) t.2.1), some (.seq (.int .i64) t.2.2)]⟩ : St))) (fun (t : Bool × (List Int)) => (Exit.ret, (⟨mkE 108 0 [(4, .slc 0), (5, .dat .bool t.1)], [some (.seq (.int .i64) t.2)]⟩ : St)))) := by
  unfold spec_l6Run_n10
  exact Link.cast (by kernel_rfl) (by kernel_rfl) (link_block (id := 1) (spec_l6Run_n9_l x1487 x1488 x2278 x2279 x2280 x2281) (Sum.elim (fun (t : Int × (List Int) × (List Int)) => (Sum.inl (t.1, t.2.1, t.2.2))) (fun (t : Bool × (List Int)) => (Sum.inr t))) (by
  rintro (t | t) K h
  · exact Eq.mp (by kernel_rfl) h
  · exact Eq.mp (by kernel_rfl) h))

theorem spec_l6Run_n11_l (x1487 : Int) (x1488 : ByteArray) (x2992 : Int) (x2279 : Int) (x2993 : List Int) (x2994 : List Int) : Link spec_l6Run_ctx LL (Code.snd (Code.snd (Code.fst (Code.fst (Code.snd (Code.fst (Code.snd (Code.snd (Code.snd (Code.snd (bodyOf Try.f19))))))))))) (Ann.snd (Ann.snd (Ann.fst (Ann.fst (Ann.snd (Ann.fst (Ann.snd (Ann.snd (Ann.snd (Ann.snd spec_l6Run_an)))))))))) (⟨mkE 108 0 [(0, .dat (.int .i64) x1487), (1, .dat .str x1488), (6, .slc 0), (7, .slc 1), (8, .dat (.int .i64) x2992), (9, .dat (.int .i64) x2279)], [some (.seq (.int .i64) x2993), some (.seq (.int .i64) x2994)]⟩ : St) (spec_l6Run_n11 x2279) (fun (t : Int) => (Exit.normal, (⟨mkE 108 0 [(0, .dat (.int .i64) x1487), (1, .dat .str x1488), (6, .slc 0), (7, .slc 1), (8, .dat (.int .i64) x2992), (9, .dat (.int .i64) t)], [some (.seq (.int .i64) x2993), some (.seq (.int .i64) x2994)]⟩ : St))) := by
  refine Link.of fun K h => ?_
  simp only [spec_l6Run_n11, wpO_bind, wpO_cond, wpO_map, wpO_some] at h
  exact Awp.of (by kernel_rfl) h

theorem spec_l6Run_n12_l (x1487 : Int) (x1488 : ByteArray) (x2278 : Int) (x2279 : Int) (x2280 : List Int) (x2281 : List Int) : Link spec_l6Run_ctx LL (Code.snd (Code.fst (Code.fst (Code.snd (Code.fst (Code.snd (Code.snd (Code.snd (Code.snd (bodyOf Try.f19)))))))))) (Ann.snd (Ann.fst (Ann.fst (Ann.snd (Ann.fst (Ann.snd (Ann.snd (Ann.snd (Ann.snd spec_l6Run_an))))))))) (⟨mkE 108 0 [(0, .dat (.int .i64) x1487), (1, .dat .str x1488), (6, .slc 0), (7, .slc 1), (8, .dat (.int .i64) x2278), (9, .dat (.int .i64) x2279)], [some (.seq (.int .i64) x2280), some (.seq (.int .i64) x2281)]⟩ : St) (spec_l6Run_n12 x1487 x1488 x2278 x2279 x2280 x2281) (Sum.elim (fun (t : Int × Int × (List Int) × (List Int)) => (Exit.normal, (⟨mkE 108 0 [(0, .dat (.int .i64) x1487), (1, .dat .str x1488), (6, .slc 0), (7, .slc 1), (8, .dat (.int .i64) t.1), (9, .dat (.int .i64) t.2.1)], [some (.seq (.int .i64) t.2.2.1), some (.seq (.int .i64) t.2.2.2)]⟩ : St))) (fun (t : Bool × (List Int)) => (Exit.ret, (⟨mkE 108 0 [(4, .slc 0), (5, .dat .bool t.1)], [some (.seq (.int .i64) t.2)]⟩ : St)))) := by
  unfold spec_l6Run_n12
  exact Link.cast (by kernel_rfl) (by kernel_rfl) (link_seq2 (b := (Code.snd (Code.snd (Code.fst (Code.fst (Code.snd (Code.fst (Code.snd (Code.snd (Code.snd (Code.snd (bodyOf Try.f19)))))))))))) (y := (Ann.snd (Ann.snd (Ann.fst (Ann.fst (Ann.snd (Ann.fst (Ann.snd (Ann.snd (Ann.snd (Ann.snd spec_l6Run_an))))))))))) (spec_l6Run_n10_l x1487 x1488 x2278 x2279 x2280 x2281) (fun (t : Int × (List Int) × (List Int)) => (link_map (spec_l6Run_n11_l x1487 x1488 t.1 x2279 t.2.1 t.2.2) (fun (u : Int) => (Sum.inl (t.1, u, t.2.1, t.2.2))) (by
  rintro t
  · kernel_rfl))) (fun (t : Bool × (List Int)) => (Sum.inr t)) (by
  rintro t
  · kernel_rfl) (by
  rintro t f K h
  · exact h))

theorem spec_l6Run_n13_l (x1487 : Int) (x1488 : ByteArray) (x2278 : Int) (x2279 : Int) (x2280 : List Int) (x2281 : List Int) : Link spec_l6Run_ctx LL (Code.fst (Code.fst (Code.snd (Code.fst (Code.snd (Code.snd (Code.snd (Code.snd (bodyOf Try.f19))))))))) (Ann.fst (Ann.fst (Ann.snd (Ann.fst (Ann.snd (Ann.snd (Ann.snd (Ann.snd spec_l6Run_an)))))))) (⟨mkE 108 0 [(0, .dat (.int .i64) x1487), (1, .dat .str x1488), (6, .slc 0), (7, .slc 1), (8, .dat (.int .i64) x2278), (9, .dat (.int .i64) x2279)], [some (.seq (.int .i64) x2280), some (.seq (.int .i64) x2281)]⟩ : St) (spec_l6Run_n13 x1487 x1488 x2278 x2279 x2280 x2281) (Sum.elim (fun (t : Int × Int × (List Int) × (List Int)) => (Exit.normal, (⟨mkE 108 0 [(0, .dat (.int .i64) x1487), (1, .dat .str x1488), (6, .slc 0), (7, .slc 1), (8, .dat (.int .i64) t.1), (9, .dat (.int .i64) t.2.1)], [some (.seq (.int .i64) t.2.2.1), some (.seq (.int .i64) t.2.2.2)]⟩ : St))) (Sum.elim (fun (t : Bool × (List Int)) => (Exit.ret, (⟨mkE 108 0 [(4, .slc 0), (5, .dat .bool t.1)], [some (.seq (.int .i64) t.2)]⟩ : St))) (fun (t : Int × (List Int) × (List Int)) => ((Exit.exit 0), (⟨mkE 108 0 [(0, .dat (.int .i64) x1487), (6, .slc 0), (7, .slc 1), (8, .dat (.int .i64) t.1)], [some (.seq (.int .i64) t.2.1), some (.seq (.int .i64) t.2.2)]⟩ : St))))) := by
  unfold spec_l6Run_n13
  exact Link.cast (by kernel_rfl) (by kernel_rfl) (link_seq2 (b := (Code.snd (Code.fst (Code.fst (Code.snd (Code.fst (Code.snd (Code.snd (Code.snd (Code.snd (bodyOf Try.f19))))))))))) (y := (Ann.snd (Ann.fst (Ann.fst (Ann.snd (Ann.fst (Ann.snd (Ann.snd (Ann.snd (Ann.snd spec_l6Run_an)))))))))) (spec_l6Run_n3_l x1487 x1488 x2278 x2279 x2280 x2281) (fun (t : Unit) => (link_map (spec_l6Run_n12_l x1487 x1488 x2278 x2279 x2280 x2281) (Sum.elim (fun (t : Int × Int × (List Int) × (List Int)) => (Sum.inl (t.1, t.2.1, t.2.2.1, t.2.2.2))) (fun (t : Bool × (List Int)) => (Sum.inr (Sum.inl t)))) (by
  rintro (t | t)
  · kernel_rfl
  · kernel_rfl))) (fun (t : Int × (List Int) × (List Int)) => (Sum.inr (Sum.inr t))) (by
  rintro t
  · kernel_rfl) (by
  rintro t f K h
  · exact h))

theorem spec_l6Run_n14_l (x1487 : Int) (x1488 : ByteArray) (x1562 : List Int) : Link spec_l6Run_ctx LL (Code.fst (Code.snd (Code.fst (Code.snd (Code.snd (Code.snd (Code.snd (bodyOf Try.f19)))))))) (Ann.fst (Ann.snd (Ann.fst (Ann.snd (Ann.snd (Ann.snd (Ann.snd spec_l6Run_an))))))) (⟨mkE 108 0 [(0, .dat (.int .i64) x1487), (1, .dat .str x1488), (6, .slc 0), (7, .slc 1), (8, .dat (.int .i64) 1), (9, .dat (.int .i64) 0)], [some (.seq (.int .i64) x1562), some (.seq (.int .i64) ([] : List Int))]⟩ : St) (spec_l6Run_n14 x1487 x1488 x1562) (Sum.elim (fun (t : Bool × (List Int)) => (Exit.ret, (⟨mkE 108 0 [(4, .slc 0), (5, .dat .bool t.1)], [some (.seq (.int .i64) t.2)]⟩ : St))) (fun (t : Int × (List Int) × (List Int)) => ((Exit.exit 0), (⟨mkE 108 0 [(0, .dat (.int .i64) x1487), (6, .slc 0), (7, .slc 1), (8, .dat (.int .i64) t.1)], [some (.seq (.int .i64) t.2.1), some (.seq (.int .i64) t.2.2)]⟩ : St)))) := by
  unfold spec_l6Run_n14
  exact Link.cast (by kernel_rfl) (by kernel_rfl) (link_loop (mk := fun (s : Int × Int × (List Int) × (List Int)) => (⟨mkE 108 0 [(0, .dat (.int .i64) x1487), (1, .dat .str x1488), (6, .slc 0), (7, .slc 1), (8, .dat (.int .i64) s.1), (9, .dat (.int .i64) s.2.1)], [some (.seq (.int .i64) s.2.2.1), some (.seq (.int .i64) s.2.2.2)]⟩ : St)) (fin := (Sum.elim (fun (t : Bool × (List Int)) => (Exit.ret, (⟨mkE 108 0 [(4, .slc 0), (5, .dat .bool t.1)], [some (.seq (.int .i64) t.2)]⟩ : St))) (fun (t : Int × (List Int) × (List Int)) => ((Exit.exit 0), (⟨mkE 108 0 [(0, .dat (.int .i64) x1487), (6, .slc 0), (7, .slc 1), (8, .dat (.int .i64) t.1)], [some (.seq (.int .i64) t.2.1), some (.seq (.int .i64) t.2.2)]⟩ : St))))) (by
  rintro (t | t) f K h
  · exact h
  · exact h) (fun s => link_map (spec_l6Run_n13_l x1487 x1488 s.1 s.2.1 s.2.2.1 s.2.2.2) (Sum.elim (fun (t : Int × Int × (List Int) × (List Int)) => Sum.inl (t.1, t.2.1, t.2.2.1, t.2.2.2)) (Sum.elim (fun (t : Bool × (List Int)) => Sum.inr (Sum.inl t)) (fun (t : Int × (List Int) × (List Int)) => Sum.inr (Sum.inr t)))) (by
  rintro (t | t | t)
  · kernel_rfl
  · kernel_rfl
  · kernel_rfl)) (1, 0, x1562, ([] : List Int)))

theorem spec_l6Run_n15_l (x1487 : Int) (x1488 : ByteArray) (x1562 : List Int) : Link spec_l6Run_ctx LL (Code.snd (Code.fst (Code.snd (Code.snd (Code.snd (Code.snd (bodyOf Try.f19))))))) (Ann.snd (Ann.fst (Ann.snd (Ann.snd (Ann.snd (Ann.snd spec_l6Run_an)))))) (⟨mkE 108 0 [(0, .dat (.int .i64) x1487), (1, .dat .str x1488), (6, .slc 0), (7, .slc 1), (8, .dat (.int .i64) 1), (9, .dat (.int .i64) 0)], [some (.seq (.int .i64) x1562), some (.seq (.int .i64) ([] : List Int))]⟩ : St) (spec_l6Run_n15 x1487 x1488 x1562) (Sum.elim (fun (t : Int × (List Int) × (List Int)) => (Exit.normal, (⟨mkE 108 0 [(0, .dat (.int .i64) x1487), (6, .slc 0), (7, .slc 1), (8, .dat (.int .i64) t.1)], [some (.seq (.int .i64) t.2.1), some (.seq (.int .i64) t.2.2)]⟩ : St))) (fun (t : Bool × (List Int)) => (Exit.ret, (⟨mkE 108 0 [(4, .slc 0), (5, .dat .bool t.1)], [some (.seq (.int .i64) t.2)]⟩ : St)))) := by
  unfold spec_l6Run_n15
  exact Link.cast (by kernel_rfl) (by kernel_rfl) (link_block (id := 0) (spec_l6Run_n14_l x1487 x1488 x1562) (Sum.elim (fun (t : Bool × (List Int)) => (Sum.inr t)) (fun (t : Int × (List Int) × (List Int)) => (Sum.inl (t.1, t.2.1, t.2.2)))) (by
  rintro (t | t) K h
  · exact Eq.mp (by kernel_rfl) h
  · exact Eq.mp (by kernel_rfl) h))

theorem spec_l6Run_n16_l (x1487 : Int) (x1488 : ByteArray) (x1562 : List Int) : Link spec_l6Run_ctx LL (Code.fst (Code.snd (Code.snd (Code.snd (Code.snd (bodyOf Try.f19)))))) (Ann.fst (Ann.snd (Ann.snd (Ann.snd (Ann.snd spec_l6Run_an))))) (⟨mkE 108 0 [(0, .dat (.int .i64) x1487), (1, .dat .str x1488), (6, .slc 0), (7, .slc 1), (8, .dat (.int .i64) 1)], [some (.seq (.int .i64) x1562), some (.seq (.int .i64) ([] : List Int))]⟩ : St) (spec_l6Run_n16 x1487 x1488 x1562) (Sum.elim (fun (t : Int × (List Int) × (List Int)) => (Exit.normal, (⟨mkE 108 0 [(0, .dat (.int .i64) x1487), (6, .slc 0), (7, .slc 1), (8, .dat (.int .i64) t.1)], [some (.seq (.int .i64) t.2.1), some (.seq (.int .i64) t.2.2)]⟩ : St))) (fun (t : Bool × (List Int)) => (Exit.ret, (⟨mkE 108 0 [(4, .slc 0), (5, .dat .bool t.1)], [some (.seq (.int .i64) t.2)]⟩ : St)))) := by
  unfold spec_l6Run_n16
  exact Link.cast (by kernel_rfl) (by kernel_rfl) (link_seq (b := (Code.snd (Code.fst (Code.snd (Code.snd (Code.snd (Code.snd (bodyOf Try.f19)))))))) (y := (Ann.snd (Ann.fst (Ann.snd (Ann.snd (Ann.snd (Ann.snd spec_l6Run_an))))))) (spec_l6Run_n2_l x1487 x1488 x1562) (fun (t : Unit) => (spec_l6Run_n15_l x1487 x1488 x1562)))

theorem spec_l6Run_n17_l (x1487 : Int) (x2278 : Int) (x2280 : List Int) (x2281 : List Int) : Link spec_l6Run_ctx LL (Code.snd (Code.snd (Code.snd (Code.snd (Code.snd (bodyOf Try.f19)))))) (Ann.snd (Ann.snd (Ann.snd (Ann.snd (Ann.snd spec_l6Run_an))))) (⟨mkE 108 0 [(0, .dat (.int .i64) x1487), (6, .slc 0), (7, .slc 1), (8, .dat (.int .i64) x2278)], [some (.seq (.int .i64) x2280), some (.seq (.int .i64) x2281)]⟩ : St) (spec_l6Run_n17 x1487 x2278 x2280 x2281) (fun (t : Bool × (List Int)) => (Exit.ret, (⟨mkE 108 0 [(4, .slc 0), (5, .dat .bool t.1)], [some (.seq (.int .i64) t.2)]⟩ : St))) := by
  refine Link.of fun K h => ?_
  simp only [spec_l6Run_n17, wpO_bind, wpO_cond, wpO_map, wpO_some] at h
  exact Awp.of (by kernel_rfl) h

theorem spec_l6Run_n18_l (x1487 : Int) (x1488 : ByteArray) (x1562 : List Int) : Link spec_l6Run_ctx LL (Code.snd (Code.snd (Code.snd (Code.snd (bodyOf Try.f19))))) (Ann.snd (Ann.snd (Ann.snd (Ann.snd spec_l6Run_an)))) (⟨mkE 108 0 [(0, .dat (.int .i64) x1487), (1, .dat .str x1488), (6, .slc 0), (7, .slc 1), (8, .dat (.int .i64) 1)], [some (.seq (.int .i64) x1562), some (.seq (.int .i64) ([] : List Int))]⟩ : St) (spec_l6Run_n18 x1487 x1488 x1562) (fun (t : Bool × (List Int)) => (Exit.ret, (⟨mkE 108 0 [(4, .slc 0), (5, .dat .bool t.1)], [some (.seq (.int .i64) t.2)]⟩ : St))) := by
  unfold spec_l6Run_n18
  exact Link.cast (by kernel_rfl) (by kernel_rfl) (link_seq2 (b := (Code.snd (Code.snd (Code.snd (Code.snd (Code.snd (bodyOf Try.f19))))))) (y := (Ann.snd (Ann.snd (Ann.snd (Ann.snd (Ann.snd spec_l6Run_an)))))) (spec_l6Run_n16_l x1487 x1488 x1562) (fun (t : Int × (List Int) × (List Int)) => (spec_l6Run_n17_l x1487 t.1 t.2.1 t.2.2)) (fun (t : Bool × (List Int)) => t) (by
  rintro t
  · kernel_rfl) (by
  rintro t f K h
  · exact h))

theorem spec_l6Run_n19_l (x1487 : Int) (x1488 : ByteArray) : Link spec_l6Run_ctx LL (bodyOf Try.f19) spec_l6Run_an (⟨mkE 108 0 [(0, .dat (.int .i64) x1487), (1, .dat .str x1488)], []⟩ : St) (spec_l6Run_n19 x1487 x1488) (fun (t : Bool × (List Int)) => (Exit.ret, (⟨mkE 108 0 [(4, .slc 0), (5, .dat .bool t.1)], [some (.seq (.int .i64) t.2)]⟩ : St))) := by
  unfold spec_l6Run_n19
  exact Link.cast (by kernel_rfl) (by kernel_rfl) (link_group (c := (Code.fst (Code.snd (Code.snd (Code.snd (bodyOf Try.f19)))))) (a := (Ann.fst (Ann.snd (Ann.snd (Ann.snd spec_l6Run_an))))) [(Code.fst (bodyOf Try.f19)), (Code.fst (Code.snd (bodyOf Try.f19))), (Code.fst (Code.snd (Code.snd (bodyOf Try.f19))))] [(Ann.fst spec_l6Run_an), (Ann.fst (Ann.snd spec_l6Run_an)), (Ann.fst (Ann.snd (Ann.snd spec_l6Run_an)))] rfl (link_seq (b := (Code.snd (Code.snd (Code.snd (Code.snd (bodyOf Try.f19)))))) (y := (Ann.snd (Ann.snd (Ann.snd (Ann.snd spec_l6Run_an))))) (spec_l6Run_n1_l x1487 x1488) (fun (t : (List Int)) => (spec_l6Run_n18_l x1487 x1488 t))))

theorem spec_l6Run_e (x1487 : Int) (x1488 : ByteArray) {r : AV} {H' : Heap} (h : (Ans.mk _ (spec_l6Run x1487 x1488) (fun (t : Bool × (List Int)) => (.tup [.slc 0, .dat .bool t.1], [some (.seq (.int .i64) t.2)])) [] none).run = some (r, H')) : Awp spec_l6Run_ctx LL (bodyOf Try.f19) spec_l6Run_an (⟨mkE 108 0 [(0, .dat (.int .i64) x1487), (1, .dat .str x1488)], []⟩ : St) (Ret (tlook tys) Try.f19.results.toList r H') :=
  ret_of' (spec_l6Run_n19_l x1487 x1488) (by unfold spec_l6Run; kernel_rfl) (by
  intro t
  exact ret_mk [.slc 0, .dat .bool t.1] (by kernel_rfl) (by kernel_rfl) (by kernel_rfl) (by kernel_rfl)) h

def F_spec_l6Run : Fun := fun avs H =>
  match avs, H with
  | [.dat (.int .i64) x1487, .dat .str x1488], [] => ⟨_, spec_l6Run x1487 x1488, fun (t : Bool × (List Int)) => (.tup [.slc 0, .dat .bool t.1], [some (.seq (.int .i64) t.2)]), [], none⟩
  | _, _ => Ans.no

theorem spec_l6Run_sound : Sound Try.prog 19 F_spec_l6Run := by
  refine fn_sound' (C := spec_l6Run_ctx) (c := bodyOf Try.f19) (cok_of tys_ok (by simp) (by simp) (by kernel_rfl)) Try.func19 (by kernel_rfl) LL spec_l6Run_an ?_
  intro avs H r H' h
  unfold F_spec_l6Run at h
  split at h
  · refine Awp.cast ?_ ?_ ?_ (spec_l6Run_e _ _ h) <;> kernel_rfl
  · simp [Ans.no, Ans.run] at h

/-! loop.example/headtrees/spec.RunStack -/

def spec_RunStack_an : Ann := (.seq (.leaf [0, 1]) (.seq (.seq (.leaf [0, 1, 10]) (.cond (.seq (.leaf [4, 5]) (.leaf [4, 5])) (.leaf [0, 1]))) (.seq (.leaf [6, 7]) (.seq (.seq (.leaf [6, 19]) (.cond (.seq (.leaf [4, 5]) (.leaf [4, 5])) (.leaf [6]))) (.seq (.leaf [4, 5]) (.leaf [4, 5]))))))

noncomputable def spec_RunStack_ctx : Ctx := ⟨tlook tys, olook [(18, F_spec_l1In), (19, F_spec_l6Run)], ioF, 0, false, []⟩

theorem spec_RunStack_n1_l (x1473 : Int) (x1474 : ByteArray) : Link spec_RunStack_ctx LL (bodyOf Try.f10) spec_RunStack_an (⟨mkE 22 0 [(0, .dat (.int .i64) x1473), (1, .dat .str x1474)], []⟩ : St) (spec_RunStack_n1 x1473 x1474) (fun (t : Bool × (List Int)) => (Exit.ret, (⟨mkE 22 0 [(4, .slc 0), (5, .dat .bool t.1)], [some (.seq (.int .i64) t.2)]⟩ : St))) := by
  refine Link.of fun K h => ?_
  simp only [spec_RunStack_n1, wpO_bind, wpO_cond, wpO_map, wpO_some] at h
  exact Awp.of (by kernel_rfl) h

theorem spec_RunStack_e (x1473 : Int) (x1474 : ByteArray) {r : AV} {H' : Heap} (h : (Ans.mk _ (spec_RunStack x1473 x1474) (fun (t : Bool × (List Int)) => (.tup [.slc 0, .dat .bool t.1], [some (.seq (.int .i64) t.2)])) [] none).run = some (r, H')) : Awp spec_RunStack_ctx LL (bodyOf Try.f10) spec_RunStack_an (⟨mkE 22 0 [(0, .dat (.int .i64) x1473), (1, .dat .str x1474)], []⟩ : St) (Ret (tlook tys) Try.f10.results.toList r H') :=
  ret_of' (spec_RunStack_n1_l x1473 x1474) (by unfold spec_RunStack; kernel_rfl) (by
  intro t
  exact ret_mk [.slc 0, .dat .bool t.1] (by kernel_rfl) (by kernel_rfl) (by kernel_rfl) (by kernel_rfl)) h

def F_spec_RunStack : Fun := fun avs H =>
  match avs, H with
  | [.dat (.int .i64) x1473, .dat .str x1474], [] => ⟨_, spec_RunStack x1473 x1474, fun (t : Bool × (List Int)) => (.tup [.slc 0, .dat .bool t.1], [some (.seq (.int .i64) t.2)]), [], none⟩
  | _, _ => Ans.no

theorem spec_RunStack_sound : Sound Try.prog 10 F_spec_RunStack := by
  refine fn_sound' (C := spec_RunStack_ctx) (c := bodyOf Try.f10) (cok_of tys_ok (List.forall_mem_cons.2 ⟨spec_l1In_sound, List.forall_mem_cons.2 ⟨spec_l6Run_sound, by simp⟩⟩) (List.forall_mem_cons.2 ⟨Try.call18, List.forall_mem_cons.2 ⟨Try.call19, by simp⟩⟩) (by kernel_rfl)) Try.func10 (by kernel_rfl) LL spec_RunStack_an ?_
  intro avs H r H' h
  unfold F_spec_RunStack at h
  split at h
  · refine Awp.cast ?_ ?_ ?_ (spec_RunStack_e _ _ h) <;> kernel_rfl
  · simp [Ans.no, Ans.run] at h

/-! loop.example/headtrees/spec.DeepestStack -/

def spec_DeepestStack_an : Ann := (.seq (.leaf [0, 1]) (.seq (.leaf [1, 6]) (.seq (.seq (.leaf [1, 17]) (.cond (.seq (.leaf [4]) (.leaf [4])) (.leaf [1]))) (.seq (.leaf [1, 7]) (.seq (.leaf [1, 7, 8]) (.seq (.seq (.leaf [1, 7, 8, 9]) (.block (.loop (.seq (.seq (.leaf [1, 7, 8, 9, 21]) (.cond (.leaf [1, 7, 8, 9]) (.leaf [7]))) (.seq (.block (.seq (.seq (.leaf [1, 7, 8, 9, 27]) (.cond (.leaf [1, 7, 8, 9]) (.leaf [1, 7, 8, 9]))) (.leaf [1, 7, 8, 9]))) (.leaf [1, 7, 8, 9])))))) (.seq (.leaf [4]) (.leaf [4]))))))))

noncomputable def spec_DeepestStack_ctx : Ctx := ⟨tlook tys, olook [(10, F_spec_RunStack)], ioF, 0, false, []⟩

theorem spec_DeepestStack_n1_l (x1471 : Int) (x1472 : ByteArray) : Link spec_DeepestStack_ctx LL (Code.seq (Code.fst (bodyOf Try.f8)) (Code.seq (Code.fst (Code.snd (bodyOf Try.f8))) (Code.seq (Code.fst (Code.snd (Code.snd (bodyOf Try.f8)))) (Code.seq (Code.fst (Code.snd (Code.snd (Code.snd (bodyOf Try.f8))))) (Code.fst (Code.snd (Code.snd (Code.snd (Code.snd (bodyOf Try.f8)))))))))) (Ann.seq (Ann.fst spec_DeepestStack_an) (Ann.seq (Ann.fst (Ann.snd spec_DeepestStack_an)) (Ann.seq (Ann.fst (Ann.snd (Ann.snd spec_DeepestStack_an))) (Ann.seq (Ann.fst (Ann.snd (Ann.snd (Ann.snd spec_DeepestStack_an)))) (Ann.fst (Ann.snd (Ann.snd (Ann.snd (Ann.snd spec_DeepestStack_an))))))))) (⟨mkE 36 0 [(0, .dat (.int .i64) x1471), (1, .dat .str x1472)], []⟩ : St) (spec_DeepestStack_n1 x1471 x1472) (Sum.elim (fun (t : Unit) => (Exit.normal, (⟨mkE 36 0 [(1, .dat .str x1472), (7, .dat (.int .i64) 0), (8, .dat (.int .i64) 0)], []⟩ : St))) (fun (t : Int) => (Exit.ret, (⟨mkE 36 0 [(4, .dat (.int .i64) t)], []⟩ : St)))) := by
  refine Link.of fun K h => ?_
  simp only [spec_DeepestStack_n1, wpO_bind, wpO_cond, wpO_map, wpO_some] at h
  exact Awp.of (by kernel_rfl) h

theorem spec_DeepestStack_n2_l (x1472 : ByteArray) : Link spec_DeepestStack_ctx LL (Code.fst (Code.fst (Code.snd (Code.snd (Code.snd (Code.snd (Code.snd (bodyOf Try.f8)))))))) (Ann.fst (Ann.fst (Ann.snd (Ann.snd (Ann.snd (Ann.snd (Ann.snd spec_DeepestStack_an))))))) (⟨mkE 36 0 [(1, .dat .str x1472), (7, .dat (.int .i64) 0), (8, .dat (.int .i64) 0)], []⟩ : St) (spec_DeepestStack_n2) (fun (t : Unit) => (Exit.normal, (⟨mkE 36 0 [(1, .dat .str x1472), (7, .dat (.int .i64) 0), (8, .dat (.int .i64) 0), (9, .dat (.int .i64) 0)], []⟩ : St))) := by
  refine Link.of fun K h => ?_
  simp only [spec_DeepestStack_n2, wpO_bind, wpO_cond, wpO_map, wpO_some] at h
  exact Awp.of (by kernel_rfl) h

theorem spec_DeepestStack_n3_l (x1472 : ByteArray) (x3065 : Int) (x3066 : Int) (x3067 : Int) : Link spec_DeepestStack_ctx LL (Code.fst (Code.fst (Code.snd (Code.fst (Code.snd (Code.snd (Code.snd (Code.snd (Code.snd (bodyOf Try.f8)))))))))) (Ann.fst (Ann.fst (Ann.snd (Ann.fst (Ann.snd (Ann.snd (Ann.snd (Ann.snd (Ann.snd spec_DeepestStack_an))))))))) (⟨mkE 36 0 [(1, .dat .str x1472), (7, .dat (.int .i64) x3065), (8, .dat (.int .i64) x3066), (9, .dat (.int .i64) x3067)], []⟩ : St) (spec_DeepestStack_n3 x1472 x3065 x3066 x3067) (Sum.elim (fun (t : Int × Int × Int) => (Exit.normal, (⟨mkE 36 0 [(1, .dat .str x1472), (7, .dat (.int .i64) t.1), (8, .dat (.int .i64) t.2.1), (9, .dat (.int .i64) t.2.2)], []⟩ : St))) (fun (t : Int) => ((Exit.exit 0), (⟨mkE 36 0 [(7, .dat (.int .i64) t)], []⟩ : St)))) := by
  refine Link.of fun K h => ?_
  simp only [spec_DeepestStack_n3, wpO_bind, wpO_cond, wpO_map, wpO_some] at h
  exact Awp.of (by kernel_rfl) h

theorem spec_DeepestStack_n4_l (x1472 : ByteArray) : Link spec_DeepestStack_ctx LL (Code.fst (Code.snd (Code.fst (Code.snd (Code.snd (Code.snd (Code.snd (Code.snd (bodyOf Try.f8))))))))) (Ann.fst (Ann.snd (Ann.fst (Ann.snd (Ann.snd (Ann.snd (Ann.snd (Ann.snd spec_DeepestStack_an)))))))) (⟨mkE 36 0 [(1, .dat .str x1472), (7, .dat (.int .i64) 0), (8, .dat (.int .i64) 0), (9, .dat (.int .i64) 0)], []⟩ : St) (spec_DeepestStack_n4 x1472) (fun (t : Int) => ((Exit.exit 0), (⟨mkE 36 0 [(7, .dat (.int .i64) t)], []⟩ : St))) := by
  unfold spec_DeepestStack_n4
  exact Link.cast (by kernel_rfl) (by kernel_rfl) (link_loop (mk := fun (s : Int × Int × Int) => (⟨mkE 36 0 [(1, .dat .str x1472), (7, .dat (.int .i64) s.1), (8, .dat (.int .i64) s.2.1), (9, .dat (.int .i64) s.2.2)], []⟩ : St)) (fin := (fun (t : Int) => ((Exit.exit 0), (⟨mkE 36 0 [(7, .dat (.int .i64) t)], []⟩ : St)))) (by
  rintro t f K h
  · exact h) (fun s => link_map (spec_DeepestStack_n3_l x1472 s.1 s.2.1 s.2.2) (Sum.elim (fun (t : Int × Int × Int) => Sum.inl (t.1, t.2.1, t.2.2)) (fun (t : Int) => Sum.inr t)) (by
  rintro (t | t)
  · kernel_rfl
  · kernel_rfl)) (0, 0, 0))

theorem spec_DeepestStack_n5_l (x1472 : ByteArray) : Link spec_DeepestStack_ctx LL (Code.snd (Code.fst (Code.snd (Code.snd (Code.snd (Code.snd (Code.snd (bodyOf Try.f8)))))))) (Ann.snd (Ann.fst (Ann.snd (Ann.snd (Ann.snd (Ann.snd (Ann.snd spec_DeepestStack_an))))))) (⟨mkE 36 0 [(1, .dat .str x1472), (7, .dat (.int .i64) 0), (8, .dat (.int .i64) 0), (9, .dat (.int .i64) 0)], []⟩ : St) (spec_DeepestStack_n5 x1472) (fun (t : Int) => (Exit.normal, (⟨mkE 36 0 [(7, .dat (.int .i64) t)], []⟩ : St))) := by
  unfold spec_DeepestStack_n5
  exact Link.cast (by kernel_rfl) (by kernel_rfl) (link_block (id := 0) (spec_DeepestStack_n4_l x1472) (fun (t : Int) => t) (by
  rintro t K h
  · exact Eq.mp (by kernel_rfl) h))

theorem spec_DeepestStack_n6_l (x1472 : ByteArray) : Link spec_DeepestStack_ctx LL (Code.fst (Code.snd (Code.snd (Code.snd (Code.snd (Code.snd (bodyOf Try.f8))))))) (Ann.fst (Ann.snd (Ann.snd (Ann.snd (Ann.snd (Ann.snd spec_DeepestStack_an)))))) (⟨mkE 36 0 [(1, .dat .str x1472), (7, .dat (.int .i64) 0), (8, .dat (.int .i64) 0)], []⟩ : St) (spec_DeepestStack_n6 x1472) (fun (t : Int) => (Exit.normal, (⟨mkE 36 0 [(7, .dat (.int .i64) t)], []⟩ : St))) := by
  unfold spec_DeepestStack_n6
  exact Link.cast (by kernel_rfl) (by kernel_rfl) (link_seq (b := (Code.snd (Code.fst (Code.snd (Code.snd (Code.snd (Code.snd (Code.snd (bodyOf Try.f8))))))))) (y := (Ann.snd (Ann.fst (Ann.snd (Ann.snd (Ann.snd (Ann.snd (Ann.snd spec_DeepestStack_an)))))))) (spec_DeepestStack_n2_l x1472) (fun (t : Unit) => (spec_DeepestStack_n5_l x1472)))

theorem spec_DeepestStack_n7_l (x3065 : Int) : Link spec_DeepestStack_ctx LL (Code.snd (Code.snd (Code.snd (Code.snd (Code.snd (Code.snd (bodyOf Try.f8))))))) (Ann.snd (Ann.snd (Ann.snd (Ann.snd (Ann.snd (Ann.snd spec_DeepestStack_an)))))) (⟨mkE 36 0 [(7, .dat (.int .i64) x3065)], []⟩ : St) (spec_DeepestStack_n7 x3065) (fun (t : Int) => (Exit.ret, (⟨mkE 36 0 [(4, .dat (.int .i64) t)], []⟩ : St))) := by
  refine Link.of fun K h => ?_
  simp only [spec_DeepestStack_n7, wpO_bind, wpO_cond, wpO_map, wpO_some] at h
  exact Awp.of (by kernel_rfl) h

theorem spec_DeepestStack_n8_l (x1472 : ByteArray) : Link spec_DeepestStack_ctx LL (Code.snd (Code.snd (Code.snd (Code.snd (Code.snd (bodyOf Try.f8)))))) (Ann.snd (Ann.snd (Ann.snd (Ann.snd (Ann.snd spec_DeepestStack_an))))) (⟨mkE 36 0 [(1, .dat .str x1472), (7, .dat (.int .i64) 0), (8, .dat (.int .i64) 0)], []⟩ : St) (spec_DeepestStack_n8 x1472) (fun (t : Int) => (Exit.ret, (⟨mkE 36 0 [(4, .dat (.int .i64) t)], []⟩ : St))) := by
  unfold spec_DeepestStack_n8
  exact Link.cast (by kernel_rfl) (by kernel_rfl) (link_seq (b := (Code.snd (Code.snd (Code.snd (Code.snd (Code.snd (Code.snd (bodyOf Try.f8)))))))) (y := (Ann.snd (Ann.snd (Ann.snd (Ann.snd (Ann.snd (Ann.snd spec_DeepestStack_an))))))) (spec_DeepestStack_n6_l x1472) (fun (t : Int) => (spec_DeepestStack_n7_l t)))

theorem spec_DeepestStack_n9_l (x1471 : Int) (x1472 : ByteArray) : Link spec_DeepestStack_ctx LL (bodyOf Try.f8) spec_DeepestStack_an (⟨mkE 36 0 [(0, .dat (.int .i64) x1471), (1, .dat .str x1472)], []⟩ : St) (spec_DeepestStack_n9 x1471 x1472) (fun (t : Int) => (Exit.ret, (⟨mkE 36 0 [(4, .dat (.int .i64) t)], []⟩ : St))) := by
  unfold spec_DeepestStack_n9
  exact Link.cast (by kernel_rfl) (by kernel_rfl) (link_group (c := (Code.fst (Code.snd (Code.snd (Code.snd (Code.snd (bodyOf Try.f8))))))) (a := (Ann.fst (Ann.snd (Ann.snd (Ann.snd (Ann.snd spec_DeepestStack_an)))))) [(Code.fst (bodyOf Try.f8)), (Code.fst (Code.snd (bodyOf Try.f8))), (Code.fst (Code.snd (Code.snd (bodyOf Try.f8)))), (Code.fst (Code.snd (Code.snd (Code.snd (bodyOf Try.f8)))))] [(Ann.fst spec_DeepestStack_an), (Ann.fst (Ann.snd spec_DeepestStack_an)), (Ann.fst (Ann.snd (Ann.snd spec_DeepestStack_an))), (Ann.fst (Ann.snd (Ann.snd (Ann.snd spec_DeepestStack_an))))] rfl (link_seq2 (b := (Code.snd (Code.snd (Code.snd (Code.snd (Code.snd (bodyOf Try.f8))))))) (y := (Ann.snd (Ann.snd (Ann.snd (Ann.snd (Ann.snd spec_DeepestStack_an)))))) (spec_DeepestStack_n1_l x1471 x1472) (fun (t : Unit) => (spec_DeepestStack_n8_l x1472)) (fun (t : Int) => t) (by
  rintro t
  · kernel_rfl) (by
  rintro t f K h
  · exact h)))

theorem spec_DeepestStack_e (x1471 : Int) (x1472 : ByteArray) {r : AV} {H' : Heap} (h : (Ans.mk _ (spec_DeepestStack x1471 x1472) (fun (t : Int) => (.dat (.int .i64) t, [])) [] none).run = some (r, H')) : Awp spec_DeepestStack_ctx LL (bodyOf Try.f8) spec_DeepestStack_an (⟨mkE 36 0 [(0, .dat (.int .i64) x1471), (1, .dat .str x1472)], []⟩ : St) (Ret (tlook tys) Try.f8.results.toList r H') :=
  ret_of' (spec_DeepestStack_n9_l x1471 x1472) (by unfold spec_DeepestStack; kernel_rfl) (by
  intro t
  exact ret_mk [.dat (.int .i64) t] (by kernel_rfl) (by kernel_rfl) (by kernel_rfl) (by kernel_rfl)) h

def F_spec_DeepestStack : Fun := fun avs H =>
  match avs, H with
  | [.dat (.int .i64) x1471, .dat .str x1472], [] => ⟨_, spec_DeepestStack x1471 x1472, fun (t : Int) => (.dat (.int .i64) t, []), [], none⟩
  | _, _ => Ans.no

theorem spec_DeepestStack_sound : Sound Try.prog 8 F_spec_DeepestStack := by
  refine fn_sound' (C := spec_DeepestStack_ctx) (c := bodyOf Try.f8) (cok_of tys_ok (List.forall_mem_cons.2 ⟨spec_RunStack_sound, by simp⟩) (List.forall_mem_cons.2 ⟨Try.call10, by simp⟩) (by kernel_rfl)) Try.func8 (by kernel_rfl) LL spec_DeepestStack_an ?_
  intro avs H r H' h
  unfold F_spec_DeepestStack at h
  split at h
  · refine Awp.cast ?_ ?_ ?_ (spec_DeepestStack_e _ _ h) <;> kernel_rfl
  · simp [Ans.no, Ans.run] at h

/-! loop.example/headtrees/impl.oneRoot -/

def impl_oneRoot_an : Ann := (.seq (.leaf [0]) (.seq (.leaf [0, 3]) (.seq (.seq (.leaf [0, 3, 6, 7, 8]) (.block (.loop (.seq (.leaf [0, 3, 6, 7, 8, 9]) (.seq (.cond (.leaf [0, 3, 6, 7, 8]) (.leaf [3])) (.seq (.block (.seq (.leaf [0, 3, 5, 6, 7, 8]) (.seq (.seq (.leaf [0, 3, 5, 6, 7, 8, 19]) (.cond (.seq (.leaf [2]) (.leaf [2])) (.leaf [0, 3, 5, 6, 7, 8]))) (.seq (.leaf [0, 3, 6, 7, 8, 21]) (.cond (.leaf [0, 3, 6, 7, 8]) (.leaf [0, 3, 6, 7, 8])))))) (.leaf [0, 3, 6, 7, 8]))))))) (.seq (.leaf [2]) (.leaf [2])))))

noncomputable def impl_oneRoot_ctx : Ctx := ⟨tlook tys, olook [], ioF, 0, false, []⟩

theorem impl_oneRoot_n1_l (x3110 : List Int) : Link impl_oneRoot_ctx LL (Code.seq (Code.fst (bodyOf Try.f26)) (Code.fst (Code.snd (bodyOf Try.f26)))) (Ann.seq (Ann.fst impl_oneRoot_an) (Ann.fst (Ann.snd impl_oneRoot_an))) (⟨mkE 27 0 [(0, .dat (.list (.int .i64)) x3110)], []⟩ : St) (impl_oneRoot_n1) (fun (t : Unit) => (Exit.normal, (⟨mkE 27 0 [(0, .dat (.list (.int .i64)) x3110), (3, .dat (.int .i64) 0)], []⟩ : St))) := by
  refine Link.of fun K h => ?_
  simp only [impl_oneRoot_n1, wpO_bind, wpO_cond, wpO_map, wpO_some] at h
  exact Awp.of (by kernel_rfl) h

theorem impl_oneRoot_n2_l (x3110 : List Int) : Link impl_oneRoot_ctx LL (Code.fst (Code.fst (Code.snd (Code.snd (bodyOf Try.f26))))) (Ann.fst (Ann.fst (Ann.snd (Ann.snd impl_oneRoot_an)))) (⟨mkE 27 0 [(0, .dat (.list (.int .i64)) x3110), (3, .dat (.int .i64) 0)], []⟩ : St) (impl_oneRoot_n2 x3110) (fun (t : Int) => (Exit.normal, (⟨mkE 27 0 [(0, .dat (.list (.int .i64)) x3110), (3, .dat (.int .i64) 0), (6, .dat (.list (.int .i64)) x3110), (7, .dat (.int .i64) t), (8, .dat (.int .i64) 0)], []⟩ : St))) := by
  refine Link.of fun K h => ?_
  simp only [impl_oneRoot_n2, wpO_bind, wpO_cond, wpO_map, wpO_some] at h
  exact Awp.of (by kernel_rfl) h

theorem impl_oneRoot_n3_l (x3110 : List Int) (x3132 : Int) (x3111 : Int) (x3133 : Int) : Link impl_oneRoot_ctx LL (Code.fst (Code.fst (Code.snd (Code.fst (Code.snd (Code.snd (bodyOf Try.f26))))))) (Ann.fst (Ann.fst (Ann.snd (Ann.fst (Ann.snd (Ann.snd impl_oneRoot_an)))))) (⟨mkE 27 0 [(0, .dat (.list (.int .i64)) x3110), (3, .dat (.int .i64) x3132), (6, .dat (.list (.int .i64)) x3110), (7, .dat (.int .i64) x3111), (8, .dat (.int .i64) x3133)], []⟩ : St) (impl_oneRoot_n3 x3110 x3132 x3111 x3133) (Sum.elim (fun (t : Int × Int) => (Exit.normal, (⟨mkE 27 0 [(0, .dat (.list (.int .i64)) x3110), (3, .dat (.int .i64) t.1), (6, .dat (.list (.int .i64)) x3110), (7, .dat (.int .i64) x3111), (8, .dat (.int .i64) t.2)], []⟩ : St))) (Sum.elim (fun (t : Bool) => (Exit.ret, (⟨mkE 27 0 [(2, .dat .bool t)], []⟩ : St))) (fun (t : Int) => ((Exit.exit 0), (⟨mkE 27 0 [(3, .dat (.int .i64) t)], []⟩ : St))))) := by
  refine Link.of fun K h => ?_
  simp only [impl_oneRoot_n3, wpO_bind, wpO_cond, wpO_map, wpO_some] at h
  exact Awp.of (by kernel_rfl) h

theorem impl_oneRoot_n4_l (x3110 : List Int) (x3111 : Int) : Link impl_oneRoot_ctx LL (Code.fst (Code.snd (Code.fst (Code.snd (Code.snd (bodyOf Try.f26)))))) (Ann.fst (Ann.snd (Ann.fst (Ann.snd (Ann.snd impl_oneRoot_an))))) (⟨mkE 27 0 [(0, .dat (.list (.int .i64)) x3110), (3, .dat (.int .i64) 0), (6, .dat (.list (.int .i64)) x3110), (7, .dat (.int .i64) x3111), (8, .dat (.int .i64) 0)], []⟩ : St) (impl_oneRoot_n4 x3110 x3111) (Sum.elim (fun (t : Bool) => (Exit.ret, (⟨mkE 27 0 [(2, .dat .bool t)], []⟩ : St))) (fun (t : Int) => ((Exit.exit 0), (⟨mkE 27 0 [(3, .dat (.int .i64) t)], []⟩ : St)))) := by
  unfold impl_oneRoot_n4
  exact Link.cast (by kernel_rfl) (by kernel_rfl) (link_loop (mk := fun (s : Int × Int) => (⟨mkE 27 0 [(0, .dat (.list (.int .i64)) x3110), (3, .dat (.int .i64) s.1), (6, .dat (.list (.int .i64)) x3110), (7, .dat (.int .i64) x3111), (8, .dat (.int .i64) s.2)], []⟩ : St)) (fin := (Sum.elim (fun (t : Bool) => (Exit.ret, (⟨mkE 27 0 [(2, .dat .bool t)], []⟩ : St))) (fun (t : Int) => ((Exit.exit 0), (⟨mkE 27 0 [(3, .dat (.int .i64) t)], []⟩ : St))))) (by
  rintro (t | t) f K h
  · exact h
  · exact h) (fun s => link_map (impl_oneRoot_n3_l x3110 s.1 x3111 s.2) (Sum.elim (fun (t : Int × Int) => Sum.inl (t.1, t.2)) (Sum.elim (fun (t : Bool) => Sum.inr (Sum.inl t)) (fun (t : Int) => Sum.inr (Sum.inr t)))) (by
  rintro (t | t | t)
  · kernel_rfl
  · kernel_rfl
  · kernel_rfl)) (0, 0))

theorem impl_oneRoot_n5_l (x3110 : List Int) (x3111 : Int) : Link impl_oneRoot_ctx LL (Code.snd (Code.fst (Code.snd (Code.snd (bodyOf Try.f26))))) (Ann.snd (Ann.fst (Ann.snd (Ann.snd impl_oneRoot_an)))) (⟨mkE 27 0 [(0, .dat (.list (.int .i64)) x3110), (3, .dat (.int .i64) 0), (6, .dat (.list (.int .i64)) x3110), (7, .dat (.int .i64) x3111), (8, .dat (.int .i64) 0)], []⟩ : St) (impl_oneRoot_n5 x3110 x3111) (Sum.elim (fun (t : Int) => (Exit.normal, (⟨mkE 27 0 [(3, .dat (.int .i64) t)], []⟩ : St))) (fun (t : Bool) => (Exit.ret, (⟨mkE 27 0 [(2, .dat .bool t)], []⟩ : St)))) := by
  unfold impl_oneRoot_n5
  exact Link.cast (by kernel_rfl) (by kernel_rfl) (link_block (id := 0) (impl_oneRoot_n4_l x3110 x3111) (Sum.elim (fun (t : Bool) => (Sum.inr t)) (fun (t : Int) => (Sum.inl t))) (by
  rintro (t | t) K h
  · exact Eq.mp (by kernel_rfl) h
  · exact Eq.mp (by kernel_rfl) h))

theorem impl_oneRoot_n6_l (x3110 : List Int) : Link impl_oneRoot_ctx LL (Code.fst (Code.snd (Code.snd (bodyOf Try.f26)))) (Ann.fst (Ann.snd (Ann.snd impl_oneRoot_an))) (⟨mkE 27 0 [(0, .dat (.list (.int .i64)) x3110), (3, .dat (.int .i64) 0)], []⟩ : St) (impl_oneRoot_n6 x3110) (Sum.elim (fun (t : Int) => (Exit.normal, (⟨mkE 27 0 [(3, .dat (.int .i64) t)], []⟩ : St))) (fun (t : Bool) => (Exit.ret, (⟨mkE 27 0 [(2, .dat .bool t)], []⟩ : St)))) := by
  unfold impl_oneRoot_n6
  exact Link.cast (by kernel_rfl) (by kernel_rfl) (link_seq (b := (Code.snd (Code.fst (Code.snd (Code.snd (bodyOf Try.f26)))))) (y := (Ann.snd (Ann.fst (Ann.snd (Ann.snd impl_oneRoot_an))))) (impl_oneRoot_n2_l x3110) (fun (t : Int) => (impl_oneRoot_n5_l x3110 t)))

theorem impl_oneRoot_n7_l (x3132 : Int) : Link impl_oneRoot_ctx LL (Code.snd (Code.snd (Code.snd (bodyOf Try.f26)))) (Ann.snd (Ann.snd (Ann.snd impl_oneRoot_an))) (⟨mkE 27 0 [(3, .dat (.int .i64) x3132)], []⟩ : St) (impl_oneRoot_n7 x3132) (fun (t : Bool) => (Exit.ret, (⟨mkE 27 0 [(2, .dat .bool t)], []⟩ : St))) := by
  refine Link.of fun K h => ?_
  simp only [impl_oneRoot_n7, wpO_bind, wpO_cond, wpO_map, wpO_some] at h
  exact Awp.of (by kernel_rfl) h

theorem impl_oneRoot_n8_l (x3110 : List Int) : Link impl_oneRoot_ctx LL (Code.snd (Code.snd (bodyOf Try.f26))) (Ann.snd (Ann.snd impl_oneRoot_an)) (⟨mkE 27 0 [(0, .dat (.list (.int .i64)) x3110), (3, .dat (.int .i64) 0)], []⟩ : St) (impl_oneRoot_n8 x3110) (fun (t : Bool) => (Exit.ret, (⟨mkE 27 0 [(2, .dat .bool t)], []⟩ : St))) := by
  unfold impl_oneRoot_n8
  exact Link.cast (by kernel_rfl) (by kernel_rfl) (link_seq2 (b := (Code.snd (Code.snd (Code.snd (bodyOf Try.f26))))) (y := (Ann.snd (Ann.snd (Ann.snd impl_oneRoot_an)))) (impl_oneRoot_n6_l x3110) (fun (t : Int) => (impl_oneRoot_n7_l t)) (fun (t : Bool) => t) (by
  rintro t
  · kernel_rfl) (by
  rintro t f K h
  · exact h))

theorem impl_oneRoot_n9_l (x3110 : List Int) : Link impl_oneRoot_ctx LL (bodyOf Try.f26) impl_oneRoot_an (⟨mkE 27 0 [(0, .dat (.list (.int .i64)) x3110)], []⟩ : St) (impl_oneRoot_n9 x3110) (fun (t : Bool) => (Exit.ret, (⟨mkE 27 0 [(2, .dat .bool t)], []⟩ : St))) := by
  unfold impl_oneRoot_n9
  exact Link.cast (by kernel_rfl) (by kernel_rfl) (link_group (c := (Code.fst (Code.snd (bodyOf Try.f26)))) (a := (Ann.fst (Ann.snd impl_oneRoot_an))) [(Code.fst (bodyOf Try.f26))] [(Ann.fst impl_oneRoot_an)] rfl (link_seq (b := (Code.snd (Code.snd (bodyOf Try.f26)))) (y := (Ann.snd (Ann.snd impl_oneRoot_an))) (impl_oneRoot_n1_l x3110) (fun (t : Unit) => (impl_oneRoot_n8_l x3110))))

theorem impl_oneRoot_e (x3110 : List Int) {r : AV} {H' : Heap} (h : (Ans.mk _ (impl_oneRoot x3110) (fun (t : Bool) => (.dat .bool t, [])) [] none).run = some (r, H')) : Awp impl_oneRoot_ctx LL (bodyOf Try.f26) impl_oneRoot_an (⟨mkE 27 0 [(0, .dat (.list (.int .i64)) x3110)], []⟩ : St) (Ret (tlook tys) Try.f26.results.toList r H') :=
  ret_of' (impl_oneRoot_n9_l x3110) (by unfold impl_oneRoot; kernel_rfl) (by
  intro t
  exact ret_mk [.dat .bool t] (by kernel_rfl) (by kernel_rfl) (by kernel_rfl) (by kernel_rfl)) h

def F_impl_oneRoot : Fun := fun avs H =>
  match avs, H with
  | [.dat (.list (.int .i64)) x3110], [] => ⟨_, impl_oneRoot x3110, fun (t : Bool) => (.dat .bool t, []), [], none⟩
  | _, _ => Ans.no

theorem impl_oneRoot_sound : Sound Try.prog 26 F_impl_oneRoot := by
  refine fn_sound' (C := impl_oneRoot_ctx) (c := bodyOf Try.f26) (cok_of tys_ok (by simp) (by simp) (by kernel_rfl)) Try.func26 (by kernel_rfl) LL impl_oneRoot_an ?_
  intro avs H r H' h
  unfold F_impl_oneRoot at h
  split at h
  · refine Awp.cast ?_ ?_ ?_ (impl_oneRoot_e _ h) <;> kernel_rfl
  · simp [Ans.no, Ans.run] at h

/-! (*loop.example/headtrees/impl.walker).up -/

def impl_walker_up_an : Ann := (.seq (.leaf [0]) (.seq (.draw [] [0, 1, 2, 3, 4, 5, 6, 7, 8, 9, 10, 11] [] [0, 3]) (.seq (.seq (.leaf [0, 3, 16]) (.cond (.seq (.leaf [2]) (.leaf [2])) (.leaf [0, 3]))) (.seq (.leaf [0]) (.seq (.leaf []) (.seq (.leaf [2]) (.leaf [2])))))))

noncomputable def impl_walker_up_ctx : Ctx := ⟨tlook tys, olook [], ioF, 1, false, []⟩

theorem impl_walker_up_n1_l (x3166 : List Int) (x3167 : Int) (x3168 : Int) : Link impl_walker_up_ctx LL (bodyOf Try.f32) impl_walker_up_an (⟨mkE 28 0 [(0, .ptr 0 0)], [some (.box [.dat (.list (.int .i64)) x3166, .dat (.int .i64) x3167, .dat (.int .i64) x3168])]⟩ : St) (impl_walker_up_n1 x3166 x3167 x3168) (fun (t : Bool × Int × Int) => (Exit.ret, (⟨mkE 28 0 [(2, .dat .bool t.1)], [some (.box [.dat (.list (.int .i64)) x3166, .dat (.int .i64) t.2.1, .dat (.int .i64) t.2.2])]⟩ : St))) := by
  refine Link.of fun K h => ?_
  simp only [impl_walker_up_n1, wpO_bind, wpO_cond, wpO_map, wpO_some] at h
  exact Awp.of (by kernel_rfl) h

theorem impl_walker_up_e (x3166 : List Int) (x3167 : Int) (x3168 : Int) {r : AV} {H' : Heap} (h : (Ans.mk _ (impl_walker_up x3166 x3167 x3168) (fun (t : Bool × Int × Int) => (.dat .bool t.1, [some (.box [.dat (.list (.int .i64)) x3166, .dat (.int .i64) t.2.1, .dat (.int .i64) t.2.2])])) [] none).run = some (r, H')) : Awp impl_walker_up_ctx LL (bodyOf Try.f32) impl_walker_up_an (⟨mkE 28 0 [(0, .ptr 0 0)], [some (.box [.dat (.list (.int .i64)) x3166, .dat (.int .i64) x3167, .dat (.int .i64) x3168])]⟩ : St) (Ret (tlook tys) Try.f32.results.toList r H') :=
  ret_of' (impl_walker_up_n1_l x3166 x3167 x3168) (by unfold impl_walker_up; kernel_rfl) (by
  intro t
  exact ret_mk [.dat .bool t.1] (by kernel_rfl) (by kernel_rfl) (by kernel_rfl) (by kernel_rfl)) h

def F_impl_walker_up : Fun := fun avs H =>
  match avs, H with
  | [.ptr 0 0], [some (.box [.dat (.list (.int .i64)) x3166, .dat (.int .i64) x3167, .dat (.int .i64) x3168])] => ⟨_, impl_walker_up x3166 x3167 x3168, fun (t : Bool × Int × Int) => (.dat .bool t.1, [some (.box [.dat (.list (.int .i64)) x3166, .dat (.int .i64) t.2.1, .dat (.int .i64) t.2.2])]), [], none⟩
  | _, _ => Ans.no

theorem impl_walker_up_sound : Sound Try.prog 32 F_impl_walker_up := by
  refine fn_sound' (C := impl_walker_up_ctx) (c := bodyOf Try.f32) (cok_of tys_ok (by simp) (by simp) (by kernel_rfl)) Try.func32 (by kernel_rfl) LL impl_walker_up_an ?_
  intro avs H r H' h
  unfold F_impl_walker_up at h
  split at h
  · refine Awp.cast ?_ ?_ ?_ (impl_walker_up_e _ _ _ h) <;> kernel_rfl
  · simp [Ans.no, Ans.run] at h

/-! loop.example/headtrees/impl.stepsToRoot -/

def impl_stepsToRoot_an : Ann := (.seq (.leaf [0, 1]) (.seq (.leaf [0, 6]) (.seq (.block (.loop (.seq (.seq (.leaf [0, 6, 10]) (.cond (.leaf [0, 6]) (.leaf [6]))) (.block (.seq (.leaf [0, 6, 15]) (.cond (.seq (.leaf [4, 5]) (.leaf [4, 5])) (.leaf [0, 6]))))))) (.seq (.leaf [4, 5]) (.leaf [4, 5])))))

noncomputable def impl_stepsToRoot_ctx : Ctx := ⟨tlook tys, olook [(32, F_impl_walker_up)], ioF, 0, false, []⟩

theorem impl_stepsToRoot_n1_l (x3164 : List Int) (x3165 : Int) : Link impl_stepsToRoot_ctx LL (Code.seq (Code.fst (bodyOf Try.f27)) (Code.fst (Code.snd (bodyOf Try.f27)))) (Ann.seq (Ann.fst impl_stepsToRoot_an) (Ann.fst (Ann.snd impl_stepsToRoot_an))) (⟨mkE 18 0 [(0, .dat (.list (.int .i64)) x3164), (1, .dat (.int .i64) x3165)], []⟩ : St) (impl_stepsToRoot_n1) (fun (t : Unit) => (Exit.normal, (⟨mkE 18 0 [(0, .dat (.list (.int .i64)) x3164), (6, .ptr 0 0)], [some (.box [.dat (.list (.int .i64)) x3164, .dat (.int .i64) x3165, .dat (.int .i64) 0])]⟩ : St))) := by
  refine Link.of fun K h => ?_
  simp only [impl_stepsToRoot_n1, wpO_bind, wpO_cond, wpO_map, wpO_some] at h
  exact Awp.of (by kernel_rfl) h

theorem impl_stepsToRoot_n2_l (x3164 : List Int) (x3202 : Int) (x3203 : Int) : Link impl_stepsToRoot_ctx LL (Code.fst (Code.fst (Code.fst (Code.snd (Code.snd (bodyOf Try.f27)))))) (Ann.fst (Ann.fst (Ann.fst (Ann.snd (Ann.snd impl_stepsToRoot_an))))) (⟨mkE 18 0 [(0, .dat (.list (.int .i64)) x3164), (6, .ptr 0 0)], [some (.box [.dat (.list (.int .i64)) x3164, .dat (.int .i64) x3202, .dat (.int .i64) x3203])]⟩ : St) (impl_stepsToRoot_n2 x3164 x3202 x3203) (Sum.elim (fun (t : Int × Int) => (Exit.normal, (⟨mkE 18 0 [(0, .dat (.list (.int .i64)) x3164), (6, .ptr 0 0)], [some (.box [.dat (.list (.int .i64)) x3164, .dat (.int .i64) t.1, .dat (.int .i64) t.2])]⟩ : St))) (Sum.elim (fun (t : Int × Bool) => (Exit.ret, (⟨mkE 18 0 [(4, .dat (.int .i64) t.1), (5, .dat .bool t.2)], []⟩ : St))) (fun (t : Int × Int) => ((Exit.exit 0), (⟨mkE 18 0 [(6, .ptr 0 0)], [some (.box [.dat (.list (.int .i64)) x3164, .dat (.int .i64) t.1, .dat (.int .i64) t.2])]⟩ : St))))) := by
  refine Link.of fun K h => ?_
  simp only [impl_stepsToRoot_n2, wpO_bind, wpO_cond, wpO_map, wpO_some] at h
  exact Awp.of (by kernel_rfl) h

theorem impl_stepsToRoot_n3_l (x3164 : List Int) (x3165 : Int) : Link impl_stepsToRoot_ctx LL (Code.fst (Code.fst (Code.snd (Code.snd (bodyOf Try.f27))))) (Ann.fst (Ann.fst (Ann.snd (Ann.snd impl_stepsToRoot_an)))) (⟨mkE 18 0 [(0, .dat (.list (.int .i64)) x3164), (6, .ptr 0 0)], [some (.box [.dat (.list (.int .i64)) x3164, .dat (.int .i64) x3165, .dat (.int .i64) 0])]⟩ : St) (impl_stepsToRoot_n3 x3164 x3165) (Sum.elim (fun (t : Int × Bool) => (Exit.ret, (⟨mkE 18 0 [(4, .dat (.int .i64) t.1), (5, .dat .bool t.2)], []⟩ : St))) (fun (t : Int × Int) => ((Exit.exit 0), (⟨mkE 18 0 [(6, .ptr 0 0)], [some (.box [.dat (.list (.int .i64)) x3164, .dat (.int .i64) t.1, .dat (.int .i64) t.2])]⟩ : St)))) := by
  unfold impl_stepsToRoot_n3
  exact Link.cast (by kernel_rfl) (by kernel_rfl) (link_loop (mk := fun (s : Int × Int) => (⟨mkE 18 0 [(0, .dat (.list (.int .i64)) x3164), (6, .ptr 0 0)], [some (.box [.dat (.list (.int .i64)) x3164, .dat (.int .i64) s.1, .dat (.int .i64) s.2])]⟩ : St)) (fin := (Sum.elim (fun (t : Int × Bool) => (Exit.ret, (⟨mkE 18 0 [(4, .dat (.int .i64) t.1), (5, .dat .bool t.2)], []⟩ : St))) (fun (t : Int × Int) => ((Exit.exit 0), (⟨mkE 18 0 [(6, .ptr 0 0)], [some (.box [.dat (.list (.int .i64)) x3164, .dat (.int .i64) t.1, .dat (.int .i64) t.2])]⟩ : St))))) (by
  rintro (t | t) f K h
  · exact h
  · exact h) (fun s => link_map (impl_stepsToRoot_n2_l x3164 s.1 s.2) (Sum.elim (fun (t : Int × Int) => Sum.inl (t.1, t.2)) (Sum.elim (fun (t : Int × Bool) => Sum.inr (Sum.inl t)) (fun (t : Int × Int) => Sum.inr (Sum.inr t)))) (by
  rintro (t | t | t)
  · kernel_rfl
  · kernel_rfl
  · kernel_rfl)) (x3165, 0))

theorem impl_stepsToRoot_n4_l (x3164 : List Int) (x3165 : Int) : Link impl_stepsToRoot_ctx LL (Code.fst (Code.snd (Code.snd (bodyOf Try.f27)))) (Ann.fst (Ann.snd (Ann.snd impl_stepsToRoot_an))) (⟨mkE 18 0 [(0, .dat (.list (.int .i64)) x3164), (6, .ptr 0 0)], [some (.box [.dat (.list (.int .i64)) x3164, .dat (.int .i64) x3165, .dat (.int .i64) 0])]⟩ : St) (impl_stepsToRoot_n4 x3164 x3165) (Sum.elim (fun (t : Int × Int) => (Exit.normal, (⟨mkE 18 0 [(6, .ptr 0 0)], [some (.box [.dat (.list (.int .i64)) x3164, .dat (.int .i64) t.1, .dat (.int .i64) t.2])]⟩ : St))) (fun (t : Int × Bool) => (Exit.ret, (⟨mkE 18 0 [(4, .dat (.int .i64) t.1), (5, .dat .bool t.2)], []⟩ : St)))) := by
  unfold impl_stepsToRoot_n4
  exact Link.cast (by kernel_rfl) (by kernel_rfl) (link_block (id := 0) (impl_stepsToRoot_n3_l x3164 x3165) (Sum.elim (fun (t : Int × Bool) => (Sum.inr t)) (fun (t : Int × Int) => (Sum.inl (t.1, t.2)))) (by
  rintro (t | t) K h
  · exact Eq.mp (by kernel_rfl) h
  · exact Eq.mp (by kernel_rfl) h))

theorem impl_stepsToRoot_n5_l (x3164 : List Int) (x3210 : Int) (x3211 : Int) : Link impl_stepsToRoot_ctx LL (Code.snd (Code.snd (Code.snd (bodyOf Try.f27)))) (Ann.snd (Ann.snd (Ann.snd impl_stepsToRoot_an))) (⟨mkE 18 0 [(6, .ptr 0 0)], [some (.box [.dat (.list (.int .i64)) x3164, .dat (.int .i64) x3210, .dat (.int .i64) x3211])]⟩ : St) (impl_stepsToRoot_n5 x3211) (fun (t : Int × Bool) => (Exit.ret, (⟨mkE 18 0 [(4, .dat (.int .i64) t.1), (5, .dat .bool t.2)], []⟩ : St))) := by
  refine Link.of fun K h => ?_
  simp only [impl_stepsToRoot_n5, wpO_bind, wpO_cond, wpO_map, wpO_some] at h
  exact Awp.of (by kernel_rfl) h

theorem impl_stepsToRoot_n6_l (x3164 : List Int) (x3165 : Int) : Link impl_stepsToRoot_ctx LL (Code.snd (Code.snd (bodyOf Try.f27))) (Ann.snd (Ann.snd impl_stepsToRoot_an)) (⟨mkE 18 0 [(0, .dat (.list (.int .i64)) x3164), (6, .ptr 0 0)], [some (.box [.dat (.list (.int .i64)) x3164, .dat (.int .i64) x3165, .dat (.int .i64) 0])]⟩ : St) (impl_stepsToRoot_n6 x3164 x3165) (fun (t : Int × Bool) => (Exit.ret, (⟨mkE 18 0 [(4, .dat (.int .i64) t.1), (5, .dat .bool t.2)], []⟩ : St))) := by
  unfold impl_stepsToRoot_n6
  exact Link.cast (by kernel_rfl) (by kernel_rfl) (link_seq2 (b := (Code.snd (Code.snd (Code.snd (bodyOf Try.f27))))) (y := (Ann.snd (Ann.snd (Ann.snd impl_stepsToRoot_an)))) (impl_stepsToRoot_n4_l x3164 x3165) (fun (t : Int × Int) => (impl_stepsToRoot_n5_l x3164 t.1 t.2)) (fun (t : Int × Bool) => t) (by
  rintro t
  · kernel_rfl) (by
  rintro t f K h
  · exact h))

theorem impl_stepsToRoot_n7_l (x3164 : List Int) (x3165 : Int) : Link impl_stepsToRoot_ctx LL (bodyOf Try.f27) impl_stepsToRoot_an (⟨mkE 18 0 [(0, .dat (.list (.int .i64)) x3164), (1, .dat (.int .i64) x3165)], []⟩ : St) (impl_stepsToRoot_n7 x3164 x3165) (fun (t : Int × Bool) => (Exit.ret, (⟨mkE 18 0 [(4, .dat (.int .i64) t.1), (5, .dat .bool t.2)], []⟩ : St))) := by
  unfold impl_stepsToRoot_n7
  exact Link.cast (by kernel_rfl) (by kernel_rfl) (link_group (c := (Code.fst (Code.snd (bodyOf Try.f27)))) (a := (Ann.fst (Ann.snd impl_stepsToRoot_an))) [(Code.fst (bodyOf Try.f27))] [(Ann.fst impl_stepsToRoot_an)] rfl (link_seq (b := (Code.snd (Code.snd (bodyOf Try.f27)))) (y := (Ann.snd (Ann.snd impl_stepsToRoot_an))) (impl_stepsToRoot_n1_l x3164 x3165) (fun (t : Unit) => (impl_stepsToRoot_n6_l x3164 x3165))))

theorem impl_stepsToRoot_e (x3164 : List Int) (x3165 : Int) {r : AV} {H' : Heap} (h : (Ans.mk _ (impl_stepsToRoot x3164 x3165) (fun (t : Int × Bool) => (.tup [.dat (.int .i64) t.1, .dat .bool t.2], [])) [] none).run = some (r, H')) : Awp impl_stepsToRoot_ctx LL (bodyOf Try.f27) impl_stepsToRoot_an (⟨mkE 18 0 [(0, .dat (.list (.int .i64)) x3164), (1, .dat (.int .i64) x3165)], []⟩ : St) (Ret (tlook tys) Try.f27.results.toList r H') :=
  ret_of' (impl_stepsToRoot_n7_l x3164 x3165) (by unfold impl_stepsToRoot; kernel_rfl) (by
  intro t
  exact ret_mk [.dat (.int .i64) t.1, .dat .bool t.2] (by kernel_rfl) (by kernel_rfl) (by kernel_rfl) (by kernel_rfl)) h

def F_impl_stepsToRoot : Fun := fun avs H =>
  match avs, H with
  | [.dat (.list (.int .i64)) x3164, .dat (.int .i64) x3165], [] => ⟨_, impl_stepsToRoot x3164 x3165, fun (t : Int × Bool) => (.tup [.dat (.int .i64) t.1, .dat .bool t.2], []), [], none⟩
  | _, _ => Ans.no

theorem impl_stepsToRoot_sound : Sound Try.prog 27 F_impl_stepsToRoot := by
  refine fn_sound' (C := impl_stepsToRoot_ctx) (c := bodyOf Try.f27) (cok_of tys_ok (List.forall_mem_cons.2 ⟨impl_walker_up_sound, by simp⟩) (List.forall_mem_cons.2 ⟨Try.call32, by simp⟩) (by kernel_rfl)) Try.func27 (by kernel_rfl) LL impl_stepsToRoot_an ?_
  intro avs H r H' h
  unfold F_impl_stepsToRoot at h
  split at h
  · refine Awp.cast ?_ ?_ ?_ (impl_stepsToRoot_e _ _ h) <;> kernel_rfl
  · simp [Ans.no, Ans.run] at h

/-! loop.example/headtrees/impl.TreeOk -/

def impl_TreeOk_an : Ann := (.seq (.leaf [0]) (.seq (.seq (.leaf [0, 18]) (.cond (.seq (.leaf [2]) (.leaf [2])) (.leaf [0]))) (.seq (.seq (.leaf [0, 20, 21]) (.block (.loop (.seq (.leaf [0, 20, 21, 22]) (.seq (.cond (.leaf [0, 20, 21]) (.leaf [])) (.seq (.block (.seq (.leaf [0, 3, 20, 21]) (.seq (.leaf [0, 5, 20, 21]) (.seq (.leaf [0, 20, 21, 32]) (.cond (.seq (.leaf [2]) (.leaf [2])) (.leaf [0, 20, 21])))))) (.leaf [0, 20, 21]))))))) (.seq (.leaf [2]) (.leaf [2])))))

noncomputable def impl_TreeOk_ctx : Ctx := ⟨tlook tys, olook [(26, F_impl_oneRoot), (27, F_impl_stepsToRoot)], ioF, 0, false, []⟩

theorem impl_TreeOk_n1_l (x3105 : List Int) : Link impl_TreeOk_ctx LL (Code.seq (Code.fst (bodyOf Try.f17)) (Code.fst (Code.snd (bodyOf Try.f17)))) (Ann.seq (Ann.fst impl_TreeOk_an) (Ann.fst (Ann.snd impl_TreeOk_an))) (⟨mkE 34 0 [(0, .dat (.list (.int .i64)) x3105)], []⟩ : St) (impl_TreeOk_n1 x3105) (Sum.elim (fun (t : Unit) => (Exit.normal, (⟨mkE 34 0 [(0, .dat (.list (.int .i64)) x3105)], []⟩ : St))) (fun (t : Bool) => (Exit.ret, (⟨mkE 34 0 [(2, .dat .bool t)], []⟩ : St)))) := by
  refine Link.of fun K h => ?_
  simp only [impl_TreeOk_n1, wpO_bind, wpO_cond, wpO_map, wpO_some] at h
  exact Awp.of (by kernel_rfl) h

theorem impl_TreeOk_n2_l (x3105 : List Int) : Link impl_TreeOk_ctx LL (Code.fst (Code.fst (Code.snd (Code.snd (bodyOf Try.f17))))) (Ann.fst (Ann.fst (Ann.snd (Ann.snd impl_TreeOk_an)))) (⟨mkE 34 0 [(0, .dat (.list (.int .i64)) x3105)], []⟩ : St) (impl_TreeOk_n2 x3105) (fun (t : Int) => (Exit.normal, (⟨mkE 34 0 [(0, .dat (.list (.int .i64)) x3105), (20, .dat (.int .i64) t), (21, .dat (.int .i64) 0)], []⟩ : St))) := by
  refine Link.of fun K h => ?_
  simp only [impl_TreeOk_n2, wpO_bind, wpO_cond, wpO_map, wpO_some] at h
  exact Awp.of (by kernel_rfl) h

theorem impl_TreeOk_n3_l (x3105 : List Int) (x3159 : Int) (x3227 : Int) : Link impl_TreeOk_ctx LL (Code.fst (Code.fst (Code.snd (Code.fst (Code.snd (Code.snd (bodyOf Try.f17))))))) (Ann.fst (Ann.fst (Ann.snd (Ann.fst (Ann.snd (Ann.snd impl_TreeOk_an)))))) (⟨mkE 34 0 [(0, .dat (.list (.int .i64)) x3105), (20, .dat (.int .i64) x3159), (21, .dat (.int .i64) x3227)], []⟩ : St) (impl_TreeOk_n3 x3105 x3159 x3227) (Sum.elim (fun (t : Int) => (Exit.normal, (⟨mkE 34 0 [(0, .dat (.list (.int .i64)) x3105), (20, .dat (.int .i64) x3159), (21, .dat (.int .i64) t)], []⟩ : St))) (Sum.elim (fun (t : Bool) => (Exit.ret, (⟨mkE 34 0 [(2, .dat .bool t)], []⟩ : St))) (fun (t : Unit) => ((Exit.exit 0), (⟨mkE 34 0 [], []⟩ : St))))) := by
  refine Link.of fun K h => ?_
  simp only [impl_TreeOk_n3, wpO_bind, wpO_cond, wpO_map, wpO_some] at h
  exact Awp.of (by kernel_rfl) h

theorem impl_TreeOk_n4_l (x3105 : List Int) (x3159 : Int) : Link impl_TreeOk_ctx LL (Code.fst (Code.snd (Code.fst (Code.snd (Code.snd (bodyOf Try.f17)))))) (Ann.fst (Ann.snd (Ann.fst (Ann.snd (Ann.snd impl_TreeOk_an))))) (⟨mkE 34 0 [(0, .dat (.list (.int .i64)) x3105), (20, .dat (.int .i64) x3159), (21, .dat (.int .i64) 0)], []⟩ : St) (impl_TreeOk_n4 x3105 x3159) (Sum.elim (fun (t : Bool) => (Exit.ret, (⟨mkE 34 0 [(2, .dat .bool t)], []⟩ : St))) (fun (t : Unit) => ((Exit.exit 0), (⟨mkE 34 0 [], []⟩ : St)))) := by
  unfold impl_TreeOk_n4
  exact Link.cast (by kernel_rfl) (by kernel_rfl) (link_loop (mk := fun (s : Int) => (⟨mkE 34 0 [(0, .dat (.list (.int .i64)) x3105), (20, .dat (.int .i64) x3159), (21, .dat (.int .i64) s)], []⟩ : St)) (fin := (Sum.elim (fun (t : Bool) => (Exit.ret, (⟨mkE 34 0 [(2, .dat .bool t)], []⟩ : St))) (fun (t : Unit) => ((Exit.exit 0), (⟨mkE 34 0 [], []⟩ : St))))) (by
  rintro (t | t) f K h
  · exact h
  · exact h) (fun s => link_map (impl_TreeOk_n3_l x3105 x3159 s) (Sum.elim (fun (t : Int) => Sum.inl t) (Sum.elim (fun (t : Bool) => Sum.inr (Sum.inl t)) (fun (t : Unit) => Sum.inr (Sum.inr t)))) (by
  rintro (t | t | t)
  · kernel_rfl
  · kernel_rfl
  · kernel_rfl)) 0)

theorem impl_TreeOk_n5_l (x3105 : List Int) (x3159 : Int) : Link impl_TreeOk_ctx LL (Code.snd (Code.fst (Code.snd (Code.snd (bodyOf Try.f17))))) (Ann.snd (Ann.fst (Ann.snd (Ann.snd impl_TreeOk_an)))) (⟨mkE 34 0 [(0, .dat (.list (.int .i64)) x3105), (20, .dat (.int .i64) x3159), (21, .dat (.int .i64) 0)], []⟩ : St) (impl_TreeOk_n5 x3105 x3159) (Sum.elim (fun (t : Unit) => (Exit.normal, (⟨mkE 34 0 [], []⟩ : St))) (fun (t : Bool) => (Exit.ret, (⟨mkE 34 0 [(2, .dat .bool t)], []⟩ : St)))) := by
  unfold impl_TreeOk_n5
  exact Link.cast (by kernel_rfl) (by kernel_rfl) (link_block (id := 0) (impl_TreeOk_n4_l x3105 x3159) (Sum.elim (fun (t : Bool) => (Sum.inr t)) (fun (t : Unit) => (Sum.inl ()))) (by
  rintro (t | t) K h
  · exact Eq.mp (by kernel_rfl) h
  · exact Eq.mp (by kernel_rfl) h))

theorem impl_TreeOk_n6_l (x3105 : List Int) : Link impl_TreeOk_ctx LL (Code.fst (Code.snd (Code.snd (bodyOf Try.f17)))) (Ann.fst (Ann.snd (Ann.snd impl_TreeOk_an))) (⟨mkE 34 0 [(0, .dat (.list (.int .i64)) x3105)], []⟩ : St) (impl_TreeOk_n6 x3105) (Sum.elim (fun (t : Unit) => (Exit.normal, (⟨mkE 34 0 [], []⟩ : St))) (fun (t : Bool) => (Exit.ret, (⟨mkE 34 0 [(2, .dat .bool t)], []⟩ : St)))) := by
  unfold impl_TreeOk_n6
  exact Link.cast (by kernel_rfl) (by kernel_rfl) (link_seq (b := (Code.snd (Code.fst (Code.snd (Code.snd (bodyOf Try.f17)))))) (y := (Ann.snd (Ann.fst (Ann.snd (Ann.snd impl_TreeOk_an))))) (impl_TreeOk_n2_l x3105) (fun (t : Int) => (impl_TreeOk_n5_l x3105 t)))

theorem impl_TreeOk_n7_l : Link impl_TreeOk_ctx LL (Code.snd (Code.snd (Code.snd (bodyOf Try.f17)))) (Ann.snd (Ann.snd (Ann.snd impl_TreeOk_an))) (⟨mkE 34 0 [], []⟩ : St) (impl_TreeOk_n7) (fun (t : Bool) => (Exit.ret, (⟨mkE 34 0 [(2, .dat .bool t)], []⟩ : St))) := by
  refine Link.of fun K h => ?_
  simp only [impl_TreeOk_n7, wpO_bind, wpO_cond, wpO_map, wpO_some] at h
  exact Awp.of (by kernel_rfl) h

theorem impl_TreeOk_n8_l (x3105 : List Int) : Link impl_TreeOk_ctx LL (Code.snd (Code.snd (bodyOf Try.f17))) (Ann.snd (Ann.snd impl_TreeOk_an)) (⟨mkE 34 0 [(0, .dat (.list (.int .i64)) x3105)], []⟩ : St) (impl_TreeOk_n8 x3105) (fun (t : Bool) => (Exit.ret, (⟨mkE 34 0 [(2, .dat .bool t)], []⟩ : St))) := by
  unfold impl_TreeOk_n8
  exact Link.cast (by kernel_rfl) (by kernel_rfl) (link_seq2 (b := (Code.snd (Code.snd (Code.snd (bodyOf Try.f17))))) (y := (Ann.snd (Ann.snd (Ann.snd impl_TreeOk_an)))) (impl_TreeOk_n6_l x3105) (fun (t : Unit) => (impl_TreeOk_n7_l)) (fun (t : Bool) => t) (by
  rintro t
  · kernel_rfl) (by
  rintro t f K h
  · exact h))

theorem impl_TreeOk_n9_l (x3105 : List Int) : Link impl_TreeOk_ctx LL (bodyOf Try.f17) impl_TreeOk_an (⟨mkE 34 0 [(0, .dat (.list (.int .i64)) x3105)], []⟩ : St) (impl_TreeOk_n9 x3105) (fun (t : Bool) => (Exit.ret, (⟨mkE 34 0 [(2, .dat .bool t)], []⟩ : St))) := by
  unfold impl_TreeOk_n9
  exact Link.cast (by kernel_rfl) (by kernel_rfl) (link_group (c := (Code.fst (Code.snd (bodyOf Try.f17)))) (a := (Ann.fst (Ann.snd impl_TreeOk_an))) [(Code.fst (bodyOf Try.f17))] [(Ann.fst impl_TreeOk_an)] rfl (link_seq2 (b := (Code.snd (Code.snd (bodyOf Try.f17)))) (y := (Ann.snd (Ann.snd impl_TreeOk_an))) (impl_TreeOk_n1_l x3105) (fun (t : Unit) => (impl_TreeOk_n8_l x3105)) (fun (t : Bool) => t) (by
  rintro t
  · kernel_rfl) (by
  rintro t f K h
  · exact h)))

theorem impl_TreeOk_e (x3105 : List Int) {r : AV} {H' : Heap} (h : (Ans.mk _ (impl_TreeOk x3105) (fun (t : Bool) => (.dat .bool t, [])) [] none).run = some (r, H')) : Awp impl_TreeOk_ctx LL (bodyOf Try.f17) impl_TreeOk_an (⟨mkE 34 0 [(0, .dat (.list (.int .i64)) x3105)], []⟩ : St) (Ret (tlook tys) Try.f17.results.toList r H') :=
  ret_of' (impl_TreeOk_n9_l x3105) (by unfold impl_TreeOk; kernel_rfl) (by
  intro t
  exact ret_mk [.dat .bool t] (by kernel_rfl) (by kernel_rfl) (by kernel_rfl) (by kernel_rfl)) h

def F_impl_TreeOk : Fun := fun avs H =>
  match avs, H with
  | [.dat (.list (.int .i64)) x3105], [] => ⟨_, impl_TreeOk x3105, fun (t : Bool) => (.dat .bool t, []), [], none⟩
  | _, _ => Ans.no

theorem impl_TreeOk_sound : Sound Try.prog 17 F_impl_TreeOk := by
  refine fn_sound' (C := impl_TreeOk_ctx) (c := bodyOf Try.f17) (cok_of tys_ok (List.forall_mem_cons.2 ⟨impl_oneRoot_sound, List.forall_mem_cons.2 ⟨impl_stepsToRoot_sound, by simp⟩⟩) (List.forall_mem_cons.2 ⟨Try.call26, List.forall_mem_cons.2 ⟨Try.call27, by simp⟩⟩) (by kernel_rfl)) Try.func17 (by kernel_rfl) LL impl_TreeOk_an ?_
  intro avs H r H' h
  unfold F_impl_TreeOk at h
  split at h
  · refine Awp.cast ?_ ?_ ?_ (impl_TreeOk_e _ h) <;> kernel_rfl
  · simp [Ans.no, Ans.run] at h

/-! loop.example/headtrees/laws.alive -/

def laws_alive_an : Ann := (.seq (.leaf []) (.seq (.leaf [0]) (.leaf [0])))

noncomputable def laws_alive_ctx : Ctx := ⟨tlook tys, olook [(17, F_impl_TreeOk)], ioF, 0, false, []⟩

theorem laws_alive_n1_l : Link laws_alive_ctx LL (bodyOf Try.f9) laws_alive_an (⟨mkE 8 0 [], []⟩ : St) (laws_alive_n1) (fun (t : Bool) => (Exit.ret, (⟨mkE 8 0 [(0, .dat .bool t)], []⟩ : St))) := by
  refine Link.of fun K h => ?_
  simp only [laws_alive_n1, wpO_bind, wpO_cond, wpO_map, wpO_some] at h
  exact Awp.of (by kernel_rfl) h

theorem laws_alive_e {r : AV} {H' : Heap} (h : (Ans.mk _ (laws_alive) (fun (t : Bool) => (.dat .bool t, [])) [] none).run = some (r, H')) : Awp laws_alive_ctx LL (bodyOf Try.f9) laws_alive_an (⟨mkE 8 0 [], []⟩ : St) (Ret (tlook tys) Try.f9.results.toList r H') :=
  ret_of' (laws_alive_n1_l) (by unfold laws_alive; kernel_rfl) (by
  intro t
  exact ret_mk [.dat .bool t] (by kernel_rfl) (by kernel_rfl) (by kernel_rfl) (by kernel_rfl)) h

def F_laws_alive : Fun := fun avs H =>
  match avs, H with
  | [], [] => ⟨_, laws_alive, fun (t : Bool) => (.dat .bool t, []), [], none⟩
  | _, _ => Ans.no

theorem laws_alive_sound : Sound Try.prog 9 F_laws_alive := by
  refine fn_sound' (C := laws_alive_ctx) (c := bodyOf Try.f9) (cok_of tys_ok (List.forall_mem_cons.2 ⟨impl_TreeOk_sound, by simp⟩) (List.forall_mem_cons.2 ⟨Try.call17, by simp⟩) (by kernel_rfl)) Try.func9 (by kernel_rfl) LL laws_alive_an ?_
  intro avs H r H' h
  unfold F_laws_alive at h
  split at h
  · refine Awp.cast ?_ ?_ ?_ (laws_alive_e h) <;> kernel_rfl
  · simp [Ans.no, Ans.run] at h

/-! loop.example/headtrees/laws.FnDeepestStack -/

def laws_FnDeepestStack_an : Ann := (.seq (.leaf [0]) (.seq (.seq (.leaf [0, 9]) (.cond (.seq (.leaf [2]) (.leaf [2])) (.leaf [0]))) (.seq (.leaf [3, 4]) (.seq (.leaf [3, 4, 5]) (.seq (.seq (.leaf [3, 4, 5, 22]) (.cond (.seq (.leaf [2]) (.leaf [2])) (.leaf [3, 4, 5]))) (.seq (.seq (.leaf [3, 4, 5, 24]) (.cond (.seq (.leaf [2]) (.leaf [2])) (.leaf [3, 4, 5]))) (.seq (.leaf [3, 4, 5, 6]) (.seq (.block (.loop (.seq (.seq (.leaf [3, 4, 5, 6, 39]) (.cond (.leaf [3, 4, 5, 6]) (.leaf [3, 5, 6]))) (.block (.leaf [3, 4, 5, 6]))))) (.seq (.leaf [2]) (.leaf [2]))))))))))

noncomputable def laws_FnDeepestStack_ctx : Ctx := ⟨tlook tys, olook [(6, F_spec_DrawDeepestStack), (7, F_impl_DeepestStack), (8, F_spec_DeepestStack), (9, F_laws_alive)], ioF, 0, false, []⟩

theorem laws_FnDeepestStack_n1_l (x2 : List Int) : Link laws_FnDeepestStack_ctx LL (Code.seq (Code.fst (bodyOf Try.f3)) (Code.seq (Code.fst (Code.snd (bodyOf Try.f3))) (Code.seq (Code.fst (Code.snd (Code.snd (bodyOf Try.f3)))) (Code.seq (Code.fst (Code.snd (Code.snd (Code.snd (bodyOf Try.f3))))) (Code.seq (Code.fst (Code.snd (Code.snd (Code.snd (Code.snd (bodyOf Try.f3)))))) (Code.seq (Code.fst (Code.snd (Code.snd (Code.snd (Code.snd (Code.snd (bodyOf Try.f3))))))) (Code.fst (Code.snd (Code.snd (Code.snd (Code.snd (Code.snd (Code.snd (bodyOf Try.f3)))))))))))))) (Ann.seq (Ann.fst laws_FnDeepestStack_an) (Ann.seq (Ann.fst (Ann.snd laws_FnDeepestStack_an)) (Ann.seq (Ann.fst (Ann.snd (Ann.snd laws_FnDeepestStack_an))) (Ann.seq (Ann.fst (Ann.snd (Ann.snd (Ann.snd laws_FnDeepestStack_an)))) (Ann.seq (Ann.fst (Ann.snd (Ann.snd (Ann.snd (Ann.snd laws_FnDeepestStack_an))))) (Ann.seq (Ann.fst (Ann.snd (Ann.snd (Ann.snd (Ann.snd (Ann.snd laws_FnDeepestStack_an)))))) (Ann.fst (Ann.snd (Ann.snd (Ann.snd (Ann.snd (Ann.snd (Ann.snd laws_FnDeepestStack_an))))))))))))) (⟨mkE 66 0 [(0, .dat (.list (.int .u8)) x2)], []⟩ : St) (laws_FnDeepestStack_n1 x2) (Sum.elim (fun (t : Int × ByteArray × Int) => (Exit.normal, (⟨mkE 66 0 [(3, .dat (.int .i64) t.1), (4, .dat .str t.2.1), (5, .dat (.int .i64) t.2.2), (6, .dat (.int .i64) 0)], []⟩ : St))) (fun (t : Bool) => (Exit.ret, (⟨mkE 66 0 [(2, .dat .bool t)], []⟩ : St)))) := by
  refine Link.of fun K h => ?_
  simp only [laws_FnDeepestStack_n1, wpO_bind, wpO_cond, wpO_map, wpO_some] at h
  exact Awp.of (by kernel_rfl) h

theorem laws_FnDeepestStack_n2_l (x3258 : Int) (x3259 : ByteArray) (x3260 : Int) (x3275 : Int) : Link laws_FnDeepestStack_ctx LL (Code.fst (Code.fst (Code.fst (Code.snd (Code.snd (Code.snd (Code.snd (Code.snd (Code.snd (Code.snd (bodyOf Try.f3))))))))))) (Ann.fst (Ann.fst (Ann.fst (Ann.snd (Ann.snd (Ann.snd (Ann.snd (Ann.snd (Ann.snd (Ann.snd laws_FnDeepestStack_an)))))))))) (⟨mkE 66 0 [(3, .dat (.int .i64) x3258), (4, .dat .str x3259), (5, .dat (.int .i64) x3260), (6, .dat (.int .i64) x3275)], []⟩ : St) (laws_FnDeepestStack_n2 x3259 x3275) (Sum.elim (fun (t : Int) => (Exit.normal, (⟨mkE 66 0 [(3, .dat (.int .i64) x3258), (4, .dat .str x3259), (5, .dat (.int .i64) x3260), (6, .dat (.int .i64) t)], []⟩ : St))) (fun (t : Int) => ((Exit.exit 0), (⟨mkE 66 0 [(3, .dat (.int .i64) x3258), (5, .dat (.int .i64) x3260), (6, .dat (.int .i64) t)], []⟩ : St)))) := by
  refine Link.of fun K h => ?_
  simp only [laws_FnDeepestStack_n2, wpO_bind, wpO_cond, wpO_map, wpO_some] at h
  exact Awp.of (by kernel_rfl) h

theorem laws_FnDeepestStack_n3_l (x3258 : Int) (x3259 : ByteArray) (x3260 : Int) : Link laws_FnDeepestStack_ctx LL (Code.fst (Code.fst (Code.snd (Code.snd (Code.snd (Code.snd (Code.snd (Code.snd (Code.snd (bodyOf Try.f3)))))))))) (Ann.fst (Ann.fst (Ann.snd (Ann.snd (Ann.snd (Ann.snd (Ann.snd (Ann.snd (Ann.snd laws_FnDeepestStack_an))))))))) (⟨mkE 66 0 [(3, .dat (.int .i64) x3258), (4, .dat .str x3259), (5, .dat (.int .i64) x3260), (6, .dat (.int .i64) 0)], []⟩ : St) (laws_FnDeepestStack_n3 x3259) (fun (t : Int) => ((Exit.exit 0), (⟨mkE 66 0 [(3, .dat (.int .i64) x3258), (5, .dat (.int .i64) x3260), (6, .dat (.int .i64) t)], []⟩ : St))) := by
  unfold laws_FnDeepestStack_n3
  exact Link.cast (by kernel_rfl) (by kernel_rfl) (link_loop (mk := fun (s : Int) => (⟨mkE 66 0 [(3, .dat (.int .i64) x3258), (4, .dat .str x3259), (5, .dat (.int .i64) x3260), (6, .dat (.int .i64) s)], []⟩ : St)) (fin := (fun (t : Int) => ((Exit.exit 0), (⟨mkE 66 0 [(3, .dat (.int .i64) x3258), (5, .dat (.int .i64) x3260), (6, .dat (.int .i64) t)], []⟩ : St)))) (by
  rintro t f K h
  · exact h) (fun s => link_map (laws_FnDeepestStack_n2_l x3258 x3259 x3260 s) (Sum.elim (fun (t : Int) => Sum.inl t) (fun (t : Int) => Sum.inr t)) (by
  rintro (t | t)
  · kernel_rfl
  · kernel_rfl)) 0)

theorem laws_FnDeepestStack_n4_l (x3258 : Int) (x3259 : ByteArray) (x3260 : Int) : Link laws_FnDeepestStack_ctx LL (Code.fst (Code.snd (Code.snd (Code.snd (Code.snd (Code.snd (Code.snd (Code.snd (bodyOf Try.f3))))))))) (Ann.fst (Ann.snd (Ann.snd (Ann.snd (Ann.snd (Ann.snd (Ann.snd (Ann.snd laws_FnDeepestStack_an)))))))) (⟨mkE 66 0 [(3, .dat (.int .i64) x3258), (4, .dat .str x3259), (5, .dat (.int .i64) x3260), (6, .dat (.int .i64) 0)], []⟩ : St) (laws_FnDeepestStack_n4 x3259) (fun (t : Int) => (Exit.normal, (⟨mkE 66 0 [(3, .dat (.int .i64) x3258), (5, .dat (.int .i64) x3260), (6, .dat (.int .i64) t)], []⟩ : St))) := by
  unfold laws_FnDeepestStack_n4
  exact Link.cast (by kernel_rfl) (by kernel_rfl) (link_block (id := 0) (laws_FnDeepestStack_n3_l x3258 x3259 x3260) (fun (t : Int) => t) (by
  rintro t K h
  · exact Eq.mp (by kernel_rfl) h))

theorem laws_FnDeepestStack_n5_l (x3258 : Int) (x3260 : Int) (x3275 : Int) : Link laws_FnDeepestStack_ctx LL (Code.snd (Code.snd (Code.snd (Code.snd (Code.snd (Code.snd (Code.snd (Code.snd (bodyOf Try.f3))))))))) (Ann.snd (Ann.snd (Ann.snd (Ann.snd (Ann.snd (Ann.snd (Ann.snd (Ann.snd laws_FnDeepestStack_an)))))))) (⟨mkE 66 0 [(3, .dat (.int .i64) x3258), (5, .dat (.int .i64) x3260), (6, .dat (.int .i64) x3275)], []⟩ : St) (laws_FnDeepestStack_n5 x3258 x3260 x3275) (fun (t : Bool) => (Exit.ret, (⟨mkE 66 0 [(2, .dat .bool t)], []⟩ : St))) := by
  refine Link.of fun K h => ?_
  simp only [laws_FnDeepestStack_n5, wpO_bind, wpO_cond, wpO_map, wpO_some] at h
  exact Awp.of (by kernel_rfl) h

theorem laws_FnDeepestStack_n6_l (x3258 : Int) (x3259 : ByteArray) (x3260 : Int) : Link laws_FnDeepestStack_ctx LL (Code.snd (Code.snd (Code.snd (Code.snd (Code.snd (Code.snd (Code.snd (bodyOf Try.f3)))))))) (Ann.snd (Ann.snd (Ann.snd (Ann.snd (Ann.snd (Ann.snd (Ann.snd laws_FnDeepestStack_an))))))) (⟨mkE 66 0 [(3, .dat (.int .i64) x3258), (4, .dat .str x3259), (5, .dat (.int .i64) x3260), (6, .dat (.int .i64) 0)], []⟩ : St) (laws_FnDeepestStack_n6 x3258 x3259 x3260) (fun (t : Bool) => (Exit.ret, (⟨mkE 66 0 [(2, .dat .bool t)], []⟩ : St))) := by
  unfold laws_FnDeepestStack_n6
  exact Link.cast (by kernel_rfl) (by kernel_rfl) (link_seq (b := (Code.snd (Code.snd (Code.snd (Code.snd (Code.snd (Code.snd (Code.snd (Code.snd (bodyOf Try.f3)))))))))) (y := (Ann.snd (Ann.snd (Ann.snd (Ann.snd (Ann.snd (Ann.snd (Ann.snd (Ann.snd laws_FnDeepestStack_an))))))))) (laws_FnDeepestStack_n4_l x3258 x3259 x3260) (fun (t : Int) => (laws_FnDeepestStack_n5_l x3258 x3260 t)))

theorem laws_FnDeepestStack_n7_l (x2 : List Int) : Link laws_FnDeepestStack_ctx LL (bodyOf Try.f3) laws_FnDeepestStack_an (⟨mkE 66 0 [(0, .dat (.list (.int .u8)) x2)], []⟩ : St) (laws_FnDeepestStack_n7 x2) (fun (t : Bool) => (Exit.ret, (⟨mkE 66 0 [(2, .dat .bool t)], []⟩ : St))) := by
  unfold laws_FnDeepestStack_n7
  exact Link.cast (by kernel_rfl) (by kernel_rfl) (link_group (c := (Code.fst (Code.snd (Code.snd (Code.snd (Code.snd (Code.snd (Code.snd (bodyOf Try.f3))))))))) (a := (Ann.fst (Ann.snd (Ann.snd (Ann.snd (Ann.snd (Ann.snd (Ann.snd laws_FnDeepestStack_an)))))))) [(Code.fst (bodyOf Try.f3)), (Code.fst (Code.snd (bodyOf Try.f3))), (Code.fst (Code.snd (Code.snd (bodyOf Try.f3)))), (Code.fst (Code.snd (Code.snd (Code.snd (bodyOf Try.f3))))), (Code.fst (Code.snd (Code.snd (Code.snd (Code.snd (bodyOf Try.f3)))))), (Code.fst (Code.snd (Code.snd (Code.snd (Code.snd (Code.snd (bodyOf Try.f3)))))))] [(Ann.fst laws_FnDeepestStack_an), (Ann.fst (Ann.snd laws_FnDeepestStack_an)), (Ann.fst (Ann.snd (Ann.snd laws_FnDeepestStack_an))), (Ann.fst (Ann.snd (Ann.snd (Ann.snd laws_FnDeepestStack_an)))), (Ann.fst (Ann.snd (Ann.snd (Ann.snd (Ann.snd laws_FnDeepestStack_an))))), (Ann.fst (Ann.snd (Ann.snd (Ann.snd (Ann.snd (Ann.snd laws_FnDeepestStack_an))))))] rfl (link_seq2 (b := (Code.snd (Code.snd (Code.snd (Code.snd (Code.snd (Code.snd (Code.snd (bodyOf Try.f3))))))))) (y := (Ann.snd (Ann.snd (Ann.snd (Ann.snd (Ann.snd (Ann.snd (Ann.snd laws_FnDeepestStack_an)))))))) (laws_FnDeepestStack_n1_l x2) (fun (t : Int × ByteArray × Int) => (laws_FnDeepestStack_n6_l t.1 t.2.1 t.2.2)) (fun (t : Bool) => t) (by
  rintro t
  · kernel_rfl) (by
  rintro t f K h
  · exact h)))

theorem laws_FnDeepestStack_e (x2 : List Int) {r : AV} {H' : Heap} (h : (Ans.mk _ (laws_FnDeepestStack x2) (fun (t : Bool) => (.dat .bool t, [])) [] none).run = some (r, H')) : Awp laws_FnDeepestStack_ctx LL (bodyOf Try.f3) laws_FnDeepestStack_an (⟨mkE 66 0 [(0, .dat (.list (.int .u8)) x2)], []⟩ : St) (Ret (tlook tys) Try.f3.results.toList r H') :=
  ret_of' (laws_FnDeepestStack_n7_l x2) (by unfold laws_FnDeepestStack; kernel_rfl) (by
  intro t
  exact ret_mk [.dat .bool t] (by kernel_rfl) (by kernel_rfl) (by kernel_rfl) (by kernel_rfl)) h

def F_laws_FnDeepestStack : Fun := fun avs H =>
  match avs, H with
  | [.dat (.list (.int .u8)) x2], [] => ⟨_, laws_FnDeepestStack x2, fun (t : Bool) => (.dat .bool t, []), [], none⟩
  | _, _ => Ans.no

theorem laws_FnDeepestStack_sound : Sound Try.prog 3 F_laws_FnDeepestStack := by
  refine fn_sound' (C := laws_FnDeepestStack_ctx) (c := bodyOf Try.f3) (cok_of tys_ok (List.forall_mem_cons.2 ⟨spec_DrawDeepestStack_sound, List.forall_mem_cons.2 ⟨impl_DeepestStack_sound, List.forall_mem_cons.2 ⟨spec_DeepestStack_sound, List.forall_mem_cons.2 ⟨laws_alive_sound, by simp⟩⟩⟩⟩) (List.forall_mem_cons.2 ⟨Try.call6, List.forall_mem_cons.2 ⟨Try.call7, List.forall_mem_cons.2 ⟨Try.call8, List.forall_mem_cons.2 ⟨Try.call9, by simp⟩⟩⟩⟩) (by kernel_rfl)) Try.func3 (by kernel_rfl) LL laws_FnDeepestStack_an ?_
  intro avs H r H' h
  unfold F_laws_FnDeepestStack at h
  split at h
  · refine Awp.cast ?_ ?_ ?_ (laws_FnDeepestStack_e _ h) <;> kernel_rfl
  · simp [Ans.no, Ans.run] at h

/-! loop.example/headtrees/impl.RunStack -/

def impl_RunStack_an : Ann := (.seq (.leaf [0, 1]) (.seq (.leaf [6, 7]) (.seq (.seq (.leaf [6, 15]) (.cond (.seq (.leaf [4, 5]) (.leaf [4, 5])) (.leaf [6]))) (.seq (.leaf [4, 5]) (.leaf [4, 5])))))

noncomputable def impl_RunStack_ctx : Ctx := ⟨tlook tys, olook [(16, F_impl_afterMoves)], ioF, 0, false, []⟩

theorem impl_RunStack_n1_l (x3322 : Int) (x3323 : ByteArray) : Link impl_RunStack_ctx LL (bodyOf Try.f11) impl_RunStack_an (⟨mkE 20 0 [(0, .dat (.int .i64) x3322), (1, .dat .str x3323)], []⟩ : St) (impl_RunStack_n1 x3322 x3323) (fun (t : Bool × (List Int)) => (Exit.ret, (⟨mkE 20 0 [(4, .slc 0), (5, .dat .bool t.1)], [some (.seq (.int .i64) t.2)]⟩ : St))) := by
  refine Link.of fun K h => ?_
  simp only [impl_RunStack_n1, wpO_bind, wpO_cond, wpO_map, wpO_some] at h
  exact Awp.of (by kernel_rfl) h

theorem impl_RunStack_e (x3322 : Int) (x3323 : ByteArray) {r : AV} {H' : Heap} (h : (Ans.mk _ (impl_RunStack x3322 x3323) (fun (t : Bool × (List Int)) => (.tup [.slc 0, .dat .bool t.1], [some (.seq (.int .i64) t.2)])) [] none).run = some (r, H')) : Awp impl_RunStack_ctx LL (bodyOf Try.f11) impl_RunStack_an (⟨mkE 20 0 [(0, .dat (.int .i64) x3322), (1, .dat .str x3323)], []⟩ : St) (Ret (tlook tys) Try.f11.results.toList r H') :=
  ret_of' (impl_RunStack_n1_l x3322 x3323) (by unfold impl_RunStack; kernel_rfl) (by
  intro t
  exact ret_mk [.slc 0, .dat .bool t.1] (by kernel_rfl) (by kernel_rfl) (by kernel_rfl) (by kernel_rfl)) h

def F_impl_RunStack : Fun := fun avs H =>
  match avs, H with
  | [.dat (.int .i64) x3322, .dat .str x3323], [] => ⟨_, impl_RunStack x3322 x3323, fun (t : Bool × (List Int)) => (.tup [.slc 0, .dat .bool t.1], [some (.seq (.int .i64) t.2)]), [], none⟩
  | _, _ => Ans.no

theorem impl_RunStack_sound : Sound Try.prog 11 F_impl_RunStack := by
  refine fn_sound' (C := impl_RunStack_ctx) (c := bodyOf Try.f11) (cok_of tys_ok (List.forall_mem_cons.2 ⟨impl_afterMoves_sound, by simp⟩) (List.forall_mem_cons.2 ⟨Try.call16, by simp⟩) (by kernel_rfl)) Try.func11 (by kernel_rfl) LL impl_RunStack_an ?_
  intro avs H r H' h
  unfold F_impl_RunStack at h
  split at h
  · refine Awp.cast ?_ ?_ ?_ (impl_RunStack_e _ _ h) <;> kernel_rfl
  · simp [Ans.no, Ans.run] at h

/-! loop.example/headtrees/laws.eqIntS -/

def laws_eqIntS_an : Ann := (.seq (.leaf [0, 1]) (.seq (.seq (.leaf [0, 1, 10]) (.cond (.seq (.leaf [4]) (.leaf [4])) (.leaf [0, 1]))) (.seq (.seq (.leaf [0, 1, 5]) (.block (.loop (.seq (.seq (.leaf [0, 1, 5, 14]) (.cond (.leaf [0, 1, 5]) (.leaf []))) (.seq (.block (.seq (.draw [] [0, 1, 2, 3, 4, 5, 6, 7, 8] [] [0, 1, 5, 25]) (.cond (.seq (.leaf [4]) (.leaf [4])) (.leaf [0, 1, 5])))) (.leaf [0, 1, 5])))))) (.seq (.leaf [4]) (.leaf [4])))))

noncomputable def laws_eqIntS_ctx : Ctx := ⟨tlook tys, olook [], ioF, 0, false, []⟩

theorem laws_eqIntS_n1_l (x3361 : List Int) (x3362 : List Int) : Link laws_eqIntS_ctx LL (Code.seq (Code.fst (bodyOf Try.f12)) (Code.fst (Code.snd (bodyOf Try.f12)))) (Ann.seq (Ann.fst laws_eqIntS_an) (Ann.fst (Ann.snd laws_eqIntS_an))) (⟨mkE 26 0 [(0, .dat (.list (.int .i64)) x3361), (1, .dat (.list (.int .i64)) x3362)], []⟩ : St) (laws_eqIntS_n1 x3361 x3362) (Sum.elim (fun (t : Unit) => (Exit.normal, (⟨mkE 26 0 [(0, .dat (.list (.int .i64)) x3361), (1, .dat (.list (.int .i64)) x3362)], []⟩ : St))) (fun (t : Bool) => (Exit.ret, (⟨mkE 26 0 [(4, .dat .bool t)], []⟩ : St)))) := by
  refine Link.of fun K h => ?_
  simp only [laws_eqIntS_n1, wpO_bind, wpO_cond, wpO_map, wpO_some] at h
  exact Awp.of (by kernel_rfl) h

theorem laws_eqIntS_n2_l (x3361 : List Int) (x3362 : List Int) : Link laws_eqIntS_ctx LL (Code.fst (Code.fst (Code.snd (Code.snd (bodyOf Try.f12))))) (Ann.fst (Ann.fst (Ann.snd (Ann.snd laws_eqIntS_an)))) (⟨mkE 26 0 [(0, .dat (.list (.int .i64)) x3361), (1, .dat (.list (.int .i64)) x3362)], []⟩ : St) (laws_eqIntS_n2) (fun (t : Unit) => (Exit.normal, (⟨mkE 26 0 [(0, .dat (.list (.int .i64)) x3361), (1, .dat (.list (.int .i64)) x3362), (5, .dat (.int .i64) 0)], []⟩ : St))) := by
  refine Link.of fun K h => ?_
  simp only [laws_eqIntS_n2, wpO_bind, wpO_cond, wpO_map, wpO_some] at h
  exact Awp.of (by kernel_rfl) h

theorem laws_eqIntS_n3_l (x3361 : List Int) (x3362 : List Int) (x3379 : Int) : Link laws_eqIntS_ctx LL (Code.fst (Code.fst (Code.snd (Code.fst (Code.snd (Code.snd (bodyOf Try.f12))))))) (Ann.fst (Ann.fst (Ann.snd (Ann.fst (Ann.snd (Ann.snd laws_eqIntS_an)))))) (⟨mkE 26 0 [(0, .dat (.list (.int .i64)) x3361), (1, .dat (.list (.int .i64)) x3362), (5, .dat (.int .i64) x3379)], []⟩ : St) (laws_eqIntS_n3 x3361 x3362 x3379) (Sum.elim (fun (t : Int) => (Exit.normal, (⟨mkE 26 0 [(0, .dat (.list (.int .i64)) x3361), (1, .dat (.list (.int .i64)) x3362), (5, .dat (.int .i64) t)], []⟩ : St))) (Sum.elim (fun (t : Bool) => (Exit.ret, (⟨mkE 26 0 [(4, .dat .bool t)], []⟩ : St))) (fun (t : Unit) => ((Exit.exit 0), (⟨mkE 26 0 [], []⟩ : St))))) := by
  refine Link.of fun K h => ?_
  simp only [laws_eqIntS_n3, wpO_bind, wpO_cond, wpO_map, wpO_some] at h
  exact Awp.of (by kernel_rfl) h

theorem laws_eqIntS_n4_l (x3361 : List Int) (x3362 : List Int) : Link laws_eqIntS_ctx LL (Code.fst (Code.snd (Code.fst (Code.snd (Code.snd (bodyOf Try.f12)))))) (Ann.fst (Ann.snd (Ann.fst (Ann.snd (Ann.snd laws_eqIntS_an))))) (⟨mkE 26 0 [(0, .dat (.list (.int .i64)) x3361), (1, .dat (.list (.int .i64)) x3362), (5, .dat (.int .i64) 0)], []⟩ : St) (laws_eqIntS_n4 x3361 x3362) (Sum.elim (fun (t : Bool) => (Exit.ret, (⟨mkE 26 0 [(4, .dat .bool t)], []⟩ : St))) (fun (t : Unit) => ((Exit.exit 0), (⟨mkE 26 0 [], []⟩ : St)))) := by
  unfold laws_eqIntS_n4
  exact Link.cast (by kernel_rfl) (by kernel_rfl) (link_loop (mk := fun (s : Int) => (⟨mkE 26 0 [(0, .dat (.list (.int .i64)) x3361), (1, .dat (.list (.int .i64)) x3362), (5, .dat (.int .i64) s)], []⟩ : St)) (fin := (Sum.elim (fun (t : Bool) => (Exit.ret, (⟨mkE 26 0 [(4, .dat .bool t)], []⟩ : St))) (fun (t : Unit) => ((Exit.exit 0), (⟨mkE 26 0 [], []⟩ : St))))) (by
  rintro (t | t) f K h
  · exact h
  · exact h) (fun s => link_map (laws_eqIntS_n3_l x3361 x3362 s) (Sum.elim (fun (t : Int) => Sum.inl t) (Sum.elim (fun (t : Bool) => Sum.inr (Sum.inl t)) (fun (t : Unit) => Sum.inr (Sum.inr t)))) (by
  rintro (t | t | t)
  · kernel_rfl
  · kernel_rfl
  · kernel_rfl)) 0)

theorem laws_eqIntS_n5_l (x3361 : List Int) (x3362 : List Int) : Link laws_eqIntS_ctx LL (Code.snd (Code.fst (Code.snd (Code.snd (bodyOf Try.f12))))) (Ann.snd (Ann.fst (Ann.snd (Ann.snd laws_eqIntS_an)))) (⟨mkE 26 0 [(0, .dat (.list (.int .i64)) x3361), (1, .dat (.list (.int .i64)) x3362), (5, .dat (.int .i64) 0)], []⟩ : St) (laws_eqIntS_n5 x3361 x3362) (Sum.elim (fun (t : Unit) => (Exit.normal, (⟨mkE 26 0 [], []⟩ : St))) (fun (t : Bool) => (Exit.ret, (⟨mkE 26 0 [(4, .dat .bool t)], []⟩ : St)))) := by
  unfold laws_eqIntS_n5
  exact Link.cast (by kernel_rfl) (by kernel_rfl) (link_block (id := 0) (laws_eqIntS_n4_l x3361 x3362) (Sum.elim (fun (t : Bool) => (Sum.inr t)) (fun (t : Unit) => (Sum.inl ()))) (by
  rintro (t | t) K h
  · exact Eq.mp (by kernel_rfl) h
  · exact Eq.mp (by kernel_rfl) h))

theorem laws_eqIntS_n6_l (x3361 : List Int) (x3362 : List Int) : Link laws_eqIntS_ctx LL (Code.fst (Code.snd (Code.snd (bodyOf Try.f12)))) (Ann.fst (Ann.snd (Ann.snd laws_eqIntS_an))) (⟨mkE 26 0 [(0, .dat (.list (.int .i64)) x3361), (1, .dat (.list (.int .i64)) x3362)], []⟩ : St) (laws_eqIntS_n6 x3361 x3362) (Sum.elim (fun (t : Unit) => (Exit.normal, (⟨mkE 26 0 [], []⟩ : St))) (fun (t : Bool) => (Exit.ret, (⟨mkE 26 0 [(4, .dat .bool t)], []⟩ : St)))) := by
  unfold laws_eqIntS_n6
  exact Link.cast (by kernel_rfl) (by kernel_rfl) (link_seq (b := (Code.snd (Code.fst (Code.snd (Code.snd (bodyOf Try.f12)))))) (y := (Ann.snd (Ann.fst (Ann.snd (Ann.snd laws_eqIntS_an))))) (laws_eqIntS_n2_l x3361 x3362) (fun (t : Unit) => (laws_eqIntS_n5_l x3361 x3362)))

theorem laws_eqIntS_n7_l : Link laws_eqIntS_ctx LL (Code.snd (Code.snd (Code.snd (bodyOf Try.f12)))) (Ann.snd (Ann.snd (Ann.snd laws_eqIntS_an))) (⟨mkE 26 0 [], []⟩ : St) (laws_eqIntS_n7) (fun (t : Bool) => (Exit.ret, (⟨mkE 26 0 [(4, .dat .bool t)], []⟩ : St))) := by
  refine Link.of fun K h => ?_
  simp only [laws_eqIntS_n7, wpO_bind, wpO_cond, wpO_map, wpO_some] at h
  exact Awp.of (by kernel_rfl) h

theorem laws_eqIntS_n8_l (x3361 : List Int) (x3362 : List Int) : Link laws_eqIntS_ctx LL (Code.snd (Code.snd (bodyOf Try.f12))) (Ann.snd (Ann.snd laws_eqIntS_an)) (⟨mkE 26 0 [(0, .dat (.list (.int .i64)) x3361), (1, .dat (.list (.int .i64)) x3362)], []⟩ : St) (laws_eqIntS_n8 x3361 x3362) (fun (t : Bool) => (Exit.ret, (⟨mkE 26 0 [(4, .dat .bool t)], []⟩ : St))) := by
  unfold laws_eqIntS_n8
  exact Link.cast (by kernel_rfl) (by kernel_rfl) (link_seq2 (b := (Code.snd (Code.snd (Code.snd (bodyOf Try.f12))))) (y := (Ann.snd (Ann.snd (Ann.snd laws_eqIntS_an)))) (laws_eqIntS_n6_l x3361 x3362) (fun (t : Unit) => (laws_eqIntS_n7_l)) (fun (t : Bool) => t) (by
  rintro t
  · kernel_rfl) (by
  rintro t f K h
  · exact h))

theorem laws_eqIntS_n9_l (x3361 : List Int) (x3362 : List Int) : Link laws_eqIntS_ctx LL (bodyOf Try.f12) laws_eqIntS_an (⟨mkE 26 0 [(0, .dat (.list (.int .i64)) x3361), (1, .dat (.list (.int .i64)) x3362)], []⟩ : St) (laws_eqIntS_n9 x3361 x3362) (fun (t : Bool) => (Exit.ret, (⟨mkE 26 0 [(4, .dat .bool t)], []⟩ : St))) := by
  unfold laws_eqIntS_n9
  exact Link.cast (by kernel_rfl) (by kernel_rfl) (link_group (c := (Code.fst (Code.snd (bodyOf Try.f12)))) (a := (Ann.fst (Ann.snd laws_eqIntS_an))) [(Code.fst (bodyOf Try.f12))] [(Ann.fst laws_eqIntS_an)] rfl (link_seq2 (b := (Code.snd (Code.snd (bodyOf Try.f12)))) (y := (Ann.snd (Ann.snd laws_eqIntS_an))) (laws_eqIntS_n1_l x3361 x3362) (fun (t : Unit) => (laws_eqIntS_n8_l x3361 x3362)) (fun (t : Bool) => t) (by
  rintro t
  · kernel_rfl) (by
  rintro t f K h
  · exact h)))

theorem laws_eqIntS_e (x3361 : List Int) (x3362 : List Int) {r : AV} {H' : Heap} (h : (Ans.mk _ (laws_eqIntS x3361 x3362) (fun (t : Bool) => (.dat .bool t, [])) [] none).run = some (r, H')) : Awp laws_eqIntS_ctx LL (bodyOf Try.f12) laws_eqIntS_an (⟨mkE 26 0 [(0, .dat (.list (.int .i64)) x3361), (1, .dat (.list (.int .i64)) x3362)], []⟩ : St) (Ret (tlook tys) Try.f12.results.toList r H') :=
  ret_of' (laws_eqIntS_n9_l x3361 x3362) (by unfold laws_eqIntS; kernel_rfl) (by
  intro t
  exact ret_mk [.dat .bool t] (by kernel_rfl) (by kernel_rfl) (by kernel_rfl) (by kernel_rfl)) h

def F_laws_eqIntS : Fun := fun avs H =>
  match avs, H with
  | [.dat (.list (.int .i64)) x3361, .dat (.list (.int .i64)) x3362], [] => ⟨_, laws_eqIntS x3361 x3362, fun (t : Bool) => (.dat .bool t, []), [], none⟩
  | _, _ => Ans.no

theorem laws_eqIntS_sound : Sound Try.prog 12 F_laws_eqIntS := by
  refine fn_sound' (C := laws_eqIntS_ctx) (c := bodyOf Try.f12) (cok_of tys_ok (by simp) (by simp) (by kernel_rfl)) Try.func12 (by kernel_rfl) LL laws_eqIntS_an ?_
  intro avs H r H' h
  unfold F_laws_eqIntS at h
  split at h
  · refine Awp.cast ?_ ?_ ?_ (laws_eqIntS_e _ _ h) <;> kernel_rfl
  · simp [Ans.no, Ans.run] at h

/-! loop.example/headtrees/laws.markIntS -/

def laws_markIntS_an : Ann := (.seq (.leaf [0, 1]) (.seq (.seq (.leaf [0, 1, 5]) (.block (.loop (.seq (.seq (.leaf [0, 1, 5, 9]) (.cond (.leaf [0, 1, 5]) (.leaf [1]))) (.seq (.block (.seq (.leaf [0, 1, 5]) (.leaf [0, 1, 5]))) (.leaf [0, 1, 5])))))) (.seq (.leaf [4]) (.leaf [4]))))

noncomputable def laws_markIntS_ctx : Ctx := ⟨tlook tys, olook [], ioF, 1, false, []⟩

theorem laws_markIntS_n1_l (x3419 : Int) (x3420 : List Int) : Link laws_markIntS_ctx LL (Code.fst (bodyOf Try.f13)) (Ann.fst laws_markIntS_an) (⟨mkE 19 0 [(0, .slc 0), (1, .dat (.int .i64) x3419)], [some (.seq (.int .i64) x3420)]⟩ : St) (laws_markIntS_n1) (fun (t : Unit) => (Exit.normal, (⟨mkE 19 0 [(0, .slc 0), (1, .dat (.int .i64) x3419)], [some (.seq (.int .i64) x3420)]⟩ : St))) := by
  refine Link.of fun K h => ?_
  simp only [laws_markIntS_n1, wpO_bind, wpO_cond, wpO_map, wpO_some] at h
  exact Awp.of (by kernel_rfl) h

theorem laws_markIntS_n2_l (x3419 : Int) (x3420 : List Int) : Link laws_markIntS_ctx LL (Code.fst (Code.fst (Code.snd (bodyOf Try.f13)))) (Ann.fst (Ann.fst (Ann.snd laws_markIntS_an))) (⟨mkE 19 0 [(0, .slc 0), (1, .dat (.int .i64) x3419)], [some (.seq (.int .i64) x3420)]⟩ : St) (laws_markIntS_n2) (fun (t : Unit) => (Exit.normal, (⟨mkE 19 0 [(0, .slc 0), (1, .dat (.int .i64) x3419), (5, .dat (.int .i64) 0)], [some (.seq (.int .i64) x3420)]⟩ : St))) := by
  refine Link.of fun K h => ?_
  simp only [laws_markIntS_n2, wpO_bind, wpO_cond, wpO_map, wpO_some] at h
  exact Awp.of (by kernel_rfl) h

theorem laws_markIntS_n3_l (x3434 : Int) (x3435 : Int) (x3436 : List Int) : Link laws_markIntS_ctx LL (Code.fst (Code.fst (Code.snd (Code.fst (Code.snd (bodyOf Try.f13)))))) (Ann.fst (Ann.fst (Ann.snd (Ann.fst (Ann.snd laws_markIntS_an))))) (⟨mkE 19 0 [(0, .slc 0), (1, .dat (.int .i64) x3434), (5, .dat (.int .i64) x3435)], [some (.seq (.int .i64) x3436)]⟩ : St) (laws_markIntS_n3 x3434 x3435 x3436) (Sum.elim (fun (t : Int × Int × (List Int)) => (Exit.normal, (⟨mkE 19 0 [(0, .slc 0), (1, .dat (.int .i64) t.1), (5, .dat (.int .i64) t.2.1)], [some (.seq (.int .i64) t.2.2)]⟩ : St))) (fun (t : Int × (List Int)) => ((Exit.exit 0), (⟨mkE 19 0 [(1, .dat (.int .i64) t.1)], [some (.seq (.int .i64) t.2)]⟩ : St)))) := by
  refine Link.of fun K h => ?_
  simp only [laws_markIntS_n3, wpO_bind, wpO_cond, wpO_map, wpO_some] at h
  exact Awp.of (by kernel_rfl) h

theorem laws_markIntS_n4_l (x3419 : Int) (x3420 : List Int) : Link laws_markIntS_ctx LL (Code.fst (Code.snd (Code.fst (Code.snd (bodyOf Try.f13))))) (Ann.fst (Ann.snd (Ann.fst (Ann.snd laws_markIntS_an)))) (⟨mkE 19 0 [(0, .slc 0), (1, .dat (.int .i64) x3419), (5, .dat (.int .i64) 0)], [some (.seq (.int .i64) x3420)]⟩ : St) (laws_markIntS_n4 x3419 x3420) (fun (t : Int × (List Int)) => ((Exit.exit 0), (⟨mkE 19 0 [(1, .dat (.int .i64) t.1)], [some (.seq (.int .i64) t.2)]⟩ : St))) := by
  unfold laws_markIntS_n4
  exact Link.cast (by kernel_rfl) (by kernel_rfl) (link_loop (mk := fun (s : Int × Int × (List Int)) => (⟨mkE 19 0 [(0, .slc 0), (1, .dat (.int .i64) s.1), (5, .dat (.int .i64) s.2.1)], [some (.seq (.int .i64) s.2.2)]⟩ : St)) (fin := (fun (t : Int × (List Int)) => ((Exit.exit 0), (⟨mkE 19 0 [(1, .dat (.int .i64) t.1)], [some (.seq (.int .i64) t.2)]⟩ : St)))) (by
  rintro t f K h
  · exact h) (fun s => link_map (laws_markIntS_n3_l s.1 s.2.1 s.2.2) (Sum.elim (fun (t : Int × Int × (List Int)) => Sum.inl (t.1, t.2.1, t.2.2)) (fun (t : Int × (List Int)) => Sum.inr t)) (by
  rintro (t | t)
  · kernel_rfl
  · kernel_rfl)) (x3419, 0, x3420))

theorem laws_markIntS_n5_l (x3419 : Int) (x3420 : List Int) : Link laws_markIntS_ctx LL (Code.snd (Code.fst (Code.snd (bodyOf Try.f13)))) (Ann.snd (Ann.fst (Ann.snd laws_markIntS_an))) (⟨mkE 19 0 [(0, .slc 0), (1, .dat (.int .i64) x3419), (5, .dat (.int .i64) 0)], [some (.seq (.int .i64) x3420)]⟩ : St) (laws_markIntS_n5 x3419 x3420) (fun (t : Int × (List Int)) => (Exit.normal, (⟨mkE 19 0 [(1, .dat (.int .i64) t.1)], [some (.seq (.int .i64) t.2)]⟩ : St))) := by
  unfold laws_markIntS_n5
  exact Link.cast (by kernel_rfl) (by kernel_rfl) (link_block (id := 0) (laws_markIntS_n4_l x3419 x3420) (fun (t : Int × (List Int)) => (t.1, t.2)) (by
  rintro t K h
  · exact Eq.mp (by kernel_rfl) h))

theorem laws_markIntS_n6_l (x3419 : Int) (x3420 : List Int) : Link laws_markIntS_ctx LL (Code.fst (Code.snd (bodyOf Try.f13))) (Ann.fst (Ann.snd laws_markIntS_an)) (⟨mkE 19 0 [(0, .slc 0), (1, .dat (.int .i64) x3419)], [some (.seq (.int .i64) x3420)]⟩ : St) (laws_markIntS_n6 x3419 x3420) (fun (t : Int × (List Int)) => (Exit.normal, (⟨mkE 19 0 [(1, .dat (.int .i64) t.1)], [some (.seq (.int .i64) t.2)]⟩ : St))) := by
  unfold laws_markIntS_n6
  exact Link.cast (by kernel_rfl) (by kernel_rfl) (link_seq (b := (Code.snd (Code.fst (Code.snd (bodyOf Try.f13))))) (y := (Ann.snd (Ann.fst (Ann.snd laws_markIntS_an)))) (laws_markIntS_n2_l x3419 x3420) (fun (t : Unit) => (laws_markIntS_n5_l x3419 x3420)))

theorem laws_markIntS_n7_l (x3434 : Int) (x3436 : List Int) : Link laws_markIntS_ctx LL (Code.snd (Code.snd (bodyOf Try.f13))) (Ann.snd (Ann.snd laws_markIntS_an)) (⟨mkE 19 0 [(1, .dat (.int .i64) x3434)], [some (.seq (.int .i64) x3436)]⟩ : St) (laws_markIntS_n7 x3434 x3436) (fun (t : Int × (List Int)) => (Exit.ret, (⟨mkE 19 0 [(4, .dat (.int .i64) t.1)], [some (.seq (.int .i64) t.2)]⟩ : St))) := by
  refine Link.of fun K h => ?_
  simp only [laws_markIntS_n7, wpO_bind, wpO_cond, wpO_map, wpO_some] at h
  exact Awp.of (by kernel_rfl) h

theorem laws_markIntS_n8_l (x3419 : Int) (x3420 : List Int) : Link laws_markIntS_ctx LL (Code.snd (bodyOf Try.f13)) (Ann.snd laws_markIntS_an) (⟨mkE 19 0 [(0, .slc 0), (1, .dat (.int .i64) x3419)], [some (.seq (.int .i64) x3420)]⟩ : St) (laws_markIntS_n8 x3419 x3420) (fun (t : Int × (List Int)) => (Exit.ret, (⟨mkE 19 0 [(4, .dat (.int .i64) t.1)], [some (.seq (.int .i64) t.2)]⟩ : St))) := by
  unfold laws_markIntS_n8
  exact Link.cast (by kernel_rfl) (by kernel_rfl) (link_seq (b := (Code.snd (Code.snd (bodyOf Try.f13)))) (y := (Ann.snd (Ann.snd laws_markIntS_an))) (laws_markIntS_n6_l x3419 x3420) (fun (t : Int × (List Int)) => (laws_markIntS_n7_l t.1 t.2)))

end Go.Rv
