/-
  The checked code answers as the plain functions do; written by program. Conditions: none.
-/
import Derived.Test.YtenenhmofmdcbaaGN
import Derived.Test.YtenenhmofmdcbaaProg
set_option linter.unusedVariables false
set_option linter.unusedSimpArgs false
set_option maxRecDepth 100000
namespace Go.Rv
open Go.Proofs
theorem ty3 : TIOk Try.prog 3 ⟨.int .i64, 1, 8, some (.int .i64), [.int .i64 0]⟩ := ⟨⟨infoOf (Try.prog.info? 3), by kernel_rfl, by kernel_rfl, by kernel_rfl, .int .i64 0, by kernel_rfl, by kernel_rfl⟩, (by kernel_rfl : Try.prog.underlying 3 = some (.int .i64))⟩
theorem ty4 : TIOk Try.prog 4 ⟨.bool, 1, 1, some .bool, [.bool false]⟩ := ⟨⟨infoOf (Try.prog.info? 4), by kernel_rfl, by kernel_rfl, by kernel_rfl, .bool false, by kernel_rfl, by kernel_rfl⟩, (by kernel_rfl : Try.prog.underlying 4 = some .bool)⟩
theorem ty5 : TIOk Try.prog 5 ⟨.int .u8, 1, 1, some (.int .u8), [.int .u8 0]⟩ := ⟨⟨infoOf (Try.prog.info? 5), by kernel_rfl, by kernel_rfl, by kernel_rfl, .int .u8 0, by kernel_rfl, by kernel_rfl⟩, (by kernel_rfl : Try.prog.underlying 5 = some (.int .u8))⟩
theorem ty22 : TIOk Try.prog 22 ⟨.slice 5, 1, 24, some (.list (.int .u8)), [.slice none 0 0]⟩ := ⟨⟨infoOf (Try.prog.info? 22), by kernel_rfl, by kernel_rfl, by kernel_rfl, .slice none 0 0, by kernel_rfl, by kernel_rfl⟩, (by kernel_rfl : Try.prog.underlying 22 = some (.slice 5))⟩
theorem ty23 : TIOk Try.prog 23 ⟨.slice 3, 1, 24, some (.list (.int .i64)), [.slice none 0 0]⟩ := ⟨⟨infoOf (Try.prog.info? 23), by kernel_rfl, by kernel_rfl, by kernel_rfl, .slice none 0 0, by kernel_rfl, by kernel_rfl⟩, (by kernel_rfl : Try.prog.underlying 23 = some (.slice 3))⟩
theorem ty47 : TIOk Try.prog 47 ⟨.strct [(0, 23), (1, 3), (2, 3)], 3, 40, some (.pair (.list (.int .i64)) (.pair (.int .i64) (.pair (.int .i64) .unit))), [.slice none 0 0, .int .i64 0, .int .i64 0]⟩ := ⟨⟨infoOf (Try.prog.info? 47), by kernel_rfl, by kernel_rfl, by kernel_rfl, .agg #[.slice none 0 0, .int .i64 0, .int .i64 0], by kernel_rfl, by kernel_rfl⟩, ⟨fieldsOf (Try.prog.underlying 47), by kernel_rfl, by kernel_rfl⟩⟩
theorem ty49 : TIOk Try.prog 49 ⟨.arr 9 4, 9, 9, none, [.bool false, .bool false, .bool false, .bool false, .bool false, .bool false, .bool false, .bool false, .bool false]⟩ := ⟨⟨infoOf (Try.prog.info? 49), by kernel_rfl, by kernel_rfl, by kernel_rfl, .agg #[.bool false, .bool false, .bool false, .bool false, .bool false, .bool false, .bool false, .bool false, .bool false], by kernel_rfl, by kernel_rfl⟩, (by kernel_rfl : Try.prog.underlying 49 = some (.array 9 4))⟩
theorem ty53 : TIOk Try.prog 53 ⟨.strct [(0, 22), (1, 3)], 2, 32, some (.pair (.list (.int .u8)) (.pair (.int .i64) .unit)), [.slice none 0 0, .int .i64 0]⟩ := ⟨⟨infoOf (Try.prog.info? 53), by kernel_rfl, by kernel_rfl, by kernel_rfl, .agg #[.slice none 0 0, .int .i64 0], by kernel_rfl, by kernel_rfl⟩, ⟨fieldsOf (Try.prog.underlying 53), by kernel_rfl, by kernel_rfl⟩⟩
def tys : List (TypeId × TI) := [(3, ⟨.int .i64, 1, 8, some (.int .i64), [.int .i64 0]⟩), (4, ⟨.bool, 1, 1, some .bool, [.bool false]⟩), (5, ⟨.int .u8, 1, 1, some (.int .u8), [.int .u8 0]⟩), (22, ⟨.slice 5, 1, 24, some (.list (.int .u8)), [.slice none 0 0]⟩), (23, ⟨.slice 3, 1, 24, some (.list (.int .i64)), [.slice none 0 0]⟩), (47, ⟨.strct [(0, 23), (1, 3), (2, 3)], 3, 40, some (.pair (.list (.int .i64)) (.pair (.int .i64) (.pair (.int .i64) .unit))), [.slice none 0 0, .int .i64 0, .int .i64 0]⟩), (49, ⟨.arr 9 4, 9, 9, none, [.bool false, .bool false, .bool false, .bool false, .bool false, .bool false, .bool false, .bool false, .bool false]⟩), (53, ⟨.strct [(0, 22), (1, 3)], 2, 32, some (.pair (.list (.int .u8)) (.pair (.int .i64) .unit)), [.slice none 0 0, .int .i64 0]⟩)]
theorem tys_ok : TOk Try.prog (tlook tys) := tok_of (List.forall_mem_cons.2 ⟨ty3, List.forall_mem_cons.2 ⟨ty4, List.forall_mem_cons.2 ⟨ty5, List.forall_mem_cons.2 ⟨ty22, List.forall_mem_cons.2 ⟨ty23, List.forall_mem_cons.2 ⟨ty47, List.forall_mem_cons.2 ⟨ty49, List.forall_mem_cons.2 ⟨ty53, by simp⟩⟩⟩⟩⟩⟩⟩⟩)
def ioF (f : FuncId) (i : Nat) : Bool := [].any fun (p : Nat × Nat) => Nat.beq p.1 f && Nat.beq p.2 i

/-! loop.example/headtrees/spec.l20Open -/

def spec_l20Open_an : Ann := (.seq (.leaf [0]) (.seq (.seq (.leaf [0, 5]) (.cond (.leaf [0]) (.leaf [0]))) (.seq (.leaf [2]) (.leaf [2]))))

noncomputable def spec_l20Open_ctx : Ctx := ⟨tlook tys, olook [], ioF, 0⟩

theorem spec_l20Open_n1_l (x12 : List Int) : Link spec_l20Open_ctx LL (bodyOf Try.f34) spec_l20Open_an (⟨mkE 11 0 [(0, .dat (.list (.int .u8)) x12)], []⟩ : St) (spec_l20Open_n1 x12) (fun (t : (List Int)) => (Exit.ret, (⟨mkE 11 0 [(2, .ptr 0 0)], [some (.box [.dat (.list (.int .u8)) t, .dat (.int .i64) 0])]⟩ : St))) := by
  refine Link.of fun K h => ?_
  simp only [spec_l20Open_n1, wpO_bind, wpO_cond, wpO_map, wpO_some] at h
  exact Awp.of (by kernel_rfl) h

theorem spec_l20Open_e (x12 : List Int) {r : AV} {H' : Heap} (h : (Ans.mk _ (spec_l20Open x12) (fun (t : (List Int)) => (.ptr 0 0, [some (.box [.dat (.list (.int .u8)) t, .dat (.int .i64) 0])]))).run = some (r, H')) : Awp spec_l20Open_ctx LL (bodyOf Try.f34) spec_l20Open_an (⟨mkE 11 0 [(0, .dat (.list (.int .u8)) x12)], []⟩ : St) (Ret (tlook tys) Try.f34.results.toList r H') :=
  ret_of' (spec_l20Open_n1_l x12) (by unfold spec_l20Open; kernel_rfl) (by
  intro t
  exact ret_mk [.ptr 0 0] (by kernel_rfl) (by kernel_rfl) (by kernel_rfl) (by kernel_rfl)) h

def F_spec_l20Open : Fun := fun avs H =>
  match avs, H with
  | [.dat (.list (.int .u8)) x12], [] => ⟨_, spec_l20Open x12, fun (t : (List Int)) => (.ptr 0 0, [some (.box [.dat (.list (.int .u8)) t, .dat (.int .i64) 0])])⟩
  | _, _ => Ans.no

theorem spec_l20Open_sound : Sound Try.prog 34 F_spec_l20Open := by
  refine fn_sound' (C := spec_l20Open_ctx) (c := bodyOf Try.f34) (cok_of tys_ok (by simp) (by simp) (by kernel_rfl)) Try.func34 (by kernel_rfl) LL spec_l20Open_an ?_
  intro avs H r H' h
  unfold F_spec_l20Open at h
  split at h
  · refine Awp.cast ?_ ?_ ?_ (spec_l20Open_e _ h) <;> kernel_rfl
  · simp [Ans.no, Ans.run] at h

/-! (*loop.example/headtrees/spec.l20Rd).pick -/

def spec_l20Rd_pick_an : Ann := (.seq (.leaf [0, 1]) (.seq (.leaf [0, 1]) (.seq (.seq (.leaf [0, 1, 24]) (.cond (.seq (.leaf [4]) (.leaf [4])) (.leaf [0, 1]))) (.seq (.leaf [0, 1, 5]) (.seq (.seq (.leaf [0, 1, 5, 36]) (.cond (.seq (.leaf [4]) (.leaf [4])) (.leaf [0, 1, 5]))) (.seq (.draw [] [0, 1, 2, 3, 4, 5, 6, 7, 8, 9, 10, 11, 12, 13, 14, 15, 16, 17, 18, 19, 20, 21, 22, 23, 24, 25, 26, 27, 28, 29, 30, 31, 32, 33, 34, 35, 36, 37, 38, 39, 40, 41, 42, 43, 44, 45] [] [1, 6]) (.seq (.leaf [1, 6]) (.seq (.leaf [4]) (.leaf [4])))))))))

noncomputable def spec_l20Rd_pick_ctx : Ctx := ⟨tlook tys, olook [], ioF, 1⟩

theorem spec_l20Rd_pick_n1_l (x38 : Int) (x39 : List Int) (x40 : Int) : Link spec_l20Rd_pick_ctx LL (bodyOf Try.f39) spec_l20Rd_pick_an (⟨mkE 99 0 [(0, .ptr 0 0), (1, .dat (.int .i64) x38)], [some (.box [.dat (.list (.int .u8)) x39, .dat (.int .i64) x40])]⟩ : St) (spec_l20Rd_pick_n1 x38 x39 x40) (fun (t : Int × Int) => (Exit.ret, (⟨mkE 99 0 [(4, .dat (.int .i64) t.1)], [some (.box [.dat (.list (.int .u8)) x39, .dat (.int .i64) t.2])]⟩ : St))) := by
  refine Link.of fun K h => ?_
  simp only [spec_l20Rd_pick_n1, wpO_bind, wpO_cond, wpO_map, wpO_some] at h
  exact Awp.of (by kernel_rfl) h

theorem spec_l20Rd_pick_e (x38 : Int) (x39 : List Int) (x40 : Int) {r : AV} {H' : Heap} (h : (Ans.mk _ (spec_l20Rd_pick x38 x39 x40) (fun (t : Int × Int) => (.dat (.int .i64) t.1, [some (.box [.dat (.list (.int .u8)) x39, .dat (.int .i64) t.2])]))).run = some (r, H')) : Awp spec_l20Rd_pick_ctx LL (bodyOf Try.f39) spec_l20Rd_pick_an (⟨mkE 99 0 [(0, .ptr 0 0), (1, .dat (.int .i64) x38)], [some (.box [.dat (.list (.int .u8)) x39, .dat (.int .i64) x40])]⟩ : St) (Ret (tlook tys) Try.f39.results.toList r H') :=
  ret_of' (spec_l20Rd_pick_n1_l x38 x39 x40) (by unfold spec_l20Rd_pick; kernel_rfl) (by
  intro t
  exact ret_mk [.dat (.int .i64) t.1] (by kernel_rfl) (by kernel_rfl) (by kernel_rfl) (by kernel_rfl)) h

def F_spec_l20Rd_pick : Fun := fun avs H =>
  match avs, H with
  | [.ptr 0 0, .dat (.int .i64) x38], [some (.box [.dat (.list (.int .u8)) x39, .dat (.int .i64) x40])] => ⟨_, spec_l20Rd_pick x38 x39 x40, fun (t : Int × Int) => (.dat (.int .i64) t.1, [some (.box [.dat (.list (.int .u8)) x39, .dat (.int .i64) t.2])])⟩
  | _, _ => Ans.no

theorem spec_l20Rd_pick_sound : Sound Try.prog 39 F_spec_l20Rd_pick := by
  refine fn_sound' (C := spec_l20Rd_pick_ctx) (c := bodyOf Try.f39) (cok_of tys_ok (by simp) (by simp) (by kernel_rfl)) Try.func39 (by kernel_rfl) LL spec_l20Rd_pick_an ?_
  intro avs H r H' h
  unfold F_spec_l20Rd_pick at h
  split at h
  · refine Awp.cast ?_ ?_ ?_ (spec_l20Rd_pick_e _ _ _ h) <;> kernel_rfl
  · simp [Ans.no, Ans.run] at h

/-! loop.example/headtrees/spec.l20Order -/

def spec_l20Order_an : Ann := (.seq (.leaf [0, 1]) (.seq (.leaf [0, 1, 5]) (.seq (.leaf [0, 1, 5, 6]) (.seq (.seq (.leaf [0, 1, 5, 6, 7]) (.block (.loop (.seq (.seq (.leaf [0, 1, 5, 6, 7, 15]) (.cond (.leaf [0, 1, 5, 6, 7]) (.leaf [5]))) (.seq (.block (.seq (.leaf [0, 1, 5, 6, 7, 8]) (.seq (.seq (.leaf [0, 1, 5, 6, 7, 8, 26]) (.cond (.leaf [0, 1, 5, 6, 7, 8]) (.leaf [0, 1, 5, 6, 7, 8]))) (.seq (.leaf [0, 1, 5, 6, 7, 8, 9]) (.seq (.leaf [0, 1, 5, 6, 7, 8, 9]) (.leaf [0, 1, 5, 6, 7])))))) (.leaf [0, 1, 5, 6, 7])))))) (.seq (.leaf [4]) (.leaf [4]))))))

noncomputable def spec_l20Order_ctx : Ctx := ⟨tlook tys, olook [(39, F_spec_l20Rd_pick)], ioF, 1⟩

theorem spec_l20Order_n1_l (x201 : Int) (x202 : List Int) (x203 : Int) : Link spec_l20Order_ctx LL (Code.seq (Code.fst (bodyOf Try.f41)) (Code.seq (Code.fst (Code.snd (bodyOf Try.f41))) (Code.fst (Code.snd (Code.snd (bodyOf Try.f41)))))) (Ann.seq (Ann.fst spec_l20Order_an) (Ann.seq (Ann.fst (Ann.snd spec_l20Order_an)) (Ann.fst (Ann.snd (Ann.snd spec_l20Order_an))))) (⟨mkE 45 0 [(0, .ptr 0 0), (1, .dat (.int .i64) x201)], [some (.box [.dat (.list (.int .u8)) x202, .dat (.int .i64) x203])]⟩ : St) (spec_l20Order_n1 x202 x203) (fun (t : Int × Int) => (Exit.normal, (⟨mkE 45 0 [(0, .ptr 0 0), (1, .dat (.int .i64) x201), (5, .slc 1), (6, .dat (.int .i64) t.1)], [some (.box [.dat (.list (.int .u8)) x202, .dat (.int .i64) t.2]), some (.seq (.int .i64) ([] : List Int))]⟩ : St))) := by
  refine Link.of fun K h => ?_
  simp only [spec_l20Order_n1, wpO_bind, wpO_cond, wpO_map, wpO_some] at h
  exact Awp.of (by kernel_rfl) h

theorem spec_l20Order_n2_l (x201 : Int) (x205 : Int) (x202 : List Int) (x206 : Int) : Link spec_l20Order_ctx LL (Code.fst (Code.fst (Code.snd (Code.snd (Code.snd (bodyOf Try.f41)))))) (Ann.fst (Ann.fst (Ann.snd (Ann.snd (Ann.snd spec_l20Order_an))))) (⟨mkE 45 0 [(0, .ptr 0 0), (1, .dat (.int .i64) x201), (5, .slc 1), (6, .dat (.int .i64) x205)], [some (.box [.dat (.list (.int .u8)) x202, .dat (.int .i64) x206]), some (.seq (.int .i64) ([] : List Int))]⟩ : St) (spec_l20Order_n2) (fun (t : Unit) => (Exit.normal, (⟨mkE 45 0 [(0, .ptr 0 0), (1, .dat (.int .i64) x201), (5, .slc 1), (6, .dat (.int .i64) x205), (7, .dat (.int .i64) 1)], [some (.box [.dat (.list (.int .u8)) x202, .dat (.int .i64) x206]), some (.seq (.int .i64) ([] : List Int))]⟩ : St))) := by
  refine Link.of fun K h => ?_
  simp only [spec_l20Order_n2, wpO_bind, wpO_cond, wpO_map, wpO_some] at h
  exact Awp.of (by kernel_rfl) h

theorem spec_l20Order_n3_l (x201 : Int) (x205 : Int) (x348 : Int) (x202 : List Int) (x349 : Int) (x350 : List Int) : Link spec_l20Order_ctx LL (Code.fst (Code.fst (Code.snd (Code.fst (Code.snd (Code.snd (Code.snd (bodyOf Try.f41)))))))) (Ann.fst (Ann.fst (Ann.snd (Ann.fst (Ann.snd (Ann.snd (Ann.snd spec_l20Order_an))))))) (⟨mkE 45 0 [(0, .ptr 0 0), (1, .dat (.int .i64) x201), (5, .slc 1), (6, .dat (.int .i64) x205), (7, .dat (.int .i64) x348)], [some (.box [.dat (.list (.int .u8)) x202, .dat (.int .i64) x349]), some (.seq (.int .i64) x350)]⟩ : St) (spec_l20Order_n3 x201 x205 x348 x202 x349 x350) (Sum.elim (fun (t : Int × Int × (List Int)) => (Exit.normal, (⟨mkE 45 0 [(0, .ptr 0 0), (1, .dat (.int .i64) x201), (5, .slc 1), (6, .dat (.int .i64) x205), (7, .dat (.int .i64) t.1)], [some (.box [.dat (.list (.int .u8)) x202, .dat (.int .i64) t.2.1]), some (.seq (.int .i64) t.2.2)]⟩ : St))) (fun (t : Int × (List Int)) => ((Exit.exit 0), (⟨mkE 45 0 [(5, .slc 1)], [some (.box [.dat (.list (.int .u8)) x202, .dat (.int .i64) t.1]), some (.seq (.int .i64) t.2)]⟩ : St)))) := by
  refine Link.of fun K h => ?_
  simp only [spec_l20Order_n3, wpO_bind, wpO_cond, wpO_map, wpO_some] at h
  exact Awp.of (by kernel_rfl) h

theorem spec_l20Order_n4_l (x201 : Int) (x205 : Int) (x202 : List Int) (x206 : Int) : Link spec_l20Order_ctx LL (Code.fst (Code.snd (Code.fst (Code.snd (Code.snd (Code.snd (bodyOf Try.f41))))))) (Ann.fst (Ann.snd (Ann.fst (Ann.snd (Ann.snd (Ann.snd spec_l20Order_an)))))) (⟨mkE 45 0 [(0, .ptr 0 0), (1, .dat (.int .i64) x201), (5, .slc 1), (6, .dat (.int .i64) x205), (7, .dat (.int .i64) 1)], [some (.box [.dat (.list (.int .u8)) x202, .dat (.int .i64) x206]), some (.seq (.int .i64) ([] : List Int))]⟩ : St) (spec_l20Order_n4 x201 x205 x202 x206) (fun (t : Int × (List Int)) => ((Exit.exit 0), (⟨mkE 45 0 [(5, .slc 1)], [some (.box [.dat (.list (.int .u8)) x202, .dat (.int .i64) t.1]), some (.seq (.int .i64) t.2)]⟩ : St))) := by
  unfold spec_l20Order_n4
  exact Link.cast (by kernel_rfl) (by kernel_rfl) (link_loop (mk := fun (s : Int × Int × (List Int)) => (⟨mkE 45 0 [(0, .ptr 0 0), (1, .dat (.int .i64) x201), (5, .slc 1), (6, .dat (.int .i64) x205), (7, .dat (.int .i64) s.1)], [some (.box [.dat (.list (.int .u8)) x202, .dat (.int .i64) s.2.1]), some (.seq (.int .i64) s.2.2)]⟩ : St)) (fin := (fun (t : Int × (List Int)) => ((Exit.exit 0), (⟨mkE 45 0 [(5, .slc 1)], [some (.box [.dat (.list (.int .u8)) x202, .dat (.int .i64) t.1]), some (.seq (.int .i64) t.2)]⟩ : St)))) (by
  rintro t f K h
  · exact h) (fun s => link_map (spec_l20Order_n3_l x201 x205 s.1 x202 s.2.1 s.2.2) (Sum.elim (fun (t : Int × Int × (List Int)) => Sum.inl (t.1, t.2.1, t.2.2)) (fun (t : Int × (List Int)) => Sum.inr t)) (by
  rintro (t | t)
  · kernel_rfl
  · kernel_rfl)) (1, x206, ([] : List Int)))

theorem spec_l20Order_n5_l (x201 : Int) (x205 : Int) (x202 : List Int) (x206 : Int) : Link spec_l20Order_ctx LL (Code.snd (Code.fst (Code.snd (Code.snd (Code.snd (bodyOf Try.f41)))))) (Ann.snd (Ann.fst (Ann.snd (Ann.snd (Ann.snd spec_l20Order_an))))) (⟨mkE 45 0 [(0, .ptr 0 0), (1, .dat (.int .i64) x201), (5, .slc 1), (6, .dat (.int .i64) x205), (7, .dat (.int .i64) 1)], [some (.box [.dat (.list (.int .u8)) x202, .dat (.int .i64) x206]), some (.seq (.int .i64) ([] : List Int))]⟩ : St) (spec_l20Order_n5 x201 x205 x202 x206) (fun (t : Int × (List Int)) => (Exit.normal, (⟨mkE 45 0 [(5, .slc 1)], [some (.box [.dat (.list (.int .u8)) x202, .dat (.int .i64) t.1]), some (.seq (.int .i64) t.2)]⟩ : St))) := by
  unfold spec_l20Order_n5
  exact Link.cast (by kernel_rfl) (by kernel_rfl) (link_block (id := 0) (spec_l20Order_n4_l x201 x205 x202 x206) (fun (t : Int × (List Int)) => (t.1, t.2)) (by
  rintro t K h
  · exact Eq.mp (by kernel_rfl) h))

theorem spec_l20Order_n6_l (x201 : Int) (x205 : Int) (x202 : List Int) (x206 : Int) : Link spec_l20Order_ctx LL (Code.fst (Code.snd (Code.snd (Code.snd (bodyOf Try.f41))))) (Ann.fst (Ann.snd (Ann.snd (Ann.snd spec_l20Order_an)))) (⟨mkE 45 0 [(0, .ptr 0 0), (1, .dat (.int .i64) x201), (5, .slc 1), (6, .dat (.int .i64) x205)], [some (.box [.dat (.list (.int .u8)) x202, .dat (.int .i64) x206]), some (.seq (.int .i64) ([] : List Int))]⟩ : St) (spec_l20Order_n6 x201 x205 x202 x206) (fun (t : Int × (List Int)) => (Exit.normal, (⟨mkE 45 0 [(5, .slc 1)], [some (.box [.dat (.list (.int .u8)) x202, .dat (.int .i64) t.1]), some (.seq (.int .i64) t.2)]⟩ : St))) := by
  unfold spec_l20Order_n6
  exact Link.cast (by kernel_rfl) (by kernel_rfl) (link_seq (b := (Code.snd (Code.fst (Code.snd (Code.snd (Code.snd (bodyOf Try.f41))))))) (y := (Ann.snd (Ann.fst (Ann.snd (Ann.snd (Ann.snd spec_l20Order_an)))))) (spec_l20Order_n2_l x201 x205 x202 x206) (fun (t : Unit) => (spec_l20Order_n5_l x201 x205 x202 x206)))

theorem spec_l20Order_n7_l (x202 : List Int) (x349 : Int) (x350 : List Int) : Link spec_l20Order_ctx LL (Code.snd (Code.snd (Code.snd (Code.snd (bodyOf Try.f41))))) (Ann.snd (Ann.snd (Ann.snd (Ann.snd spec_l20Order_an)))) (⟨mkE 45 0 [(5, .slc 1)], [some (.box [.dat (.list (.int .u8)) x202, .dat (.int .i64) x349]), some (.seq (.int .i64) x350)]⟩ : St) (spec_l20Order_n7 x349 x350) (fun (t : Int × (List Int)) => (Exit.ret, (⟨mkE 45 0 [(4, .slc 1)], [some (.box [.dat (.list (.int .u8)) x202, .dat (.int .i64) t.1]), some (.seq (.int .i64) t.2)]⟩ : St))) := by
  refine Link.of fun K h => ?_
  simp only [spec_l20Order_n7, wpO_bind, wpO_cond, wpO_map, wpO_some] at h
  exact Awp.of (by kernel_rfl) h

theorem spec_l20Order_n8_l (x201 : Int) (x205 : Int) (x202 : List Int) (x206 : Int) : Link spec_l20Order_ctx LL (Code.snd (Code.snd (Code.snd (bodyOf Try.f41)))) (Ann.snd (Ann.snd (Ann.snd spec_l20Order_an))) (⟨mkE 45 0 [(0, .ptr 0 0), (1, .dat (.int .i64) x201), (5, .slc 1), (6, .dat (.int .i64) x205)], [some (.box [.dat (.list (.int .u8)) x202, .dat (.int .i64) x206]), some (.seq (.int .i64) ([] : List Int))]⟩ : St) (spec_l20Order_n8 x201 x205 x202 x206) (fun (t : Int × (List Int)) => (Exit.ret, (⟨mkE 45 0 [(4, .slc 1)], [some (.box [.dat (.list (.int .u8)) x202, .dat (.int .i64) t.1]), some (.seq (.int .i64) t.2)]⟩ : St))) := by
  unfold spec_l20Order_n8
  exact Link.cast (by kernel_rfl) (by kernel_rfl) (link_seq (b := (Code.snd (Code.snd (Code.snd (Code.snd (bodyOf Try.f41)))))) (y := (Ann.snd (Ann.snd (Ann.snd (Ann.snd spec_l20Order_an))))) (spec_l20Order_n6_l x201 x205 x202 x206) (fun (t : Int × (List Int)) => (spec_l20Order_n7_l x202 t.1 t.2)))

theorem spec_l20Order_n9_l (x201 : Int) (x202 : List Int) (x203 : Int) : Link spec_l20Order_ctx LL (bodyOf Try.f41) spec_l20Order_an (⟨mkE 45 0 [(0, .ptr 0 0), (1, .dat (.int .i64) x201)], [some (.box [.dat (.list (.int .u8)) x202, .dat (.int .i64) x203])]⟩ : St) (spec_l20Order_n9 x201 x202 x203) (fun (t : Int × (List Int)) => (Exit.ret, (⟨mkE 45 0 [(4, .slc 1)], [some (.box [.dat (.list (.int .u8)) x202, .dat (.int .i64) t.1]), some (.seq (.int .i64) t.2)]⟩ : St))) := by
  unfold spec_l20Order_n9
  exact Link.cast (by kernel_rfl) (by kernel_rfl) (link_group (c := (Code.fst (Code.snd (Code.snd (bodyOf Try.f41))))) (a := (Ann.fst (Ann.snd (Ann.snd spec_l20Order_an)))) [(Code.fst (bodyOf Try.f41)), (Code.fst (Code.snd (bodyOf Try.f41)))] [(Ann.fst spec_l20Order_an), (Ann.fst (Ann.snd spec_l20Order_an))] rfl (link_seq (b := (Code.snd (Code.snd (Code.snd (bodyOf Try.f41))))) (y := (Ann.snd (Ann.snd (Ann.snd spec_l20Order_an)))) (spec_l20Order_n1_l x201 x202 x203) (fun (t : Int × Int) => (spec_l20Order_n8_l x201 t.1 x202 t.2))))

theorem spec_l20Order_e (x201 : Int) (x202 : List Int) (x203 : Int) {r : AV} {H' : Heap} (h : (Ans.mk _ (spec_l20Order x201 x202 x203) (fun (t : Int × (List Int)) => (.slc 1, [some (.box [.dat (.list (.int .u8)) x202, .dat (.int .i64) t.1]), some (.seq (.int .i64) t.2)]))).run = some (r, H')) : Awp spec_l20Order_ctx LL (bodyOf Try.f41) spec_l20Order_an (⟨mkE 45 0 [(0, .ptr 0 0), (1, .dat (.int .i64) x201)], [some (.box [.dat (.list (.int .u8)) x202, .dat (.int .i64) x203])]⟩ : St) (Ret (tlook tys) Try.f41.results.toList r H') :=
  ret_of' (spec_l20Order_n9_l x201 x202 x203) (by unfold spec_l20Order; kernel_rfl) (by
  intro t
  exact ret_mk [.slc 1] (by kernel_rfl) (by kernel_rfl) (by kernel_rfl) (by kernel_rfl)) h

def F_spec_l20Order : Fun := fun avs H =>
  match avs, H with
  | [.ptr 0 0, .dat (.int .i64) x201], [some (.box [.dat (.list (.int .u8)) x202, .dat (.int .i64) x203])] => ⟨_, spec_l20Order x201 x202 x203, fun (t : Int × (List Int)) => (.slc 1, [some (.box [.dat (.list (.int .u8)) x202, .dat (.int .i64) t.1]), some (.seq (.int .i64) t.2)])⟩
  | _, _ => Ans.no

theorem spec_l20Order_sound : Sound Try.prog 41 F_spec_l20Order := by
  refine fn_sound' (C := spec_l20Order_ctx) (c := bodyOf Try.f41) (cok_of tys_ok (List.forall_mem_cons.2 ⟨spec_l20Rd_pick_sound, by simp⟩) (List.forall_mem_cons.2 ⟨Try.call39, by simp⟩) (by kernel_rfl)) Try.func41 (by kernel_rfl) LL spec_l20Order_an ?_
  intro avs H r H' h
  unfold F_spec_l20Order at h
  split at h
  · refine Awp.cast ?_ ?_ ?_ (spec_l20Order_e _ _ _ h) <;> kernel_rfl
  · simp [Ans.no, Ans.run] at h

/-! (*loop.example/headtrees/spec.l20Rd).odd -/

def spec_l20Rd_odd_an : Ann := (.seq (.leaf [0, 1]) (.seq (.leaf [4]) (.leaf [4])))

noncomputable def spec_l20Rd_odd_ctx : Ctx := ⟨tlook tys, olook [(39, F_spec_l20Rd_pick)], ioF, 1⟩

theorem spec_l20Rd_odd_n1_l (x657 : Int) (x658 : List Int) (x659 : Int) : Link spec_l20Rd_odd_ctx LL (bodyOf Try.f45) spec_l20Rd_odd_an (⟨mkE 15 0 [(0, .ptr 0 0), (1, .dat (.int .i64) x657)], [some (.box [.dat (.list (.int .u8)) x658, .dat (.int .i64) x659])]⟩ : St) (spec_l20Rd_odd_n1 x657 x658 x659) (fun (t : Bool × Int) => (Exit.ret, (⟨mkE 15 0 [(4, .dat .bool t.1)], [some (.box [.dat (.list (.int .u8)) x658, .dat (.int .i64) t.2])]⟩ : St))) := by
  refine Link.of fun K h => ?_
  simp only [spec_l20Rd_odd_n1, wpO_bind, wpO_cond, wpO_map, wpO_some] at h
  exact Awp.of (by kernel_rfl) h

theorem spec_l20Rd_odd_e (x657 : Int) (x658 : List Int) (x659 : Int) {r : AV} {H' : Heap} (h : (Ans.mk _ (spec_l20Rd_odd x657 x658 x659) (fun (t : Bool × Int) => (.dat .bool t.1, [some (.box [.dat (.list (.int .u8)) x658, .dat (.int .i64) t.2])]))).run = some (r, H')) : Awp spec_l20Rd_odd_ctx LL (bodyOf Try.f45) spec_l20Rd_odd_an (⟨mkE 15 0 [(0, .ptr 0 0), (1, .dat (.int .i64) x657)], [some (.box [.dat (.list (.int .u8)) x658, .dat (.int .i64) x659])]⟩ : St) (Ret (tlook tys) Try.f45.results.toList r H') :=
  ret_of' (spec_l20Rd_odd_n1_l x657 x658 x659) (by unfold spec_l20Rd_odd; kernel_rfl) (by
  intro t
  exact ret_mk [.dat .bool t.1] (by kernel_rfl) (by kernel_rfl) (by kernel_rfl) (by kernel_rfl)) h

def F_spec_l20Rd_odd : Fun := fun avs H =>
  match avs, H with
  | [.ptr 0 0, .dat (.int .i64) x657], [some (.box [.dat (.list (.int .u8)) x658, .dat (.int .i64) x659])] => ⟨_, spec_l20Rd_odd x657 x658 x659, fun (t : Bool × Int) => (.dat .bool t.1, [some (.box [.dat (.list (.int .u8)) x658, .dat (.int .i64) t.2])])⟩
  | _, _ => Ans.no

theorem spec_l20Rd_odd_sound : Sound Try.prog 45 F_spec_l20Rd_odd := by
  refine fn_sound' (C := spec_l20Rd_odd_ctx) (c := bodyOf Try.f45) (cok_of tys_ok (List.forall_mem_cons.2 ⟨spec_l20Rd_pick_sound, by simp⟩) (List.forall_mem_cons.2 ⟨Try.call39, by simp⟩) (by kernel_rfl)) Try.func45 (by kernel_rfl) LL spec_l20Rd_odd_an ?_
  intro avs H r H' h
  unfold F_spec_l20Rd_odd at h
  split at h
  · refine Awp.cast ?_ ?_ ?_ (spec_l20Rd_odd_e _ _ _ h) <;> kernel_rfl
  · simp [Ans.no, Ans.run] at h

/-! loop.example/headtrees/spec.l20Tree -/

def spec_l20Tree_an : Ann := (.seq (.leaf [0, 1]) (.seq (.leaf [0, 1, 5]) (.seq (.leaf [0, 1, 5, 6]) (.seq (.leaf [0, 1, 5, 6, 7]) (.seq (.leaf [0, 1, 5, 6, 7, 8]) (.seq (.seq (.leaf [0, 1, 5, 6, 7, 8, 9]) (.block (.loop (.seq (.seq (.leaf [0, 1, 5, 6, 7, 8, 9, 23]) (.cond (.leaf [0, 1, 5, 6, 7, 8, 9]) (.leaf [0, 1, 5, 7]))) (.seq (.block (.seq (.leaf [0, 1, 5, 6, 7, 8, 9, 10]) (.seq (.seq (.leaf [0, 1, 5, 6, 7, 8, 9, 10, 35]) (.cond (.leaf [0, 1, 5, 6, 7, 8, 9, 10]) (.leaf [0, 1, 5, 6, 7, 8, 9, 10]))) (.draw [] [0, 1, 2, 3, 4, 5, 6, 7, 8, 9, 10, 11] [] [0, 1, 5, 6, 7, 8, 9])))) (.leaf [0, 1, 5, 6, 7, 8, 9])))))) (.seq (.seq (.leaf [0, 5, 7, 51]) (.cond (.seq (.leaf [0, 5, 7, 53]) (.block (.seq (.leaf [0, 5, 7, 53, 63]) (.cond (.seq (.leaf [4]) (.leaf [4])) (.seq (.leaf [0, 5, 7, 53, 66]) (.cond (.seq (.leaf [4]) (.leaf [4])) (.seq (.leaf [0, 5, 7, 69]) (.cond (.seq (.leaf [7]) (.seq (.leaf [4]) (.leaf [4]))) (.leaf [7]))))))))) (.leaf [7]))) (.seq (.leaf [4]) (.leaf [4])))))))))

noncomputable def spec_l20Tree_ctx : Ctx := ⟨tlook tys, olook [(39, F_spec_l20Rd_pick), (41, F_spec_l20Order), (45, F_spec_l20Rd_odd)], ioF, 1⟩

theorem spec_l20Tree_n1_l (x34 : Int) (x35 : List Int) (x36 : Int) : Link spec_l20Tree_ctx LL (Code.seq (Code.fst (bodyOf Try.f33)) (Code.seq (Code.fst (Code.snd (bodyOf Try.f33))) (Code.seq (Code.fst (Code.snd (Code.snd (bodyOf Try.f33)))) (Code.seq (Code.fst (Code.snd (Code.snd (Code.snd (bodyOf Try.f33))))) (Code.fst (Code.snd (Code.snd (Code.snd (Code.snd (bodyOf Try.f33)))))))))) (Ann.seq (Ann.fst spec_l20Tree_an) (Ann.seq (Ann.fst (Ann.snd spec_l20Tree_an)) (Ann.seq (Ann.fst (Ann.snd (Ann.snd spec_l20Tree_an))) (Ann.seq (Ann.fst (Ann.snd (Ann.snd (Ann.snd spec_l20Tree_an)))) (Ann.fst (Ann.snd (Ann.snd (Ann.snd (Ann.snd spec_l20Tree_an))))))))) (⟨mkE 80 0 [(0, .ptr 0 0), (1, .dat (.int .i64) x34)], [some (.box [.dat (.list (.int .u8)) x35, .dat (.int .i64) x36])]⟩ : St) (spec_l20Tree_n1 x35 x36) (fun (t : Int × Int × Int × (List Int) × (List Int)) => (Exit.normal, (⟨mkE 80 0 [(0, .ptr 0 0), (1, .dat (.int .i64) x34), (5, .dat (.int .i64) t.1), (6, .slc 1), (7, .slc 2), (8, .dat (.int .i64) t.2.1)], [some (.box [.dat (.list (.int .u8)) x35, .dat (.int .i64) t.2.2.1]), some (.seq (.int .i64) t.2.2.2.1), some (.seq (.int .i64) t.2.2.2.2)]⟩ : St))) := by
  refine Link.of fun K h => ?_
  simp only [spec_l20Tree_n1, wpO_bind, wpO_cond, wpO_map, wpO_some] at h
  exact Awp.of (by kernel_rfl) h

theorem spec_l20Tree_n2_l (x34 : Int) (x507 : Int) (x514 : Int) (x35 : List Int) (x515 : Int) (x510 : List Int) (x512 : List Int) : Link spec_l20Tree_ctx LL (Code.fst (Code.fst (Code.snd (Code.snd (Code.snd (Code.snd (Code.snd (bodyOf Try.f33)))))))) (Ann.fst (Ann.fst (Ann.snd (Ann.snd (Ann.snd (Ann.snd (Ann.snd spec_l20Tree_an))))))) (⟨mkE 80 0 [(0, .ptr 0 0), (1, .dat (.int .i64) x34), (5, .dat (.int .i64) x507), (6, .slc 1), (7, .slc 2), (8, .dat (.int .i64) x514)], [some (.box [.dat (.list (.int .u8)) x35, .dat (.int .i64) x515]), some (.seq (.int .i64) x510), some (.seq (.int .i64) x512)]⟩ : St) (spec_l20Tree_n2) (fun (t : Unit) => (Exit.normal, (⟨mkE 80 0 [(0, .ptr 0 0), (1, .dat (.int .i64) x34), (5, .dat (.int .i64) x507), (6, .slc 1), (7, .slc 2), (8, .dat (.int .i64) x514), (9, .dat (.int .i64) 1)], [some (.box [.dat (.list (.int .u8)) x35, .dat (.int .i64) x515]), some (.seq (.int .i64) x510), some (.seq (.int .i64) x512)]⟩ : St))) := by
  refine Link.of fun K h => ?_
  simp only [spec_l20Tree_n2, wpO_bind, wpO_cond, wpO_map, wpO_some] at h
  exact Awp.of (by kernel_rfl) h

theorem spec_l20Tree_n3_l (x34 : Int) (x507 : Int) (x514 : Int) (x585 : Int) (x35 : List Int) (x586 : Int) (x510 : List Int) (x587 : List Int) : Link spec_l20Tree_ctx LL (Code.fst (Code.fst (Code.snd (Code.fst (Code.snd (Code.snd (Code.snd (Code.snd (Code.snd (bodyOf Try.f33)))))))))) (Ann.fst (Ann.fst (Ann.snd (Ann.fst (Ann.snd (Ann.snd (Ann.snd (Ann.snd (Ann.snd spec_l20Tree_an))))))))) (⟨mkE 80 0 [(0, .ptr 0 0), (1, .dat (.int .i64) x34), (5, .dat (.int .i64) x507), (6, .slc 1), (7, .slc 2), (8, .dat (.int .i64) x514), (9, .dat (.int .i64) x585)], [some (.box [.dat (.list (.int .u8)) x35, .dat (.int .i64) x586]), some (.seq (.int .i64) x510), some (.seq (.int .i64) x587)]⟩ : St) (spec_l20Tree_n3 x507 x514 x585 x35 x586 x510 x587) (Sum.elim (fun (t : Int × Int × (List Int)) => (Exit.normal, (⟨mkE 80 0 [(0, .ptr 0 0), (1, .dat (.int .i64) x34), (5, .dat (.int .i64) x507), (6, .slc 1), (7, .slc 2), (8, .dat (.int .i64) x514), (9, .dat (.int .i64) t.1)], [some (.box [.dat (.list (.int .u8)) x35, .dat (.int .i64) t.2.1]), some (.seq (.int .i64) x510), some (.seq (.int .i64) t.2.2)]⟩ : St))) (fun (t : Int × (List Int)) => ((Exit.exit 0), (⟨mkE 80 0 [(0, .ptr 0 0), (1, .dat (.int .i64) x34), (5, .dat (.int .i64) x507), (7, .slc 1)], [some (.box [.dat (.list (.int .u8)) x35, .dat (.int .i64) t.1]), some (.seq (.int .i64) t.2)]⟩ : St)))) := by
  refine Link.of fun K h => ?_
  simp only [spec_l20Tree_n3, wpO_bind, wpO_cond, wpO_map, wpO_some] at h
  exact Awp.of (by kernel_rfl) h

theorem spec_l20Tree_n4_l (x34 : Int) (x507 : Int) (x514 : Int) (x35 : List Int) (x515 : Int) (x510 : List Int) (x512 : List Int) : Link spec_l20Tree_ctx LL (Code.fst (Code.snd (Code.fst (Code.snd (Code.snd (Code.snd (Code.snd (Code.snd (bodyOf Try.f33))))))))) (Ann.fst (Ann.snd (Ann.fst (Ann.snd (Ann.snd (Ann.snd (Ann.snd (Ann.snd spec_l20Tree_an)))))))) (⟨mkE 80 0 [(0, .ptr 0 0), (1, .dat (.int .i64) x34), (5, .dat (.int .i64) x507), (6, .slc 1), (7, .slc 2), (8, .dat (.int .i64) x514), (9, .dat (.int .i64) 1)], [some (.box [.dat (.list (.int .u8)) x35, .dat (.int .i64) x515]), some (.seq (.int .i64) x510), some (.seq (.int .i64) x512)]⟩ : St) (spec_l20Tree_n4 x507 x514 x35 x515 x510 x512) (fun (t : Int × (List Int)) => ((Exit.exit 0), (⟨mkE 80 0 [(0, .ptr 0 0), (1, .dat (.int .i64) x34), (5, .dat (.int .i64) x507), (7, .slc 1)], [some (.box [.dat (.list (.int .u8)) x35, .dat (.int .i64) t.1]), some (.seq (.int .i64) t.2)]⟩ : St))) := by
  unfold spec_l20Tree_n4
  exact Link.cast (by kernel_rfl) (by kernel_rfl) (link_loop (mk := fun (s : Int × Int × (List Int)) => (⟨mkE 80 0 [(0, .ptr 0 0), (1, .dat (.int .i64) x34), (5, .dat (.int .i64) x507), (6, .slc 1), (7, .slc 2), (8, .dat (.int .i64) x514), (9, .dat (.int .i64) s.1)], [some (.box [.dat (.list (.int .u8)) x35, .dat (.int .i64) s.2.1]), some (.seq (.int .i64) x510), some (.seq (.int .i64) s.2.2)]⟩ : St)) (fin := (fun (t : Int × (List Int)) => ((Exit.exit 0), (⟨mkE 80 0 [(0, .ptr 0 0), (1, .dat (.int .i64) x34), (5, .dat (.int .i64) x507), (7, .slc 1)], [some (.box [.dat (.list (.int .u8)) x35, .dat (.int .i64) t.1]), some (.seq (.int .i64) t.2)]⟩ : St)))) (by
  rintro t f K h
  · exact h) (fun s => link_map (spec_l20Tree_n3_l x34 x507 x514 s.1 x35 s.2.1 x510 s.2.2) (Sum.elim (fun (t : Int × Int × (List Int)) => Sum.inl (t.1, t.2.1, t.2.2)) (fun (t : Int × (List Int)) => Sum.inr t)) (by
  rintro (t | t)
  · kernel_rfl
  · kernel_rfl)) (1, x515, x512))

theorem spec_l20Tree_n5_l (x34 : Int) (x507 : Int) (x514 : Int) (x35 : List Int) (x515 : Int) (x510 : List Int) (x512 : List Int) : Link spec_l20Tree_ctx LL (Code.snd (Code.fst (Code.snd (Code.snd (Code.snd (Code.snd (Code.snd (bodyOf Try.f33)))))))) (Ann.snd (Ann.fst (Ann.snd (Ann.snd (Ann.snd (Ann.snd (Ann.snd spec_l20Tree_an))))))) (⟨mkE 80 0 [(0, .ptr 0 0), (1, .dat (.int .i64) x34), (5, .dat (.int .i64) x507), (6, .slc 1), (7, .slc 2), (8, .dat (.int .i64) x514), (9, .dat (.int .i64) 1)], [some (.box [.dat (.list (.int .u8)) x35, .dat (.int .i64) x515]), some (.seq (.int .i64) x510), some (.seq (.int .i64) x512)]⟩ : St) (spec_l20Tree_n5 x507 x514 x35 x515 x510 x512) (fun (t : Int × (List Int)) => (Exit.normal, (⟨mkE 80 0 [(0, .ptr 0 0), (1, .dat (.int .i64) x34), (5, .dat (.int .i64) x507), (7, .slc 1)], [some (.box [.dat (.list (.int .u8)) x35, .dat (.int .i64) t.1]), some (.seq (.int .i64) t.2)]⟩ : St))) := by
  unfold spec_l20Tree_n5
  exact Link.cast (by kernel_rfl) (by kernel_rfl) (link_block (id := 0) (spec_l20Tree_n4_l x34 x507 x514 x35 x515 x510 x512) (fun (t : Int × (List Int)) => (t.1, t.2)) (by
  rintro t K h
  · exact Eq.mp (by kernel_rfl) h))

theorem spec_l20Tree_n6_l (x34 : Int) (x507 : Int) (x514 : Int) (x35 : List Int) (x515 : Int) (x510 : List Int) (x512 : List Int) : Link spec_l20Tree_ctx LL (Code.fst (Code.snd (Code.snd (Code.snd (Code.snd (Code.snd (bodyOf Try.f33))))))) (Ann.fst (Ann.snd (Ann.snd (Ann.snd (Ann.snd (Ann.snd spec_l20Tree_an)))))) (⟨mkE 80 0 [(0, .ptr 0 0), (1, .dat (.int .i64) x34), (5, .dat (.int .i64) x507), (6, .slc 1), (7, .slc 2), (8, .dat (.int .i64) x514)], [some (.box [.dat (.list (.int .u8)) x35, .dat (.int .i64) x515]), some (.seq (.int .i64) x510), some (.seq (.int .i64) x512)]⟩ : St) (spec_l20Tree_n6 x507 x514 x35 x515 x510 x512) (fun (t : Int × (List Int)) => (Exit.normal, (⟨mkE 80 0 [(0, .ptr 0 0), (1, .dat (.int .i64) x34), (5, .dat (.int .i64) x507), (7, .slc 1)], [some (.box [.dat (.list (.int .u8)) x35, .dat (.int .i64) t.1]), some (.seq (.int .i64) t.2)]⟩ : St))) := by
  unfold spec_l20Tree_n6
  exact Link.cast (by kernel_rfl) (by kernel_rfl) (link_seq (b := (Code.snd (Code.fst (Code.snd (Code.snd (Code.snd (Code.snd (Code.snd (bodyOf Try.f33))))))))) (y := (Ann.snd (Ann.fst (Ann.snd (Ann.snd (Ann.snd (Ann.snd (Ann.snd spec_l20Tree_an)))))))) (spec_l20Tree_n2_l x34 x507 x514 x35 x515 x510 x512) (fun (t : Unit) => (spec_l20Tree_n5_l x34 x507 x514 x35 x515 x510 x512)))

theorem spec_l20Tree_n7_l (x34 : Int) (x507 : Int) (x35 : List Int) (x586 : Int) (x587 : List Int) : Link spec_l20Tree_ctx LL (Code.snd (Code.snd (Code.snd (Code.snd (Code.snd (Code.snd (bodyOf Try.f33))))))) (Ann.snd (Ann.snd (Ann.snd (Ann.snd (Ann.snd (Ann.snd spec_l20Tree_an)))))) (⟨mkE 80 0 [(0, .ptr 0 0), (1, .dat (.int .i64) x34), (5, .dat (.int .i64) x507), (7, .slc 1)], [some (.box [.dat (.list (.int .u8)) x35, .dat (.int .i64) x586]), some (.seq (.int .i64) x587)]⟩ : St) (spec_l20Tree_n7 x34 x507 x35 x586 x587) (fun (t : Int × (List Int)) => (Exit.ret, (⟨mkE 80 0 [(4, .slc 1)], [some (.box [.dat (.list (.int .u8)) x35, .dat (.int .i64) t.1]), some (.seq (.int .i64) t.2)]⟩ : St))) := by
  refine Link.of fun K h => ?_
  simp only [spec_l20Tree_n7, wpO_bind, wpO_cond, wpO_map, wpO_some] at h
  exact Awp.of (by kernel_rfl) h

theorem spec_l20Tree_n8_l (x34 : Int) (x507 : Int) (x514 : Int) (x35 : List Int) (x515 : Int) (x510 : List Int) (x512 : List Int) : Link spec_l20Tree_ctx LL (Code.snd (Code.snd (Code.snd (Code.snd (Code.snd (bodyOf Try.f33)))))) (Ann.snd (Ann.snd (Ann.snd (Ann.snd (Ann.snd spec_l20Tree_an))))) (⟨mkE 80 0 [(0, .ptr 0 0), (1, .dat (.int .i64) x34), (5, .dat (.int .i64) x507), (6, .slc 1), (7, .slc 2), (8, .dat (.int .i64) x514)], [some (.box [.dat (.list (.int .u8)) x35, .dat (.int .i64) x515]), some (.seq (.int .i64) x510), some (.seq (.int .i64) x512)]⟩ : St) (spec_l20Tree_n8 x34 x507 x514 x35 x515 x510 x512) (fun (t : Int × (List Int)) => (Exit.ret, (⟨mkE 80 0 [(4, .slc 1)], [some (.box [.dat (.list (.int .u8)) x35, .dat (.int .i64) t.1]), some (.seq (.int .i64) t.2)]⟩ : St))) := by
  unfold spec_l20Tree_n8
  exact Link.cast (by kernel_rfl) (by kernel_rfl) (link_seq (b := (Code.snd (Code.snd (Code.snd (Code.snd (Code.snd (Code.snd (bodyOf Try.f33)))))))) (y := (Ann.snd (Ann.snd (Ann.snd (Ann.snd (Ann.snd (Ann.snd spec_l20Tree_an))))))) (spec_l20Tree_n6_l x34 x507 x514 x35 x515 x510 x512) (fun (t : Int × (List Int)) => (spec_l20Tree_n7_l x34 x507 x35 t.1 t.2)))

theorem spec_l20Tree_n9_l (x34 : Int) (x35 : List Int) (x36 : Int) : Link spec_l20Tree_ctx LL (bodyOf Try.f33) spec_l20Tree_an (⟨mkE 80 0 [(0, .ptr 0 0), (1, .dat (.int .i64) x34)], [some (.box [.dat (.list (.int .u8)) x35, .dat (.int .i64) x36])]⟩ : St) (spec_l20Tree_n9 x34 x35 x36) (fun (t : Int × (List Int)) => (Exit.ret, (⟨mkE 80 0 [(4, .slc 1)], [some (.box [.dat (.list (.int .u8)) x35, .dat (.int .i64) t.1]), some (.seq (.int .i64) t.2)]⟩ : St))) := by
  unfold spec_l20Tree_n9
  exact Link.cast (by kernel_rfl) (by kernel_rfl) (link_group (c := (Code.fst (Code.snd (Code.snd (Code.snd (Code.snd (bodyOf Try.f33))))))) (a := (Ann.fst (Ann.snd (Ann.snd (Ann.snd (Ann.snd spec_l20Tree_an)))))) [(Code.fst (bodyOf Try.f33)), (Code.fst (Code.snd (bodyOf Try.f33))), (Code.fst (Code.snd (Code.snd (bodyOf Try.f33)))), (Code.fst (Code.snd (Code.snd (Code.snd (bodyOf Try.f33)))))] [(Ann.fst spec_l20Tree_an), (Ann.fst (Ann.snd spec_l20Tree_an)), (Ann.fst (Ann.snd (Ann.snd spec_l20Tree_an))), (Ann.fst (Ann.snd (Ann.snd (Ann.snd spec_l20Tree_an))))] rfl (link_seq (b := (Code.snd (Code.snd (Code.snd (Code.snd (Code.snd (bodyOf Try.f33))))))) (y := (Ann.snd (Ann.snd (Ann.snd (Ann.snd (Ann.snd spec_l20Tree_an)))))) (spec_l20Tree_n1_l x34 x35 x36) (fun (t : Int × Int × Int × (List Int) × (List Int)) => (spec_l20Tree_n8_l x34 t.1 t.2.1 x35 t.2.2.1 t.2.2.2.1 t.2.2.2.2))))

theorem spec_l20Tree_e (x34 : Int) (x35 : List Int) (x36 : Int) {r : AV} {H' : Heap} (h : (Ans.mk _ (spec_l20Tree x34 x35 x36) (fun (t : Int × (List Int)) => (.slc 1, [some (.box [.dat (.list (.int .u8)) x35, .dat (.int .i64) t.1]), some (.seq (.int .i64) t.2)]))).run = some (r, H')) : Awp spec_l20Tree_ctx LL (bodyOf Try.f33) spec_l20Tree_an (⟨mkE 80 0 [(0, .ptr 0 0), (1, .dat (.int .i64) x34)], [some (.box [.dat (.list (.int .u8)) x35, .dat (.int .i64) x36])]⟩ : St) (Ret (tlook tys) Try.f33.results.toList r H') :=
  ret_of' (spec_l20Tree_n9_l x34 x35 x36) (by unfold spec_l20Tree; kernel_rfl) (by
  intro t
  exact ret_mk [.slc 1] (by kernel_rfl) (by kernel_rfl) (by kernel_rfl) (by kernel_rfl)) h

def F_spec_l20Tree : Fun := fun avs H =>
  match avs, H with
  | [.ptr 0 0, .dat (.int .i64) x34], [some (.box [.dat (.list (.int .u8)) x35, .dat (.int .i64) x36])] => ⟨_, spec_l20Tree x34 x35 x36, fun (t : Int × (List Int)) => (.slc 1, [some (.box [.dat (.list (.int .u8)) x35, .dat (.int .i64) t.1]), some (.seq (.int .i64) t.2)])⟩
  | _, _ => Ans.no

theorem spec_l20Tree_sound : Sound Try.prog 33 F_spec_l20Tree := by
  refine fn_sound' (C := spec_l20Tree_ctx) (c := bodyOf Try.f33) (cok_of tys_ok (List.forall_mem_cons.2 ⟨spec_l20Rd_pick_sound, List.forall_mem_cons.2 ⟨spec_l20Order_sound, List.forall_mem_cons.2 ⟨spec_l20Rd_odd_sound, by simp⟩⟩⟩) (List.forall_mem_cons.2 ⟨Try.call39, List.forall_mem_cons.2 ⟨Try.call41, List.forall_mem_cons.2 ⟨Try.call45, by simp⟩⟩⟩) (by kernel_rfl)) Try.func33 (by kernel_rfl) LL spec_l20Tree_an ?_
  intro avs H r H' h
  unfold F_spec_l20Tree at h
  split at h
  · refine Awp.cast ?_ ?_ ?_ (spec_l20Tree_e _ _ _ h) <;> kernel_rfl
  · simp [Ans.no, Ans.run] at h

/-! loop.example/headtrees/spec.DrawTreeOk -/

def spec_DrawTreeOk_an : Ann := (.seq (.leaf [0]) (.seq (.leaf [2]) (.leaf [2])))

noncomputable def spec_DrawTreeOk_ctx : Ctx := ⟨tlook tys, olook [(34, F_spec_l20Open), (33, F_spec_l20Tree)], ioF, 0⟩

theorem spec_DrawTreeOk_n1_l (x10 : List Int) : Link spec_DrawTreeOk_ctx LL (bodyOf Try.f10) spec_DrawTreeOk_an (⟨mkE 6 0 [(0, .dat (.list (.int .u8)) x10)], []⟩ : St) (spec_DrawTreeOk_n1 x10) (fun (t : (List Int)) => (Exit.ret, (⟨mkE 6 0 [(2, .slc 0)], [some (.seq (.int .i64) t)]⟩ : St))) := by
  refine Link.of fun K h => ?_
  simp only [spec_DrawTreeOk_n1, wpO_bind, wpO_cond, wpO_map, wpO_some] at h
  exact Awp.of (by kernel_rfl) h

theorem spec_DrawTreeOk_e (x10 : List Int) {r : AV} {H' : Heap} (h : (Ans.mk _ (spec_DrawTreeOk x10) (fun (t : (List Int)) => (.slc 0, [some (.seq (.int .i64) t)]))).run = some (r, H')) : Awp spec_DrawTreeOk_ctx LL (bodyOf Try.f10) spec_DrawTreeOk_an (⟨mkE 6 0 [(0, .dat (.list (.int .u8)) x10)], []⟩ : St) (Ret (tlook tys) Try.f10.results.toList r H') :=
  ret_of' (spec_DrawTreeOk_n1_l x10) (by unfold spec_DrawTreeOk; kernel_rfl) (by
  intro t
  exact ret_mk [.slc 0] (by kernel_rfl) (by kernel_rfl) (by kernel_rfl) (by kernel_rfl)) h

def F_spec_DrawTreeOk : Fun := fun avs H =>
  match avs, H with
  | [.dat (.list (.int .u8)) x10], [] => ⟨_, spec_DrawTreeOk x10, fun (t : (List Int)) => (.slc 0, [some (.seq (.int .i64) t)])⟩
  | _, _ => Ans.no

theorem spec_DrawTreeOk_sound : Sound Try.prog 10 F_spec_DrawTreeOk := by
  refine fn_sound' (C := spec_DrawTreeOk_ctx) (c := bodyOf Try.f10) (cok_of tys_ok (List.forall_mem_cons.2 ⟨spec_l20Open_sound, List.forall_mem_cons.2 ⟨spec_l20Tree_sound, by simp⟩⟩) (List.forall_mem_cons.2 ⟨Try.call34, List.forall_mem_cons.2 ⟨Try.call33, by simp⟩⟩) (by kernel_rfl)) Try.func10 (by kernel_rfl) LL spec_DrawTreeOk_an ?_
  intro avs H r H' h
  unfold F_spec_DrawTreeOk at h
  split at h
  · refine Awp.cast ?_ ?_ ?_ (spec_DrawTreeOk_e _ h) <;> kernel_rfl
  · simp [Ans.no, Ans.run] at h

/-! loop.example/headtrees/impl.oneRoot -/

def impl_oneRoot_an : Ann := (.seq (.leaf [0]) (.seq (.leaf [0, 3]) (.seq (.seq (.leaf [0, 3, 6, 7, 8]) (.block (.loop (.seq (.leaf [0, 3, 6, 7, 8, 9]) (.seq (.cond (.leaf [0, 3, 6, 7, 8]) (.leaf [3])) (.seq (.block (.seq (.leaf [0, 3, 5, 6, 7, 8]) (.seq (.seq (.leaf [0, 3, 5, 6, 7, 8, 19]) (.cond (.seq (.leaf [2]) (.leaf [2])) (.leaf [0, 3, 5, 6, 7, 8]))) (.seq (.leaf [0, 3, 6, 7, 8, 21]) (.cond (.leaf [0, 3, 6, 7, 8]) (.leaf [0, 3, 6, 7, 8])))))) (.leaf [0, 3, 6, 7, 8]))))))) (.seq (.leaf [2]) (.leaf [2])))))

noncomputable def impl_oneRoot_ctx : Ctx := ⟨tlook tys, olook [], ioF, 0⟩

theorem impl_oneRoot_n1_l (x779 : List Int) : Link impl_oneRoot_ctx LL (Code.seq (Code.fst (bodyOf Try.f35)) (Code.fst (Code.snd (bodyOf Try.f35)))) (Ann.seq (Ann.fst impl_oneRoot_an) (Ann.fst (Ann.snd impl_oneRoot_an))) (⟨mkE 27 0 [(0, .dat (.list (.int .i64)) x779)], []⟩ : St) (impl_oneRoot_n1) (fun (t : Unit) => (Exit.normal, (⟨mkE 27 0 [(0, .dat (.list (.int .i64)) x779), (3, .dat (.int .i64) 0)], []⟩ : St))) := by
  refine Link.of fun K h => ?_
  simp only [impl_oneRoot_n1, wpO_bind, wpO_cond, wpO_map, wpO_some] at h
  exact Awp.of (by kernel_rfl) h

theorem impl_oneRoot_n2_l (x779 : List Int) : Link impl_oneRoot_ctx LL (Code.fst (Code.fst (Code.snd (Code.snd (bodyOf Try.f35))))) (Ann.fst (Ann.fst (Ann.snd (Ann.snd impl_oneRoot_an)))) (⟨mkE 27 0 [(0, .dat (.list (.int .i64)) x779), (3, .dat (.int .i64) 0)], []⟩ : St) (impl_oneRoot_n2 x779) (fun (t : Int) => (Exit.normal, (⟨mkE 27 0 [(0, .dat (.list (.int .i64)) x779), (3, .dat (.int .i64) 0), (6, .dat (.list (.int .i64)) x779), (7, .dat (.int .i64) t), (8, .dat (.int .i64) 0)], []⟩ : St))) := by
  refine Link.of fun K h => ?_
  simp only [impl_oneRoot_n2, wpO_bind, wpO_cond, wpO_map, wpO_some] at h
  exact Awp.of (by kernel_rfl) h

theorem impl_oneRoot_n3_l (x779 : List Int) (x801 : Int) (x780 : Int) (x802 : Int) : Link impl_oneRoot_ctx LL (Code.fst (Code.fst (Code.snd (Code.fst (Code.snd (Code.snd (bodyOf Try.f35))))))) (Ann.fst (Ann.fst (Ann.snd (Ann.fst (Ann.snd (Ann.snd impl_oneRoot_an)))))) (⟨mkE 27 0 [(0, .dat (.list (.int .i64)) x779), (3, .dat (.int .i64) x801), (6, .dat (.list (.int .i64)) x779), (7, .dat (.int .i64) x780), (8, .dat (.int .i64) x802)], []⟩ : St) (impl_oneRoot_n3 x779 x801 x780 x802) (Sum.elim (fun (t : Int × Int) => (Exit.normal, (⟨mkE 27 0 [(0, .dat (.list (.int .i64)) x779), (3, .dat (.int .i64) t.1), (6, .dat (.list (.int .i64)) x779), (7, .dat (.int .i64) x780), (8, .dat (.int .i64) t.2)], []⟩ : St))) (Sum.elim (fun (t : Bool) => (Exit.ret, (⟨mkE 27 0 [(2, .dat .bool t)], []⟩ : St))) (fun (t : Int) => ((Exit.exit 0), (⟨mkE 27 0 [(3, .dat (.int .i64) t)], []⟩ : St))))) := by
  refine Link.of fun K h => ?_
  simp only [impl_oneRoot_n3, wpO_bind, wpO_cond, wpO_map, wpO_some] at h
  exact Awp.of (by kernel_rfl) h

theorem impl_oneRoot_n4_l (x779 : List Int) (x780 : Int) : Link impl_oneRoot_ctx LL (Code.fst (Code.snd (Code.fst (Code.snd (Code.snd (bodyOf Try.f35)))))) (Ann.fst (Ann.snd (Ann.fst (Ann.snd (Ann.snd impl_oneRoot_an))))) (⟨mkE 27 0 [(0, .dat (.list (.int .i64)) x779), (3, .dat (.int .i64) 0), (6, .dat (.list (.int .i64)) x779), (7, .dat (.int .i64) x780), (8, .dat (.int .i64) 0)], []⟩ : St) (impl_oneRoot_n4 x779 x780) (Sum.elim (fun (t : Bool) => (Exit.ret, (⟨mkE 27 0 [(2, .dat .bool t)], []⟩ : St))) (fun (t : Int) => ((Exit.exit 0), (⟨mkE 27 0 [(3, .dat (.int .i64) t)], []⟩ : St)))) := by
  unfold impl_oneRoot_n4
  exact Link.cast (by kernel_rfl) (by kernel_rfl) (link_loop (mk := fun (s : Int × Int) => (⟨mkE 27 0 [(0, .dat (.list (.int .i64)) x779), (3, .dat (.int .i64) s.1), (6, .dat (.list (.int .i64)) x779), (7, .dat (.int .i64) x780), (8, .dat (.int .i64) s.2)], []⟩ : St)) (fin := (Sum.elim (fun (t : Bool) => (Exit.ret, (⟨mkE 27 0 [(2, .dat .bool t)], []⟩ : St))) (fun (t : Int) => ((Exit.exit 0), (⟨mkE 27 0 [(3, .dat (.int .i64) t)], []⟩ : St))))) (by
  rintro (t | t) f K h
  · exact h
  · exact h) (fun s => link_map (impl_oneRoot_n3_l x779 s.1 x780 s.2) (Sum.elim (fun (t : Int × Int) => Sum.inl (t.1, t.2)) (Sum.elim (fun (t : Bool) => Sum.inr (Sum.inl t)) (fun (t : Int) => Sum.inr (Sum.inr t)))) (by
  rintro (t | t | t)
  · kernel_rfl
  · kernel_rfl
  · kernel_rfl)) (0, 0))

theorem impl_oneRoot_n5_l (x779 : List Int) (x780 : Int) : Link impl_oneRoot_ctx LL (Code.snd (Code.fst (Code.snd (Code.snd (bodyOf Try.f35))))) (Ann.snd (Ann.fst (Ann.snd (Ann.snd impl_oneRoot_an)))) (⟨mkE 27 0 [(0, .dat (.list (.int .i64)) x779), (3, .dat (.int .i64) 0), (6, .dat (.list (.int .i64)) x779), (7, .dat (.int .i64) x780), (8, .dat (.int .i64) 0)], []⟩ : St) (impl_oneRoot_n5 x779 x780) (Sum.elim (fun (t : Int) => (Exit.normal, (⟨mkE 27 0 [(3, .dat (.int .i64) t)], []⟩ : St))) (fun (t : Bool) => (Exit.ret, (⟨mkE 27 0 [(2, .dat .bool t)], []⟩ : St)))) := by
  unfold impl_oneRoot_n5
  exact Link.cast (by kernel_rfl) (by kernel_rfl) (link_block (id := 0) (impl_oneRoot_n4_l x779 x780) (Sum.elim (fun (t : Bool) => (Sum.inr t)) (fun (t : Int) => (Sum.inl t))) (by
  rintro (t | t) K h
  · exact Eq.mp (by kernel_rfl) h
  · exact Eq.mp (by kernel_rfl) h))

theorem impl_oneRoot_n6_l (x779 : List Int) : Link impl_oneRoot_ctx LL (Code.fst (Code.snd (Code.snd (bodyOf Try.f35)))) (Ann.fst (Ann.snd (Ann.snd impl_oneRoot_an))) (⟨mkE 27 0 [(0, .dat (.list (.int .i64)) x779), (3, .dat (.int .i64) 0)], []⟩ : St) (impl_oneRoot_n6 x779) (Sum.elim (fun (t : Int) => (Exit.normal, (⟨mkE 27 0 [(3, .dat (.int .i64) t)], []⟩ : St))) (fun (t : Bool) => (Exit.ret, (⟨mkE 27 0 [(2, .dat .bool t)], []⟩ : St)))) := by
  unfold impl_oneRoot_n6
  exact Link.cast (by kernel_rfl) (by kernel_rfl) (link_seq (b := (Code.snd (Code.fst (Code.snd (Code.snd (bodyOf Try.f35)))))) (y := (Ann.snd (Ann.fst (Ann.snd (Ann.snd impl_oneRoot_an))))) (impl_oneRoot_n2_l x779) (fun (t : Int) => (impl_oneRoot_n5_l x779 t)))

theorem impl_oneRoot_n7_l (x801 : Int) : Link impl_oneRoot_ctx LL (Code.snd (Code.snd (Code.snd (bodyOf Try.f35)))) (Ann.snd (Ann.snd (Ann.snd impl_oneRoot_an))) (⟨mkE 27 0 [(3, .dat (.int .i64) x801)], []⟩ : St) (impl_oneRoot_n7 x801) (fun (t : Bool) => (Exit.ret, (⟨mkE 27 0 [(2, .dat .bool t)], []⟩ : St))) := by
  refine Link.of fun K h => ?_
  simp only [impl_oneRoot_n7, wpO_bind, wpO_cond, wpO_map, wpO_some] at h
  exact Awp.of (by kernel_rfl) h

theorem impl_oneRoot_n8_l (x779 : List Int) : Link impl_oneRoot_ctx LL (Code.snd (Code.snd (bodyOf Try.f35))) (Ann.snd (Ann.snd impl_oneRoot_an)) (⟨mkE 27 0 [(0, .dat (.list (.int .i64)) x779), (3, .dat (.int .i64) 0)], []⟩ : St) (impl_oneRoot_n8 x779) (fun (t : Bool) => (Exit.ret, (⟨mkE 27 0 [(2, .dat .bool t)], []⟩ : St))) := by
  unfold impl_oneRoot_n8
  exact Link.cast (by kernel_rfl) (by kernel_rfl) (link_seq2 (b := (Code.snd (Code.snd (Code.snd (bodyOf Try.f35))))) (y := (Ann.snd (Ann.snd (Ann.snd impl_oneRoot_an)))) (impl_oneRoot_n6_l x779) (fun (t : Int) => (impl_oneRoot_n7_l t)) (fun (t : Bool) => t) (by
  rintro t
  · kernel_rfl) (by
  rintro t f K h
  · exact h))

theorem impl_oneRoot_n9_l (x779 : List Int) : Link impl_oneRoot_ctx LL (bodyOf Try.f35) impl_oneRoot_an (⟨mkE 27 0 [(0, .dat (.list (.int .i64)) x779)], []⟩ : St) (impl_oneRoot_n9 x779) (fun (t : Bool) => (Exit.ret, (⟨mkE 27 0 [(2, .dat .bool t)], []⟩ : St))) := by
  unfold impl_oneRoot_n9
  exact Link.cast (by kernel_rfl) (by kernel_rfl) (link_group (c := (Code.fst (Code.snd (bodyOf Try.f35)))) (a := (Ann.fst (Ann.snd impl_oneRoot_an))) [(Code.fst (bodyOf Try.f35))] [(Ann.fst impl_oneRoot_an)] rfl (link_seq (b := (Code.snd (Code.snd (bodyOf Try.f35)))) (y := (Ann.snd (Ann.snd impl_oneRoot_an))) (impl_oneRoot_n1_l x779) (fun (t : Unit) => (impl_oneRoot_n8_l x779))))

theorem impl_oneRoot_e (x779 : List Int) {r : AV} {H' : Heap} (h : (Ans.mk _ (impl_oneRoot x779) (fun (t : Bool) => (.dat .bool t, []))).run = some (r, H')) : Awp impl_oneRoot_ctx LL (bodyOf Try.f35) impl_oneRoot_an (⟨mkE 27 0 [(0, .dat (.list (.int .i64)) x779)], []⟩ : St) (Ret (tlook tys) Try.f35.results.toList r H') :=
  ret_of' (impl_oneRoot_n9_l x779) (by unfold impl_oneRoot; kernel_rfl) (by
  intro t
  exact ret_mk [.dat .bool t] (by kernel_rfl) (by kernel_rfl) (by kernel_rfl) (by kernel_rfl)) h

def F_impl_oneRoot : Fun := fun avs H =>
  match avs, H with
  | [.dat (.list (.int .i64)) x779], [] => ⟨_, impl_oneRoot x779, fun (t : Bool) => (.dat .bool t, [])⟩
  | _, _ => Ans.no

theorem impl_oneRoot_sound : Sound Try.prog 35 F_impl_oneRoot := by
  refine fn_sound' (C := impl_oneRoot_ctx) (c := bodyOf Try.f35) (cok_of tys_ok (by simp) (by simp) (by kernel_rfl)) Try.func35 (by kernel_rfl) LL impl_oneRoot_an ?_
  intro avs H r H' h
  unfold F_impl_oneRoot at h
  split at h
  · refine Awp.cast ?_ ?_ ?_ (impl_oneRoot_e _ h) <;> kernel_rfl
  · simp [Ans.no, Ans.run] at h

/-! (*loop.example/headtrees/impl.walker).up -/

def impl_walker_up_an : Ann := (.seq (.leaf [0]) (.seq (.draw [] [0, 1, 2, 3, 4, 5, 6, 7, 8, 9, 10, 11] [] [0, 3]) (.seq (.seq (.leaf [0, 3, 16]) (.cond (.seq (.leaf [2]) (.leaf [2])) (.leaf [0, 3]))) (.seq (.leaf [0]) (.seq (.leaf []) (.seq (.leaf [2]) (.leaf [2])))))))

noncomputable def impl_walker_up_ctx : Ctx := ⟨tlook tys, olook [], ioF, 1⟩

theorem impl_walker_up_n1_l (x835 : List Int) (x836 : Int) (x837 : Int) : Link impl_walker_up_ctx LL (bodyOf Try.f38) impl_walker_up_an (⟨mkE 28 0 [(0, .ptr 0 0)], [some (.box [.dat (.list (.int .i64)) x835, .dat (.int .i64) x836, .dat (.int .i64) x837])]⟩ : St) (impl_walker_up_n1 x835 x836 x837) (fun (t : Bool × Int × Int) => (Exit.ret, (⟨mkE 28 0 [(2, .dat .bool t.1)], [some (.box [.dat (.list (.int .i64)) x835, .dat (.int .i64) t.2.1, .dat (.int .i64) t.2.2])]⟩ : St))) := by
  refine Link.of fun K h => ?_
  simp only [impl_walker_up_n1, wpO_bind, wpO_cond, wpO_map, wpO_some] at h
  exact Awp.of (by kernel_rfl) h

theorem impl_walker_up_e (x835 : List Int) (x836 : Int) (x837 : Int) {r : AV} {H' : Heap} (h : (Ans.mk _ (impl_walker_up x835 x836 x837) (fun (t : Bool × Int × Int) => (.dat .bool t.1, [some (.box [.dat (.list (.int .i64)) x835, .dat (.int .i64) t.2.1, .dat (.int .i64) t.2.2])]))).run = some (r, H')) : Awp impl_walker_up_ctx LL (bodyOf Try.f38) impl_walker_up_an (⟨mkE 28 0 [(0, .ptr 0 0)], [some (.box [.dat (.list (.int .i64)) x835, .dat (.int .i64) x836, .dat (.int .i64) x837])]⟩ : St) (Ret (tlook tys) Try.f38.results.toList r H') :=
  ret_of' (impl_walker_up_n1_l x835 x836 x837) (by unfold impl_walker_up; kernel_rfl) (by
  intro t
  exact ret_mk [.dat .bool t.1] (by kernel_rfl) (by kernel_rfl) (by kernel_rfl) (by kernel_rfl)) h

def F_impl_walker_up : Fun := fun avs H =>
  match avs, H with
  | [.ptr 0 0], [some (.box [.dat (.list (.int .i64)) x835, .dat (.int .i64) x836, .dat (.int .i64) x837])] => ⟨_, impl_walker_up x835 x836 x837, fun (t : Bool × Int × Int) => (.dat .bool t.1, [some (.box [.dat (.list (.int .i64)) x835, .dat (.int .i64) t.2.1, .dat (.int .i64) t.2.2])])⟩
  | _, _ => Ans.no

theorem impl_walker_up_sound : Sound Try.prog 38 F_impl_walker_up := by
  refine fn_sound' (C := impl_walker_up_ctx) (c := bodyOf Try.f38) (cok_of tys_ok (by simp) (by simp) (by kernel_rfl)) Try.func38 (by kernel_rfl) LL impl_walker_up_an ?_
  intro avs H r H' h
  unfold F_impl_walker_up at h
  split at h
  · refine Awp.cast ?_ ?_ ?_ (impl_walker_up_e _ _ _ h) <;> kernel_rfl
  · simp [Ans.no, Ans.run] at h

/-! loop.example/headtrees/impl.stepsToRoot -/

def impl_stepsToRoot_an : Ann := (.seq (.leaf [0, 1]) (.seq (.leaf [0, 6]) (.seq (.block (.loop (.seq (.seq (.leaf [0, 6, 10]) (.cond (.leaf [0, 6]) (.leaf [6]))) (.block (.seq (.leaf [0, 6, 15]) (.cond (.seq (.leaf [4, 5]) (.leaf [4, 5])) (.leaf [0, 6]))))))) (.seq (.leaf [4, 5]) (.leaf [4, 5])))))

noncomputable def impl_stepsToRoot_ctx : Ctx := ⟨tlook tys, olook [(38, F_impl_walker_up)], ioF, 0⟩

theorem impl_stepsToRoot_n1_l (x833 : List Int) (x834 : Int) : Link impl_stepsToRoot_ctx LL (Code.seq (Code.fst (bodyOf Try.f36)) (Code.fst (Code.snd (bodyOf Try.f36)))) (Ann.seq (Ann.fst impl_stepsToRoot_an) (Ann.fst (Ann.snd impl_stepsToRoot_an))) (⟨mkE 18 0 [(0, .dat (.list (.int .i64)) x833), (1, .dat (.int .i64) x834)], []⟩ : St) (impl_stepsToRoot_n1) (fun (t : Unit) => (Exit.normal, (⟨mkE 18 0 [(0, .dat (.list (.int .i64)) x833), (6, .ptr 0 0)], [some (.box [.dat (.list (.int .i64)) x833, .dat (.int .i64) x834, .dat (.int .i64) 0])]⟩ : St))) := by
  refine Link.of fun K h => ?_
  simp only [impl_stepsToRoot_n1, wpO_bind, wpO_cond, wpO_map, wpO_some] at h
  exact Awp.of (by kernel_rfl) h

theorem impl_stepsToRoot_n2_l (x833 : List Int) (x871 : Int) (x872 : Int) : Link impl_stepsToRoot_ctx LL (Code.fst (Code.fst (Code.fst (Code.snd (Code.snd (bodyOf Try.f36)))))) (Ann.fst (Ann.fst (Ann.fst (Ann.snd (Ann.snd impl_stepsToRoot_an))))) (⟨mkE 18 0 [(0, .dat (.list (.int .i64)) x833), (6, .ptr 0 0)], [some (.box [.dat (.list (.int .i64)) x833, .dat (.int .i64) x871, .dat (.int .i64) x872])]⟩ : St) (impl_stepsToRoot_n2 x833 x871 x872) (Sum.elim (fun (t : Int × Int) => (Exit.normal, (⟨mkE 18 0 [(0, .dat (.list (.int .i64)) x833), (6, .ptr 0 0)], [some (.box [.dat (.list (.int .i64)) x833, .dat (.int .i64) t.1, .dat (.int .i64) t.2])]⟩ : St))) (Sum.elim (fun (t : Int × Bool) => (Exit.ret, (⟨mkE 18 0 [(4, .dat (.int .i64) t.1), (5, .dat .bool t.2)], []⟩ : St))) (fun (t : Int × Int) => ((Exit.exit 0), (⟨mkE 18 0 [(6, .ptr 0 0)], [some (.box [.dat (.list (.int .i64)) x833, .dat (.int .i64) t.1, .dat (.int .i64) t.2])]⟩ : St))))) := by
  refine Link.of fun K h => ?_
  simp only [impl_stepsToRoot_n2, wpO_bind, wpO_cond, wpO_map, wpO_some] at h
  exact Awp.of (by kernel_rfl) h

theorem impl_stepsToRoot_n3_l (x833 : List Int) (x834 : Int) : Link impl_stepsToRoot_ctx LL (Code.fst (Code.fst (Code.snd (Code.snd (bodyOf Try.f36))))) (Ann.fst (Ann.fst (Ann.snd (Ann.snd impl_stepsToRoot_an)))) (⟨mkE 18 0 [(0, .dat (.list (.int .i64)) x833), (6, .ptr 0 0)], [some (.box [.dat (.list (.int .i64)) x833, .dat (.int .i64) x834, .dat (.int .i64) 0])]⟩ : St) (impl_stepsToRoot_n3 x833 x834) (Sum.elim (fun (t : Int × Bool) => (Exit.ret, (⟨mkE 18 0 [(4, .dat (.int .i64) t.1), (5, .dat .bool t.2)], []⟩ : St))) (fun (t : Int × Int) => ((Exit.exit 0), (⟨mkE 18 0 [(6, .ptr 0 0)], [some (.box [.dat (.list (.int .i64)) x833, .dat (.int .i64) t.1, .dat (.int .i64) t.2])]⟩ : St)))) := by
  unfold impl_stepsToRoot_n3
  exact Link.cast (by kernel_rfl) (by kernel_rfl) (link_loop (mk := fun (s : Int × Int) => (⟨mkE 18 0 [(0, .dat (.list (.int .i64)) x833), (6, .ptr 0 0)], [some (.box [.dat (.list (.int .i64)) x833, .dat (.int .i64) s.1, .dat (.int .i64) s.2])]⟩ : St)) (fin := (Sum.elim (fun (t : Int × Bool) => (Exit.ret, (⟨mkE 18 0 [(4, .dat (.int .i64) t.1), (5, .dat .bool t.2)], []⟩ : St))) (fun (t : Int × Int) => ((Exit.exit 0), (⟨mkE 18 0 [(6, .ptr 0 0)], [some (.box [.dat (.list (.int .i64)) x833, .dat (.int .i64) t.1, .dat (.int .i64) t.2])]⟩ : St))))) (by
  rintro (t | t) f K h
  · exact h
  · exact h) (fun s => link_map (impl_stepsToRoot_n2_l x833 s.1 s.2) (Sum.elim (fun (t : Int × Int) => Sum.inl (t.1, t.2)) (Sum.elim (fun (t : Int × Bool) => Sum.inr (Sum.inl t)) (fun (t : Int × Int) => Sum.inr (Sum.inr t)))) (by
  rintro (t | t | t)
  · kernel_rfl
  · kernel_rfl
  · kernel_rfl)) (x834, 0))

theorem impl_stepsToRoot_n4_l (x833 : List Int) (x834 : Int) : Link impl_stepsToRoot_ctx LL (Code.fst (Code.snd (Code.snd (bodyOf Try.f36)))) (Ann.fst (Ann.snd (Ann.snd impl_stepsToRoot_an))) (⟨mkE 18 0 [(0, .dat (.list (.int .i64)) x833), (6, .ptr 0 0)], [some (.box [.dat (.list (.int .i64)) x833, .dat (.int .i64) x834, .dat (.int .i64) 0])]⟩ : St) (impl_stepsToRoot_n4 x833 x834) (Sum.elim (fun (t : Int × Int) => (Exit.normal, (⟨mkE 18 0 [(6, .ptr 0 0)], [some (.box [.dat (.list (.int .i64)) x833, .dat (.int .i64) t.1, .dat (.int .i64) t.2])]⟩ : St))) (fun (t : Int × Bool) => (Exit.ret, (⟨mkE 18 0 [(4, .dat (.int .i64) t.1), (5, .dat .bool t.2)], []⟩ : St)))) := by
  unfold impl_stepsToRoot_n4
  exact Link.cast (by kernel_rfl) (by kernel_rfl) (link_block (id := 0) (impl_stepsToRoot_n3_l x833 x834) (Sum.elim (fun (t : Int × Bool) => (Sum.inr t)) (fun (t : Int × Int) => (Sum.inl (t.1, t.2)))) (by
  rintro (t | t) K h
  · exact Eq.mp (by kernel_rfl) h
  · exact Eq.mp (by kernel_rfl) h))

theorem impl_stepsToRoot_n5_l (x833 : List Int) (x879 : Int) (x880 : Int) : Link impl_stepsToRoot_ctx LL (Code.snd (Code.snd (Code.snd (bodyOf Try.f36)))) (Ann.snd (Ann.snd (Ann.snd impl_stepsToRoot_an))) (⟨mkE 18 0 [(6, .ptr 0 0)], [some (.box [.dat (.list (.int .i64)) x833, .dat (.int .i64) x879, .dat (.int .i64) x880])]⟩ : St) (impl_stepsToRoot_n5 x880) (fun (t : Int × Bool) => (Exit.ret, (⟨mkE 18 0 [(4, .dat (.int .i64) t.1), (5, .dat .bool t.2)], []⟩ : St))) := by
  refine Link.of fun K h => ?_
  simp only [impl_stepsToRoot_n5, wpO_bind, wpO_cond, wpO_map, wpO_some] at h
  exact Awp.of (by kernel_rfl) h

theorem impl_stepsToRoot_n6_l (x833 : List Int) (x834 : Int) : Link impl_stepsToRoot_ctx LL (Code.snd (Code.snd (bodyOf Try.f36))) (Ann.snd (Ann.snd impl_stepsToRoot_an)) (⟨mkE 18 0 [(0, .dat (.list (.int .i64)) x833), (6, .ptr 0 0)], [some (.box [.dat (.list (.int .i64)) x833, .dat (.int .i64) x834, .dat (.int .i64) 0])]⟩ : St) (impl_stepsToRoot_n6 x833 x834) (fun (t : Int × Bool) => (Exit.ret, (⟨mkE 18 0 [(4, .dat (.int .i64) t.1), (5, .dat .bool t.2)], []⟩ : St))) := by
  unfold impl_stepsToRoot_n6
  exact Link.cast (by kernel_rfl) (by kernel_rfl) (link_seq2 (b := (Code.snd (Code.snd (Code.snd (bodyOf Try.f36))))) (y := (Ann.snd (Ann.snd (Ann.snd impl_stepsToRoot_an)))) (impl_stepsToRoot_n4_l x833 x834) (fun (t : Int × Int) => (impl_stepsToRoot_n5_l x833 t.1 t.2)) (fun (t : Int × Bool) => t) (by
  rintro t
  · kernel_rfl) (by
  rintro t f K h
  · exact h))

theorem impl_stepsToRoot_n7_l (x833 : List Int) (x834 : Int) : Link impl_stepsToRoot_ctx LL (bodyOf Try.f36) impl_stepsToRoot_an (⟨mkE 18 0 [(0, .dat (.list (.int .i64)) x833), (1, .dat (.int .i64) x834)], []⟩ : St) (impl_stepsToRoot_n7 x833 x834) (fun (t : Int × Bool) => (Exit.ret, (⟨mkE 18 0 [(4, .dat (.int .i64) t.1), (5, .dat .bool t.2)], []⟩ : St))) := by
  unfold impl_stepsToRoot_n7
  exact Link.cast (by kernel_rfl) (by kernel_rfl) (link_group (c := (Code.fst (Code.snd (bodyOf Try.f36)))) (a := (Ann.fst (Ann.snd impl_stepsToRoot_an))) [(Code.fst (bodyOf Try.f36))] [(Ann.fst impl_stepsToRoot_an)] rfl (link_seq (b := (Code.snd (Code.snd (bodyOf Try.f36)))) (y := (Ann.snd (Ann.snd impl_stepsToRoot_an))) (impl_stepsToRoot_n1_l x833 x834) (fun (t : Unit) => (impl_stepsToRoot_n6_l x833 x834))))

theorem impl_stepsToRoot_e (x833 : List Int) (x834 : Int) {r : AV} {H' : Heap} (h : (Ans.mk _ (impl_stepsToRoot x833 x834) (fun (t : Int × Bool) => (.tup [.dat (.int .i64) t.1, .dat .bool t.2], []))).run = some (r, H')) : Awp impl_stepsToRoot_ctx LL (bodyOf Try.f36) impl_stepsToRoot_an (⟨mkE 18 0 [(0, .dat (.list (.int .i64)) x833), (1, .dat (.int .i64) x834)], []⟩ : St) (Ret (tlook tys) Try.f36.results.toList r H') :=
  ret_of' (impl_stepsToRoot_n7_l x833 x834) (by unfold impl_stepsToRoot; kernel_rfl) (by
  intro t
  exact ret_mk [.dat (.int .i64) t.1, .dat .bool t.2] (by kernel_rfl) (by kernel_rfl) (by kernel_rfl) (by kernel_rfl)) h

def F_impl_stepsToRoot : Fun := fun avs H =>
  match avs, H with
  | [.dat (.list (.int .i64)) x833, .dat (.int .i64) x834], [] => ⟨_, impl_stepsToRoot x833 x834, fun (t : Int × Bool) => (.tup [.dat (.int .i64) t.1, .dat .bool t.2], [])⟩
  | _, _ => Ans.no

theorem impl_stepsToRoot_sound : Sound Try.prog 36 F_impl_stepsToRoot := by
  refine fn_sound' (C := impl_stepsToRoot_ctx) (c := bodyOf Try.f36) (cok_of tys_ok (List.forall_mem_cons.2 ⟨impl_walker_up_sound, by simp⟩) (List.forall_mem_cons.2 ⟨Try.call38, by simp⟩) (by kernel_rfl)) Try.func36 (by kernel_rfl) LL impl_stepsToRoot_an ?_
  intro avs H r H' h
  unfold F_impl_stepsToRoot at h
  split at h
  · refine Awp.cast ?_ ?_ ?_ (impl_stepsToRoot_e _ _ h) <;> kernel_rfl
  · simp [Ans.no, Ans.run] at h

/-! loop.example/headtrees/impl.TreeOk -/

def impl_TreeOk_an : Ann := (.seq (.leaf [0]) (.seq (.seq (.leaf [0, 18]) (.cond (.seq (.leaf [2]) (.leaf [2])) (.leaf [0]))) (.seq (.seq (.leaf [0, 20, 21]) (.block (.loop (.seq (.leaf [0, 20, 21, 22]) (.seq (.cond (.leaf [0, 20, 21]) (.leaf [])) (.seq (.block (.seq (.leaf [0, 3, 20, 21]) (.seq (.leaf [0, 5, 20, 21]) (.seq (.leaf [0, 20, 21, 32]) (.cond (.seq (.leaf [2]) (.leaf [2])) (.leaf [0, 20, 21])))))) (.leaf [0, 20, 21]))))))) (.seq (.leaf [2]) (.leaf [2])))))

noncomputable def impl_TreeOk_ctx : Ctx := ⟨tlook tys, olook [(35, F_impl_oneRoot), (36, F_impl_stepsToRoot)], ioF, 0⟩

theorem impl_TreeOk_n1_l (x773 : List Int) : Link impl_TreeOk_ctx LL (Code.seq (Code.fst (bodyOf Try.f11)) (Code.fst (Code.snd (bodyOf Try.f11)))) (Ann.seq (Ann.fst impl_TreeOk_an) (Ann.fst (Ann.snd impl_TreeOk_an))) (⟨mkE 34 0 [(0, .dat (.list (.int .i64)) x773)], []⟩ : St) (impl_TreeOk_n1 x773) (Sum.elim (fun (t : Unit) => (Exit.normal, (⟨mkE 34 0 [(0, .dat (.list (.int .i64)) x773)], []⟩ : St))) (fun (t : Bool) => (Exit.ret, (⟨mkE 34 0 [(2, .dat .bool t)], []⟩ : St)))) := by
  refine Link.of fun K h => ?_
  simp only [impl_TreeOk_n1, wpO_bind, wpO_cond, wpO_map, wpO_some] at h
  exact Awp.of (by kernel_rfl) h

theorem impl_TreeOk_n2_l (x773 : List Int) : Link impl_TreeOk_ctx LL (Code.fst (Code.fst (Code.snd (Code.snd (bodyOf Try.f11))))) (Ann.fst (Ann.fst (Ann.snd (Ann.snd impl_TreeOk_an)))) (⟨mkE 34 0 [(0, .dat (.list (.int .i64)) x773)], []⟩ : St) (impl_TreeOk_n2 x773) (fun (t : Int) => (Exit.normal, (⟨mkE 34 0 [(0, .dat (.list (.int .i64)) x773), (20, .dat (.int .i64) t), (21, .dat (.int .i64) 0)], []⟩ : St))) := by
  refine Link.of fun K h => ?_
  simp only [impl_TreeOk_n2, wpO_bind, wpO_cond, wpO_map, wpO_some] at h
  exact Awp.of (by kernel_rfl) h

theorem impl_TreeOk_n3_l (x773 : List Int) (x828 : Int) (x896 : Int) : Link impl_TreeOk_ctx LL (Code.fst (Code.fst (Code.snd (Code.fst (Code.snd (Code.snd (bodyOf Try.f11))))))) (Ann.fst (Ann.fst (Ann.snd (Ann.fst (Ann.snd (Ann.snd impl_TreeOk_an)))))) (⟨mkE 34 0 [(0, .dat (.list (.int .i64)) x773), (20, .dat (.int .i64) x828), (21, .dat (.int .i64) x896)], []⟩ : St) (impl_TreeOk_n3 x773 x828 x896) (Sum.elim (fun (t : Int) => (Exit.normal, (⟨mkE 34 0 [(0, .dat (.list (.int .i64)) x773), (20, .dat (.int .i64) x828), (21, .dat (.int .i64) t)], []⟩ : St))) (Sum.elim (fun (t : Bool) => (Exit.ret, (⟨mkE 34 0 [(2, .dat .bool t)], []⟩ : St))) (fun (t : Unit) => ((Exit.exit 0), (⟨mkE 34 0 [], []⟩ : St))))) := by
  refine Link.of fun K h => ?_
  simp only [impl_TreeOk_n3, wpO_bind, wpO_cond, wpO_map, wpO_some] at h
  exact Awp.of (by kernel_rfl) h

theorem impl_TreeOk_n4_l (x773 : List Int) (x828 : Int) : Link impl_TreeOk_ctx LL (Code.fst (Code.snd (Code.fst (Code.snd (Code.snd (bodyOf Try.f11)))))) (Ann.fst (Ann.snd (Ann.fst (Ann.snd (Ann.snd impl_TreeOk_an))))) (⟨mkE 34 0 [(0, .dat (.list (.int .i64)) x773), (20, .dat (.int .i64) x828), (21, .dat (.int .i64) 0)], []⟩ : St) (impl_TreeOk_n4 x773 x828) (Sum.elim (fun (t : Bool) => (Exit.ret, (⟨mkE 34 0 [(2, .dat .bool t)], []⟩ : St))) (fun (t : Unit) => ((Exit.exit 0), (⟨mkE 34 0 [], []⟩ : St)))) := by
  unfold impl_TreeOk_n4
  exact Link.cast (by kernel_rfl) (by kernel_rfl) (link_loop (mk := fun (s : Int) => (⟨mkE 34 0 [(0, .dat (.list (.int .i64)) x773), (20, .dat (.int .i64) x828), (21, .dat (.int .i64) s)], []⟩ : St)) (fin := (Sum.elim (fun (t : Bool) => (Exit.ret, (⟨mkE 34 0 [(2, .dat .bool t)], []⟩ : St))) (fun (t : Unit) => ((Exit.exit 0), (⟨mkE 34 0 [], []⟩ : St))))) (by
  rintro (t | t) f K h
  · exact h
  · exact h) (fun s => link_map (impl_TreeOk_n3_l x773 x828 s) (Sum.elim (fun (t : Int) => Sum.inl t) (Sum.elim (fun (t : Bool) => Sum.inr (Sum.inl t)) (fun (t : Unit) => Sum.inr (Sum.inr t)))) (by
  rintro (t | t | t)
  · kernel_rfl
  · kernel_rfl
  · kernel_rfl)) 0)

theorem impl_TreeOk_n5_l (x773 : List Int) (x828 : Int) : Link impl_TreeOk_ctx LL (Code.snd (Code.fst (Code.snd (Code.snd (bodyOf Try.f11))))) (Ann.snd (Ann.fst (Ann.snd (Ann.snd impl_TreeOk_an)))) (⟨mkE 34 0 [(0, .dat (.list (.int .i64)) x773), (20, .dat (.int .i64) x828), (21, .dat (.int .i64) 0)], []⟩ : St) (impl_TreeOk_n5 x773 x828) (Sum.elim (fun (t : Unit) => (Exit.normal, (⟨mkE 34 0 [], []⟩ : St))) (fun (t : Bool) => (Exit.ret, (⟨mkE 34 0 [(2, .dat .bool t)], []⟩ : St)))) := by
  unfold impl_TreeOk_n5
  exact Link.cast (by kernel_rfl) (by kernel_rfl) (link_block (id := 0) (impl_TreeOk_n4_l x773 x828) (Sum.elim (fun (t : Bool) => (Sum.inr t)) (fun (t : Unit) => (Sum.inl ()))) (by
  rintro (t | t) K h
  · exact Eq.mp (by kernel_rfl) h
  · exact Eq.mp (by kernel_rfl) h))

theorem impl_TreeOk_n6_l (x773 : List Int) : Link impl_TreeOk_ctx LL (Code.fst (Code.snd (Code.snd (bodyOf Try.f11)))) (Ann.fst (Ann.snd (Ann.snd impl_TreeOk_an))) (⟨mkE 34 0 [(0, .dat (.list (.int .i64)) x773)], []⟩ : St) (impl_TreeOk_n6 x773) (Sum.elim (fun (t : Unit) => (Exit.normal, (⟨mkE 34 0 [], []⟩ : St))) (fun (t : Bool) => (Exit.ret, (⟨mkE 34 0 [(2, .dat .bool t)], []⟩ : St)))) := by
  unfold impl_TreeOk_n6
  exact Link.cast (by kernel_rfl) (by kernel_rfl) (link_seq (b := (Code.snd (Code.fst (Code.snd (Code.snd (bodyOf Try.f11)))))) (y := (Ann.snd (Ann.fst (Ann.snd (Ann.snd impl_TreeOk_an))))) (impl_TreeOk_n2_l x773) (fun (t : Int) => (impl_TreeOk_n5_l x773 t)))

theorem impl_TreeOk_n7_l : Link impl_TreeOk_ctx LL (Code.snd (Code.snd (Code.snd (bodyOf Try.f11)))) (Ann.snd (Ann.snd (Ann.snd impl_TreeOk_an))) (⟨mkE 34 0 [], []⟩ : St) (impl_TreeOk_n7) (fun (t : Bool) => (Exit.ret, (⟨mkE 34 0 [(2, .dat .bool t)], []⟩ : St))) := by
  refine Link.of fun K h => ?_
  simp only [impl_TreeOk_n7, wpO_bind, wpO_cond, wpO_map, wpO_some] at h
  exact Awp.of (by kernel_rfl) h

theorem impl_TreeOk_n8_l (x773 : List Int) : Link impl_TreeOk_ctx LL (Code.snd (Code.snd (bodyOf Try.f11))) (Ann.snd (Ann.snd impl_TreeOk_an)) (⟨mkE 34 0 [(0, .dat (.list (.int .i64)) x773)], []⟩ : St) (impl_TreeOk_n8 x773) (fun (t : Bool) => (Exit.ret, (⟨mkE 34 0 [(2, .dat .bool t)], []⟩ : St))) := by
  unfold impl_TreeOk_n8
  exact Link.cast (by kernel_rfl) (by kernel_rfl) (link_seq2 (b := (Code.snd (Code.snd (Code.snd (bodyOf Try.f11))))) (y := (Ann.snd (Ann.snd (Ann.snd impl_TreeOk_an)))) (impl_TreeOk_n6_l x773) (fun (t : Unit) => (impl_TreeOk_n7_l)) (fun (t : Bool) => t) (by
  rintro t
  · kernel_rfl) (by
  rintro t f K h
  · exact h))

theorem impl_TreeOk_n9_l (x773 : List Int) : Link impl_TreeOk_ctx LL (bodyOf Try.f11) impl_TreeOk_an (⟨mkE 34 0 [(0, .dat (.list (.int .i64)) x773)], []⟩ : St) (impl_TreeOk_n9 x773) (fun (t : Bool) => (Exit.ret, (⟨mkE 34 0 [(2, .dat .bool t)], []⟩ : St))) := by
  unfold impl_TreeOk_n9
  exact Link.cast (by kernel_rfl) (by kernel_rfl) (link_group (c := (Code.fst (Code.snd (bodyOf Try.f11)))) (a := (Ann.fst (Ann.snd impl_TreeOk_an))) [(Code.fst (bodyOf Try.f11))] [(Ann.fst impl_TreeOk_an)] rfl (link_seq2 (b := (Code.snd (Code.snd (bodyOf Try.f11)))) (y := (Ann.snd (Ann.snd impl_TreeOk_an))) (impl_TreeOk_n1_l x773) (fun (t : Unit) => (impl_TreeOk_n8_l x773)) (fun (t : Bool) => t) (by
  rintro t
  · kernel_rfl) (by
  rintro t f K h
  · exact h)))

theorem impl_TreeOk_e (x773 : List Int) {r : AV} {H' : Heap} (h : (Ans.mk _ (impl_TreeOk x773) (fun (t : Bool) => (.dat .bool t, []))).run = some (r, H')) : Awp impl_TreeOk_ctx LL (bodyOf Try.f11) impl_TreeOk_an (⟨mkE 34 0 [(0, .dat (.list (.int .i64)) x773)], []⟩ : St) (Ret (tlook tys) Try.f11.results.toList r H') :=
  ret_of' (impl_TreeOk_n9_l x773) (by unfold impl_TreeOk; kernel_rfl) (by
  intro t
  exact ret_mk [.dat .bool t] (by kernel_rfl) (by kernel_rfl) (by kernel_rfl) (by kernel_rfl)) h

def F_impl_TreeOk : Fun := fun avs H =>
  match avs, H with
  | [.dat (.list (.int .i64)) x773], [] => ⟨_, impl_TreeOk x773, fun (t : Bool) => (.dat .bool t, [])⟩
  | _, _ => Ans.no

theorem impl_TreeOk_sound : Sound Try.prog 11 F_impl_TreeOk := by
  refine fn_sound' (C := impl_TreeOk_ctx) (c := bodyOf Try.f11) (cok_of tys_ok (List.forall_mem_cons.2 ⟨impl_oneRoot_sound, List.forall_mem_cons.2 ⟨impl_stepsToRoot_sound, by simp⟩⟩) (List.forall_mem_cons.2 ⟨Try.call35, List.forall_mem_cons.2 ⟨Try.call36, by simp⟩⟩) (by kernel_rfl)) Try.func11 (by kernel_rfl) LL impl_TreeOk_an ?_
  intro avs H r H' h
  unfold F_impl_TreeOk at h
  split at h
  · refine Awp.cast ?_ ?_ ?_ (impl_TreeOk_e _ h) <;> kernel_rfl
  · simp [Ans.no, Ans.run] at h

/-! loop.example/headtrees/spec.l1In -/

def spec_l1In_an : Ann := (.seq (.leaf [0, 1, 2]) (.seq (.leaf [6]) (.leaf [6])))

noncomputable def spec_l1In_ctx : Ctx := ⟨tlook tys, olook [], ioF, 0⟩

theorem spec_l1In_n1_l (x921 : Int) (x922 : Int) (x923 : Int) : Link spec_l1In_ctx LL (bodyOf Try.f37) spec_l1In_an (⟨mkE 15 0 [(0, .dat (.int .i64) x921), (1, .dat (.int .i64) x922), (2, .dat (.int .i64) x923)], []⟩ : St) (spec_l1In_n1 x921 x922 x923) (fun (t : Bool) => (Exit.ret, (⟨mkE 15 0 [(6, .dat .bool t)], []⟩ : St))) := by
  refine Link.of fun K h => ?_
  simp only [spec_l1In_n1, wpO_bind, wpO_cond, wpO_map, wpO_some] at h
  exact Awp.of (by kernel_rfl) h

theorem spec_l1In_e (x921 : Int) (x922 : Int) (x923 : Int) {r : AV} {H' : Heap} (h : (Ans.mk _ (spec_l1In x921 x922 x923) (fun (t : Bool) => (.dat .bool t, []))).run = some (r, H')) : Awp spec_l1In_ctx LL (bodyOf Try.f37) spec_l1In_an (⟨mkE 15 0 [(0, .dat (.int .i64) x921), (1, .dat (.int .i64) x922), (2, .dat (.int .i64) x923)], []⟩ : St) (Ret (tlook tys) Try.f37.results.toList r H') :=
  ret_of' (spec_l1In_n1_l x921 x922 x923) (by unfold spec_l1In; kernel_rfl) (by
  intro t
  exact ret_mk [.dat .bool t] (by kernel_rfl) (by kernel_rfl) (by kernel_rfl) (by kernel_rfl)) h

def F_spec_l1In : Fun := fun avs H =>
  match avs, H with
  | [.dat (.int .i64) x921, .dat (.int .i64) x922, .dat (.int .i64) x923], [] => ⟨_, spec_l1In x921 x922 x923, fun (t : Bool) => (.dat .bool t, [])⟩
  | _, _ => Ans.no

theorem spec_l1In_sound : Sound Try.prog 37 F_spec_l1In := by
  refine fn_sound' (C := spec_l1In_ctx) (c := bodyOf Try.f37) (cok_of tys_ok (by simp) (by simp) (by kernel_rfl)) Try.func37 (by kernel_rfl) LL spec_l1In_an ?_
  intro avs H r H' h
  unfold F_spec_l1In at h
  split at h
  · refine Awp.cast ?_ ?_ ?_ (spec_l1In_e _ _ _ h) <;> kernel_rfl
  · simp [Ans.no, Ans.run] at h

/-! loop.example/headtrees/spec.TreeOk -/

def spec_TreeOk_an : Ann := (.seq (.leaf [0]) (.seq (.leaf [0, 3]) (.seq (.seq (.leaf [0, 3, 12]) (.cond (.seq (.leaf [2]) (.leaf [2])) (.leaf [0, 3]))) (.seq (.leaf [0, 3, 4]) (.seq (.seq (.leaf [0, 3, 4, 5]) (.block (.loop (.seq (.seq (.leaf [0, 3, 4, 5, 15]) (.cond (.leaf [0, 3, 4, 5]) (.leaf [4]))) (.seq (.block (.seq (.seq (.leaf [0, 3, 4, 5, 33]) (.cond (.seq (.leaf [2]) (.leaf [2])) (.leaf [0, 3, 4, 5]))) (.seq (.seq (.leaf [0, 3, 4, 5, 38]) (.cond (.leaf [0, 3, 4, 5]) (.leaf [0, 3, 4, 5]))) (.seq (.leaf [0, 3, 4, 5, 6]) (.seq (.seq (.leaf [0, 3, 4, 5, 6, 7]) (.block (.loop (.seq (.seq (.leaf [0, 3, 4, 5, 6, 7, 49]) (.cond (.leaf [0, 3, 4, 5, 6, 7]) (.leaf [0, 3, 4, 5, 6]))) (.seq (.block (.seq (.leaf [0, 3, 4, 5, 6, 7]) (.seq (.leaf [0, 3, 4, 5, 6, 7, 60]) (.cond (.seq (.leaf [2]) (.leaf [2])) (.leaf [0, 3, 4, 5, 6, 7]))))) (.leaf [0, 3, 4, 5, 6, 7])))))) (.seq (.leaf [0, 3, 4, 5, 62]) (.cond (.seq (.leaf [2]) (.leaf [2])) (.leaf [0, 3, 4, 5])))))))) (.leaf [0, 3, 4, 5])))))) (.seq (.leaf [2]) (.leaf [2])))))))

noncomputable def spec_TreeOk_ctx : Ctx := ⟨tlook tys, olook [(37, F_spec_l1In)], ioF, 0⟩

theorem spec_TreeOk_n1_l (x918 : List Int) : Link spec_TreeOk_ctx LL (Code.seq (Code.fst (bodyOf Try.f12)) (Code.seq (Code.fst (Code.snd (bodyOf Try.f12))) (Code.seq (Code.fst (Code.snd (Code.snd (bodyOf Try.f12)))) (Code.fst (Code.snd (Code.snd (Code.snd (bodyOf Try.f12)))))))) (Ann.seq (Ann.fst spec_TreeOk_an) (Ann.seq (Ann.fst (Ann.snd spec_TreeOk_an)) (Ann.seq (Ann.fst (Ann.snd (Ann.snd spec_TreeOk_an))) (Ann.fst (Ann.snd (Ann.snd (Ann.snd spec_TreeOk_an))))))) (⟨mkE 65 0 [(0, .dat (.list (.int .i64)) x918)], []⟩ : St) (spec_TreeOk_n1 x918) (Sum.elim (fun (t : Int) => (Exit.normal, (⟨mkE 65 0 [(0, .dat (.list (.int .i64)) x918), (3, .dat (.int .i64) t), (4, .dat (.int .i64) 0)], []⟩ : St))) (fun (t : Bool) => (Exit.ret, (⟨mkE 65 0 [(2, .dat .bool t)], []⟩ : St)))) := by
  refine Link.of fun K h => ?_
  simp only [spec_TreeOk_n1, wpO_bind, wpO_cond, wpO_map, wpO_some] at h
  exact Awp.of (by kernel_rfl) h

theorem spec_TreeOk_n2_l (x918 : List Int) (x931 : Int) : Link spec_TreeOk_ctx LL (Code.fst (Code.fst (Code.snd (Code.snd (Code.snd (Code.snd (bodyOf Try.f12))))))) (Ann.fst (Ann.fst (Ann.snd (Ann.snd (Ann.snd (Ann.snd spec_TreeOk_an)))))) (⟨mkE 65 0 [(0, .dat (.list (.int .i64)) x918), (3, .dat (.int .i64) x931), (4, .dat (.int .i64) 0)], []⟩ : St) (spec_TreeOk_n2) (fun (t : Unit) => (Exit.normal, (⟨mkE 65 0 [(0, .dat (.list (.int .i64)) x918), (3, .dat (.int .i64) x931), (4, .dat (.int .i64) 0), (5, .dat (.int .i64) 0)], []⟩ : St))) := by
  refine Link.of fun K h => ?_
  simp only [spec_TreeOk_n2, wpO_bind, wpO_cond, wpO_map, wpO_some] at h
  exact Awp.of (by kernel_rfl) h

theorem spec_TreeOk_n3_l (x918 : List Int) (x931 : Int) (x998 : Int) (x999 : Int) : Link spec_TreeOk_ctx LL (Code.fst (Code.fst (Code.fst (Code.snd (Code.fst (Code.snd (Code.snd (Code.snd (Code.snd (bodyOf Try.f12)))))))))) (Ann.fst (Ann.fst (Ann.fst (Ann.snd (Ann.fst (Ann.snd (Ann.snd (Ann.snd (Ann.snd spec_TreeOk_an))))))))) (⟨mkE 65 0 [(0, .dat (.list (.int .i64)) x918), (3, .dat (.int .i64) x931), (4, .dat (.int .i64) x998), (5, .dat (.int .i64) x999)], []⟩ : St) (spec_TreeOk_n3 x931 x998 x999) (Sum.elim (fun (t : Unit) => (Exit.normal, (⟨mkE 65 0 [(0, .dat (.list (.int .i64)) x918), (3, .dat (.int .i64) x931), (4, .dat (.int .i64) x998), (5, .dat (.int .i64) x999)], []⟩ : St))) (fun (t : Int) => ((Exit.exit 0), (⟨mkE 65 0 [(4, .dat (.int .i64) t)], []⟩ : St)))) := by
  refine Link.of fun K h => ?_
  simp only [spec_TreeOk_n3, wpO_bind, wpO_cond, wpO_map, wpO_some] at h
  exact Awp.of (by kernel_rfl) h

theorem spec_TreeOk_n4_l (x918 : List Int) (x931 : Int) (x998 : Int) (x999 : Int) : Link spec_TreeOk_ctx LL (Code.seq (Code.fst (Code.fst (Code.fst (Code.snd (Code.fst (Code.fst (Code.snd (Code.fst (Code.snd (Code.snd (Code.snd (Code.snd (bodyOf Try.f12))))))))))))) (Code.seq (Code.fst (Code.snd (Code.fst (Code.fst (Code.snd (Code.fst (Code.fst (Code.snd (Code.fst (Code.snd (Code.snd (Code.snd (Code.snd (bodyOf Try.f12)))))))))))))) (Code.fst (Code.snd (Code.snd (Code.fst (Code.fst (Code.snd (Code.fst (Code.fst (Code.snd (Code.fst (Code.snd (Code.snd (Code.snd (Code.snd (bodyOf Try.f12))))))))))))))))) (Ann.seq (Ann.fst (Ann.fst (Ann.fst (Ann.snd (Ann.fst (Ann.fst (Ann.snd (Ann.fst (Ann.snd (Ann.snd (Ann.snd (Ann.snd spec_TreeOk_an)))))))))))) (Ann.seq (Ann.fst (Ann.snd (Ann.fst (Ann.fst (Ann.snd (Ann.fst (Ann.fst (Ann.snd (Ann.fst (Ann.snd (Ann.snd (Ann.snd (Ann.snd spec_TreeOk_an))))))))))))) (Ann.fst (Ann.snd (Ann.snd (Ann.fst (Ann.fst (Ann.snd (Ann.fst (Ann.fst (Ann.snd (Ann.fst (Ann.snd (Ann.snd (Ann.snd (Ann.snd spec_TreeOk_an)))))))))))))))) (⟨mkE 65 0 [(0, .dat (.list (.int .i64)) x918), (3, .dat (.int .i64) x931), (4, .dat (.int .i64) x998), (5, .dat (.int .i64) x999)], []⟩ : St) (spec_TreeOk_n4 x918 x931 x998 x999) (Sum.elim (fun (t : Int × Int) => (Exit.normal, (⟨mkE 65 0 [(0, .dat (.list (.int .i64)) x918), (3, .dat (.int .i64) x931), (4, .dat (.int .i64) t.1), (5, .dat (.int .i64) x999), (6, .dat (.int .i64) t.2)], []⟩ : St))) (fun (t : Bool) => (Exit.ret, (⟨mkE 65 0 [(2, .dat .bool t)], []⟩ : St)))) := by
  refine Link.of fun K h => ?_
  simp only [spec_TreeOk_n4, wpO_bind, wpO_cond, wpO_map, wpO_some] at h
  exact Awp.of (by kernel_rfl) h

theorem spec_TreeOk_n5_l (x918 : List Int) (x931 : Int) (x1027 : Int) (x999 : Int) (x1028 : Int) : Link spec_TreeOk_ctx LL (Code.fst (Code.fst (Code.snd (Code.snd (Code.snd (Code.fst (Code.fst (Code.snd (Code.fst (Code.fst (Code.snd (Code.fst (Code.snd (Code.snd (Code.snd (Code.snd (bodyOf Try.f12))))))))))))))))) (Ann.fst (Ann.fst (Ann.snd (Ann.snd (Ann.snd (Ann.fst (Ann.fst (Ann.snd (Ann.fst (Ann.fst (Ann.snd (Ann.fst (Ann.snd (Ann.snd (Ann.snd (Ann.snd spec_TreeOk_an)))))))))))))))) (⟨mkE 65 0 [(0, .dat (.list (.int .i64)) x918), (3, .dat (.int .i64) x931), (4, .dat (.int .i64) x1027), (5, .dat (.int .i64) x999), (6, .dat (.int .i64) x1028)], []⟩ : St) (spec_TreeOk_n5) (fun (t : Unit) => (Exit.normal, (⟨mkE 65 0 [(0, .dat (.list (.int .i64)) x918), (3, .dat (.int .i64) x931), (4, .dat (.int .i64) x1027), (5, .dat (.int .i64) x999), (6, .dat (.int .i64) x1028), (7, .dat (.int .i64) 0)], []⟩ : St))) := by
  refine Link.of fun K h => ?_
  simp only [spec_TreeOk_n5, wpO_bind, wpO_cond, wpO_map, wpO_some] at h
  exact Awp.of (by kernel_rfl) h

theorem spec_TreeOk_n6_l (x918 : List Int) (x931 : Int) (x1027 : Int) (x999 : Int) (x1044 : Int) (x1045 : Int) : Link spec_TreeOk_ctx LL (Code.fst (Code.fst (Code.snd (Code.fst (Code.snd (Code.snd (Code.snd (Code.fst (Code.fst (Code.snd (Code.fst (Code.fst (Code.snd (Code.fst (Code.snd (Code.snd (Code.snd (Code.snd (bodyOf Try.f12))))))))))))))))))) (Ann.fst (Ann.fst (Ann.snd (Ann.fst (Ann.snd (Ann.snd (Ann.snd (Ann.fst (Ann.fst (Ann.snd (Ann.fst (Ann.fst (Ann.snd (Ann.fst (Ann.snd (Ann.snd (Ann.snd (Ann.snd spec_TreeOk_an)))))))))))))))))) (⟨mkE 65 0 [(0, .dat (.list (.int .i64)) x918), (3, .dat (.int .i64) x931), (4, .dat (.int .i64) x1027), (5, .dat (.int .i64) x999), (6, .dat (.int .i64) x1044), (7, .dat (.int .i64) x1045)], []⟩ : St) (spec_TreeOk_n6 x918 x931 x1044 x1045) (Sum.elim (fun (t : Int × Int) => (Exit.normal, (⟨mkE 65 0 [(0, .dat (.list (.int .i64)) x918), (3, .dat (.int .i64) x931), (4, .dat (.int .i64) x1027), (5, .dat (.int .i64) x999), (6, .dat (.int .i64) t.1), (7, .dat (.int .i64) t.2)], []⟩ : St))) (Sum.elim (fun (t : Bool) => (Exit.ret, (⟨mkE 65 0 [(2, .dat .bool t)], []⟩ : St))) (fun (t : Int) => ((Exit.exit 2), (⟨mkE 65 0 [(0, .dat (.list (.int .i64)) x918), (3, .dat (.int .i64) x931), (4, .dat (.int .i64) x1027), (5, .dat (.int .i64) x999), (6, .dat (.int .i64) t)], []⟩ : St))))) := by
  refine Link.of fun K h => ?_
  simp only [spec_TreeOk_n6, wpO_bind, wpO_cond, wpO_map, wpO_some] at h
  exact Awp.of (by kernel_rfl) h

theorem spec_TreeOk_n7_l (x918 : List Int) (x931 : Int) (x1027 : Int) (x999 : Int) (x1028 : Int) : Link spec_TreeOk_ctx LL (Code.fst (Code.snd (Code.fst (Code.snd (Code.snd (Code.snd (Code.fst (Code.fst (Code.snd (Code.fst (Code.fst (Code.snd (Code.fst (Code.snd (Code.snd (Code.snd (Code.snd (bodyOf Try.f12)))))))))))))))))) (Ann.fst (Ann.snd (Ann.fst (Ann.snd (Ann.snd (Ann.snd (Ann.fst (Ann.fst (Ann.snd (Ann.fst (Ann.fst (Ann.snd (Ann.fst (Ann.snd (Ann.snd (Ann.snd (Ann.snd spec_TreeOk_an))))))))))))))))) (⟨mkE 65 0 [(0, .dat (.list (.int .i64)) x918), (3, .dat (.int .i64) x931), (4, .dat (.int .i64) x1027), (5, .dat (.int .i64) x999), (6, .dat (.int .i64) x1028), (7, .dat (.int .i64) 0)], []⟩ : St) (spec_TreeOk_n7 x918 x931 x1028) (Sum.elim (fun (t : Bool) => (Exit.ret, (⟨mkE 65 0 [(2, .dat .bool t)], []⟩ : St))) (fun (t : Int) => ((Exit.exit 2), (⟨mkE 65 0 [(0, .dat (.list (.int .i64)) x918), (3, .dat (.int .i64) x931), (4, .dat (.int .i64) x1027), (5, .dat (.int .i64) x999), (6, .dat (.int .i64) t)], []⟩ : St)))) := by
  unfold spec_TreeOk_n7
  exact Link.cast (by kernel_rfl) (by kernel_rfl) (link_loop (mk := fun (s : Int × Int) => (⟨mkE 65 0 [(0, .dat (.list (.int .i64)) x918), (3, .dat (.int .i64) x931), (4, .dat (.int .i64) x1027), (5, .dat (.int .i64) x999), (6, .dat (.int .i64) s.1), (7, .dat (.int .i64) s.2)], []⟩ : St)) (fin := (Sum.elim (fun (t : Bool) => (Exit.ret, (⟨mkE 65 0 [(2, .dat .bool t)], []⟩ : St))) (fun (t : Int) => ((Exit.exit 2), (⟨mkE 65 0 [(0, .dat (.list (.int .i64)) x918), (3, .dat (.int .i64) x931), (4, .dat (.int .i64) x1027), (5, .dat (.int .i64) x999), (6, .dat (.int .i64) t)], []⟩ : St))))) (by
  rintro (t | t) f K h
  · exact h
  · exact h) (fun s => link_map (spec_TreeOk_n6_l x918 x931 x1027 x999 s.1 s.2) (Sum.elim (fun (t : Int × Int) => Sum.inl (t.1, t.2)) (Sum.elim (fun (t : Bool) => Sum.inr (Sum.inl t)) (fun (t : Int) => Sum.inr (Sum.inr t)))) (by
  rintro (t | t | t)
  · kernel_rfl
  · kernel_rfl
  · kernel_rfl)) (x1028, 0))

theorem spec_TreeOk_n8_l (x918 : List Int) (x931 : Int) (x1027 : Int) (x999 : Int) (x1028 : Int) : Link spec_TreeOk_ctx LL (Code.snd (Code.fst (Code.snd (Code.snd (Code.snd (Code.fst (Code.fst (Code.snd (Code.fst (Code.fst (Code.snd (Code.fst (Code.snd (Code.snd (Code.snd (Code.snd (bodyOf Try.f12))))))))))))))))) (Ann.snd (Ann.fst (Ann.snd (Ann.snd (Ann.snd (Ann.fst (Ann.fst (Ann.snd (Ann.fst (Ann.fst (Ann.snd (Ann.fst (Ann.snd (Ann.snd (Ann.snd (Ann.snd spec_TreeOk_an)))))))))))))))) (⟨mkE 65 0 [(0, .dat (.list (.int .i64)) x918), (3, .dat (.int .i64) x931), (4, .dat (.int .i64) x1027), (5, .dat (.int .i64) x999), (6, .dat (.int .i64) x1028), (7, .dat (.int .i64) 0)], []⟩ : St) (spec_TreeOk_n8 x918 x931 x1028) (Sum.elim (fun (t : Int) => (Exit.normal, (⟨mkE 65 0 [(0, .dat (.list (.int .i64)) x918), (3, .dat (.int .i64) x931), (4, .dat (.int .i64) x1027), (5, .dat (.int .i64) x999), (6, .dat (.int .i64) t)], []⟩ : St))) (fun (t : Bool) => (Exit.ret, (⟨mkE 65 0 [(2, .dat .bool t)], []⟩ : St)))) := by
  unfold spec_TreeOk_n8
  exact Link.cast (by kernel_rfl) (by kernel_rfl) (link_block (id := 2) (spec_TreeOk_n7_l x918 x931 x1027 x999 x1028) (Sum.elim (fun (t : Bool) => (Sum.inr t)) (fun (t : Int) => (Sum.inl t))) (by
  rintro (t | t) K h
  · exact Eq.mp (by kernel_rfl) h
  · exact Eq.mp (by kernel_rfl) h))

theorem spec_TreeOk_n9_l (x918 : List Int) (x931 : Int) (x1027 : Int) (x999 : Int) (x1028 : Int) : Link spec_TreeOk_ctx LL (Code.fst (Code.snd (Code.snd (Code.snd (Code.fst (Code.fst (Code.snd (Code.fst (Code.fst (Code.snd (Code.fst (Code.snd (Code.snd (Code.snd (Code.snd (bodyOf Try.f12)))))))))))))))) (Ann.fst (Ann.snd (Ann.snd (Ann.snd (Ann.fst (Ann.fst (Ann.snd (Ann.fst (Ann.fst (Ann.snd (Ann.fst (Ann.snd (Ann.snd (Ann.snd (Ann.snd spec_TreeOk_an))))))))))))))) (⟨mkE 65 0 [(0, .dat (.list (.int .i64)) x918), (3, .dat (.int .i64) x931), (4, .dat (.int .i64) x1027), (5, .dat (.int .i64) x999), (6, .dat (.int .i64) x1028)], []⟩ : St) (spec_TreeOk_n9 x918 x931 x1028) (Sum.elim (fun (t : Int) => (Exit.normal, (⟨mkE 65 0 [(0, .dat (.list (.int .i64)) x918), (3, .dat (.int .i64) x931), (4, .dat (.int .i64) x1027), (5, .dat (.int .i64) x999), (6, .dat (.int .i64) t)], []⟩ : St))) (fun (t : Bool) => (Exit.ret, (⟨mkE 65 0 [(2, .dat .bool t)], []⟩ : St)))) := by
  unfold spec_TreeOk_n9
  exact Link.cast (by kernel_rfl) (by kernel_rfl) (link_seq (b := (Code.snd (Code.fst (Code.snd (Code.snd (Code.snd (Code.fst (Code.fst (Code.snd (Code.fst (Code.fst (Code.snd (Code.fst (Code.snd (Code.snd (Code.snd (Code.snd (bodyOf Try.f12)))))))))))))))))) (y := (Ann.snd (Ann.fst (Ann.snd (Ann.snd (Ann.snd (Ann.fst (Ann.fst (Ann.snd (Ann.fst (Ann.fst (Ann.snd (Ann.fst (Ann.snd (Ann.snd (Ann.snd (Ann.snd spec_TreeOk_an))))))))))))))))) (spec_TreeOk_n5_l x918 x931 x1027 x999 x1028) (fun (t : Unit) => (spec_TreeOk_n8_l x918 x931 x1027 x999 x1028)))

theorem spec_TreeOk_n10_l (x918 : List Int) (x931 : Int) (x1027 : Int) (x999 : Int) (x1044 : Int) : Link spec_TreeOk_ctx LL (Code.snd (Code.snd (Code.snd (Code.snd (Code.fst (Code.fst (Code.snd (Code.fst (Code.fst (Code.snd (Code.fst (Code.snd (Code.snd (Code.snd (Code.snd (bodyOf Try.f12)))))))))))))))) (Ann.snd (Ann.snd (Ann.snd (Ann.snd (Ann.fst (Ann.fst (Ann.snd (Ann.fst (Ann.fst (Ann.snd (Ann.fst (Ann.snd (Ann.snd (Ann.snd (Ann.snd spec_TreeOk_an))))))))))))))) (⟨mkE 65 0 [(0, .dat (.list (.int .i64)) x918), (3, .dat (.int .i64) x931), (4, .dat (.int .i64) x1027), (5, .dat (.int .i64) x999), (6, .dat (.int .i64) x1044)], []⟩ : St) (spec_TreeOk_n10 x1044) (Sum.elim (fun (t : Unit) => (Exit.normal, (⟨mkE 65 0 [(0, .dat (.list (.int .i64)) x918), (3, .dat (.int .i64) x931), (4, .dat (.int .i64) x1027), (5, .dat (.int .i64) x999)], []⟩ : St))) (fun (t : Bool) => (Exit.ret, (⟨mkE 65 0 [(2, .dat .bool t)], []⟩ : St)))) := by
  refine Link.of fun K h => ?_
  simp only [spec_TreeOk_n10, wpO_bind, wpO_cond, wpO_map, wpO_some] at h
  exact Awp.of (by kernel_rfl) h

theorem spec_TreeOk_n11_l (x918 : List Int) (x931 : Int) (x1027 : Int) (x999 : Int) (x1028 : Int) : Link spec_TreeOk_ctx LL (Code.snd (Code.snd (Code.snd (Code.fst (Code.fst (Code.snd (Code.fst (Code.fst (Code.snd (Code.fst (Code.snd (Code.snd (Code.snd (Code.snd (bodyOf Try.f12))))))))))))))) (Ann.snd (Ann.snd (Ann.snd (Ann.fst (Ann.fst (Ann.snd (Ann.fst (Ann.fst (Ann.snd (Ann.fst (Ann.snd (Ann.snd (Ann.snd (Ann.snd spec_TreeOk_an)))))))))))))) (⟨mkE 65 0 [(0, .dat (.list (.int .i64)) x918), (3, .dat (.int .i64) x931), (4, .dat (.int .i64) x1027), (5, .dat (.int .i64) x999), (6, .dat (.int .i64) x1028)], []⟩ : St) (spec_TreeOk_n11 x918 x931 x1028) (Sum.elim (fun (t : Unit) => (Exit.normal, (⟨mkE 65 0 [(0, .dat (.list (.int .i64)) x918), (3, .dat (.int .i64) x931), (4, .dat (.int .i64) x1027), (5, .dat (.int .i64) x999)], []⟩ : St))) (fun (t : Bool) => (Exit.ret, (⟨mkE 65 0 [(2, .dat .bool t)], []⟩ : St)))) := by
  unfold spec_TreeOk_n11
  exact Link.cast (by kernel_rfl) (by kernel_rfl) (link_seq2 (b := (Code.snd (Code.snd (Code.snd (Code.snd (Code.fst (Code.fst (Code.snd (Code.fst (Code.fst (Code.snd (Code.fst (Code.snd (Code.snd (Code.snd (Code.snd (bodyOf Try.f12))))))))))))))))) (y := (Ann.snd (Ann.snd (Ann.snd (Ann.snd (Ann.fst (Ann.fst (Ann.snd (Ann.fst (Ann.fst (Ann.snd (Ann.fst (Ann.snd (Ann.snd (Ann.snd (Ann.snd spec_TreeOk_an)))))))))))))))) (spec_TreeOk_n9_l x918 x931 x1027 x999 x1028) (fun (t : Int) => (spec_TreeOk_n10_l x918 x931 x1027 x999 t)) (fun (t : Bool) => (Sum.inr t)) (by
  rintro t
  · kernel_rfl) (by
  rintro t f K h
  · exact h))

theorem spec_TreeOk_n12_l (x918 : List Int) (x931 : Int) (x998 : Int) (x999 : Int) : Link spec_TreeOk_ctx LL (Code.fst (Code.fst (Code.snd (Code.fst (Code.fst (Code.snd (Code.fst (Code.snd (Code.snd (Code.snd (Code.snd (bodyOf Try.f12)))))))))))) (Ann.fst (Ann.fst (Ann.snd (Ann.fst (Ann.fst (Ann.snd (Ann.fst (Ann.snd (Ann.snd (Ann.snd (Ann.snd spec_TreeOk_an))))))))))) (⟨mkE 65 0 [(0, .dat (.list (.int .i64)) x918), (3, .dat (.int .i64) x931), (4, .dat (.int .i64) x998), (5, .dat (.int .i64) x999)], []⟩ : St) (spec_TreeOk_n12 x918 x931 x998 x999) (Sum.elim (fun (t : Int) => (Exit.normal, (⟨mkE 65 0 [(0, .dat (.list (.int .i64)) x918), (3, .dat (.int .i64) x931), (4, .dat (.int .i64) t), (5, .dat (.int .i64) x999)], []⟩ : St))) (fun (t : Bool) => (Exit.ret, (⟨mkE 65 0 [(2, .dat .bool t)], []⟩ : St)))) := by
  unfold spec_TreeOk_n12
  exact Link.cast (by kernel_rfl) (by kernel_rfl) (link_group (c := (Code.fst (Code.snd (Code.snd (Code.fst (Code.fst (Code.snd (Code.fst (Code.fst (Code.snd (Code.fst (Code.snd (Code.snd (Code.snd (Code.snd (bodyOf Try.f12)))))))))))))))) (a := (Ann.fst (Ann.snd (Ann.snd (Ann.fst (Ann.fst (Ann.snd (Ann.fst (Ann.fst (Ann.snd (Ann.fst (Ann.snd (Ann.snd (Ann.snd (Ann.snd spec_TreeOk_an))))))))))))))) [(Code.fst (Code.fst (Code.fst (Code.snd (Code.fst (Code.fst (Code.snd (Code.fst (Code.snd (Code.snd (Code.snd (Code.snd (bodyOf Try.f12))))))))))))), (Code.fst (Code.snd (Code.fst (Code.fst (Code.snd (Code.fst (Code.fst (Code.snd (Code.fst (Code.snd (Code.snd (Code.snd (Code.snd (bodyOf Try.f12))))))))))))))] [(Ann.fst (Ann.fst (Ann.fst (Ann.snd (Ann.fst (Ann.fst (Ann.snd (Ann.fst (Ann.snd (Ann.snd (Ann.snd (Ann.snd spec_TreeOk_an)))))))))))), (Ann.fst (Ann.snd (Ann.fst (Ann.fst (Ann.snd (Ann.fst (Ann.fst (Ann.snd (Ann.fst (Ann.snd (Ann.snd (Ann.snd (Ann.snd spec_TreeOk_an)))))))))))))] rfl (link_seq2 (b := (Code.snd (Code.snd (Code.snd (Code.fst (Code.fst (Code.snd (Code.fst (Code.fst (Code.snd (Code.fst (Code.snd (Code.snd (Code.snd (Code.snd (bodyOf Try.f12)))))))))))))))) (y := (Ann.snd (Ann.snd (Ann.snd (Ann.fst (Ann.fst (Ann.snd (Ann.fst (Ann.fst (Ann.snd (Ann.fst (Ann.snd (Ann.snd (Ann.snd (Ann.snd spec_TreeOk_an))))))))))))))) (spec_TreeOk_n4_l x918 x931 x998 x999) (fun (t : Int × Int) => (link_map (spec_TreeOk_n11_l x918 x931 t.1 x999 t.2) (Sum.elim (fun (u : Unit) => (Sum.inl t.1)) (fun (u : Bool) => (Sum.inr u))) (by
  rintro (t | t)
  · kernel_rfl
  · kernel_rfl))) (fun (t : Bool) => (Sum.inr t)) (by
  rintro t
  · kernel_rfl) (by
  rintro t f K h
  · exact h)))

theorem spec_TreeOk_n13_l (x918 : List Int) (x931 : Int) (x998 : Int) (x999 : Int) : Link spec_TreeOk_ctx LL (Code.fst (Code.snd (Code.fst (Code.fst (Code.snd (Code.fst (Code.snd (Code.snd (Code.snd (Code.snd (bodyOf Try.f12))))))))))) (Ann.fst (Ann.snd (Ann.fst (Ann.fst (Ann.snd (Ann.fst (Ann.snd (Ann.snd (Ann.snd (Ann.snd spec_TreeOk_an)))))))))) (⟨mkE 65 0 [(0, .dat (.list (.int .i64)) x918), (3, .dat (.int .i64) x931), (4, .dat (.int .i64) x998), (5, .dat (.int .i64) x999)], []⟩ : St) (spec_TreeOk_n13 x918 x931 x998 x999) (Sum.elim (fun (t : Int) => (Exit.normal, (⟨mkE 65 0 [(0, .dat (.list (.int .i64)) x918), (3, .dat (.int .i64) x931), (4, .dat (.int .i64) t), (5, .dat (.int .i64) x999)], []⟩ : St))) (fun (t : Bool) => (Exit.ret, (⟨mkE 65 0 [(2, .dat .bool t)], []⟩ : St)))) := by
  unfold spec_TreeOk_n13
  exact Link.cast (by kernel_rfl) (by kernel_rfl) (link_block (id := 1) (spec_TreeOk_n12_l x918 x931 x998 x999) (Sum.elim (fun (t : Int) => (Sum.inl t)) (fun (t : Bool) => (Sum.inr t))) (by
  rintro (t | t) K h
  · exact Eq.mp (by kernel_rfl) h
  · exact Eq.mp (by kernel_rfl) h))

theorem spec_TreeOk_n14_l (x918 : List Int) (x931 : Int) (x1027 : Int) (x999 : Int) : Link spec_TreeOk_ctx LL (Code.snd (Code.snd (Code.fst (Code.fst (Code.snd (Code.fst (Code.snd (Code.snd (Code.snd (Code.snd (bodyOf Try.f12))))))))))) (Ann.snd (Ann.snd (Ann.fst (Ann.fst (Ann.snd (Ann.fst (Ann.snd (Ann.snd (Ann.snd (Ann.snd spec_TreeOk_an)))))))))) (⟨mkE 65 0 [(0, .dat (.list (.int .i64)) x918), (3, .dat (.int .i64) x931), (4, .dat (.int .i64) x1027), (5, .dat (.int .i64) x999)], []⟩ : St) (spec_TreeOk_n14 x999) (fun (t : Int) => (Exit.normal, (⟨mkE 65 0 [(0, .dat (.list (.int .i64)) x918), (3, .dat (.int .i64) x931), (4, .dat (.int .i64) x1027), (5, .dat (.int .i64) t)], []⟩ : St))) := by
  refine Link.of fun K h => ?_
  simp only [spec_TreeOk_n14, wpO_bind, wpO_cond, wpO_map, wpO_some] at h
  exact Awp.of (by kernel_rfl) h

theorem spec_TreeOk_n15_l (x918 : List Int) (x931 : Int) (x998 : Int) (x999 : Int) : Link spec_TreeOk_ctx LL (Code.snd (Code.fst (Code.fst (Code.snd (Code.fst (Code.snd (Code.snd (Code.snd (Code.snd (bodyOf Try.f12)))))))))) (Ann.snd (Ann.fst (Ann.fst (Ann.snd (Ann.fst (Ann.snd (Ann.snd (Ann.snd (Ann.snd spec_TreeOk_an))))))))) (⟨mkE 65 0 [(0, .dat (.list (.int .i64)) x918), (3, .dat (.int .i64) x931), (4, .dat (.int .i64) x998), (5, .dat (.int .i64) x999)], []⟩ : St) (spec_TreeOk_n15 x918 x931 x998 x999) (Sum.elim (fun (t : Int × Int) => (Exit.normal, (⟨mkE 65 0 [(0, .dat (.list (.int .i64)) x918), (3, .dat (.int .i64) x931), (4, .dat (.int .i64) t.1), (5, .dat (.int .i64) t.2)], []⟩ : St))) (fun (t : Bool) => (Exit.ret, (⟨mkE 65 0 [(2, .dat .bool t)], []⟩ : St)))) := by
  unfold spec_TreeOk_n15
  exact Link.cast (by kernel_rfl) (by kernel_rfl) (link_seq2 (b := (Code.snd (Code.snd (Code.fst (Code.fst (Code.snd (Code.fst (Code.snd (Code.snd (Code.snd (Code.snd (bodyOf Try.f12)))))))))))) (y := (Ann.snd (Ann.snd (Ann.fst (Ann.fst (Ann.snd (Ann.fst (Ann.snd (Ann.snd (Ann.snd (Ann.snd spec_TreeOk_an))))))))))) (spec_TreeOk_n13_l x918 x931 x998 x999) (fun (t : Int) => (link_map (spec_TreeOk_n14_l x918 x931 t x999) (fun (u : Int) => (Sum.inl (t, u))) (by
  rintro t
  · kernel_rfl))) (fun (t : Bool) => (Sum.inr t)) (by
  rintro t
  · kernel_rfl) (by
  rintro t f K h
  · exact h))

theorem spec_TreeOk_n16_l (x918 : List Int) (x931 : Int) (x998 : Int) (x999 : Int) : Link spec_TreeOk_ctx LL (Code.fst (Code.fst (Code.snd (Code.fst (Code.snd (Code.snd (Code.snd (Code.snd (bodyOf Try.f12))))))))) (Ann.fst (Ann.fst (Ann.snd (Ann.fst (Ann.snd (Ann.snd (Ann.snd (Ann.snd spec_TreeOk_an)))))))) (⟨mkE 65 0 [(0, .dat (.list (.int .i64)) x918), (3, .dat (.int .i64) x931), (4, .dat (.int .i64) x998), (5, .dat (.int .i64) x999)], []⟩ : St) (spec_TreeOk_n16 x918 x931 x998 x999) (Sum.elim (fun (t : Int × Int) => (Exit.normal, (⟨mkE 65 0 [(0, .dat (.list (.int .i64)) x918), (3, .dat (.int .i64) x931), (4, .dat (.int .i64) t.1), (5, .dat (.int .i64) t.2)], []⟩ : St))) (Sum.elim (fun (t : Bool) => (Exit.ret, (⟨mkE 65 0 [(2, .dat .bool t)], []⟩ : St))) (fun (t : Int) => ((Exit.exit 0), (⟨mkE 65 0 [(4, .dat (.int .i64) t)], []⟩ : St))))) := by
  unfold spec_TreeOk_n16
  exact Link.cast (by kernel_rfl) (by kernel_rfl) (link_seq2 (b := (Code.snd (Code.fst (Code.fst (Code.snd (Code.fst (Code.snd (Code.snd (Code.snd (Code.snd (bodyOf Try.f12))))))))))) (y := (Ann.snd (Ann.fst (Ann.fst (Ann.snd (Ann.fst (Ann.snd (Ann.snd (Ann.snd (Ann.snd spec_TreeOk_an)))))))))) (spec_TreeOk_n3_l x918 x931 x998 x999) (fun (t : Unit) => (link_map (spec_TreeOk_n15_l x918 x931 x998 x999) (Sum.elim (fun (t : Int × Int) => (Sum.inl (t.1, t.2))) (fun (t : Bool) => (Sum.inr (Sum.inl t)))) (by
  rintro (t | t)
  · kernel_rfl
  · kernel_rfl))) (fun (t : Int) => (Sum.inr (Sum.inr t))) (by
  rintro t
  · kernel_rfl) (by
  rintro t f K h
  · exact h))

theorem spec_TreeOk_n17_l (x918 : List Int) (x931 : Int) : Link spec_TreeOk_ctx LL (Code.fst (Code.snd (Code.fst (Code.snd (Code.snd (Code.snd (Code.snd (bodyOf Try.f12)))))))) (Ann.fst (Ann.snd (Ann.fst (Ann.snd (Ann.snd (Ann.snd (Ann.snd spec_TreeOk_an))))))) (⟨mkE 65 0 [(0, .dat (.list (.int .i64)) x918), (3, .dat (.int .i64) x931), (4, .dat (.int .i64) 0), (5, .dat (.int .i64) 0)], []⟩ : St) (spec_TreeOk_n17 x918 x931) (Sum.elim (fun (t : Bool) => (Exit.ret, (⟨mkE 65 0 [(2, .dat .bool t)], []⟩ : St))) (fun (t : Int) => ((Exit.exit 0), (⟨mkE 65 0 [(4, .dat (.int .i64) t)], []⟩ : St)))) := by
  unfold spec_TreeOk_n17
  exact Link.cast (by kernel_rfl) (by kernel_rfl) (link_loop (mk := fun (s : Int × Int) => (⟨mkE 65 0 [(0, .dat (.list (.int .i64)) x918), (3, .dat (.int .i64) x931), (4, .dat (.int .i64) s.1), (5, .dat (.int .i64) s.2)], []⟩ : St)) (fin := (Sum.elim (fun (t : Bool) => (Exit.ret, (⟨mkE 65 0 [(2, .dat .bool t)], []⟩ : St))) (fun (t : Int) => ((Exit.exit 0), (⟨mkE 65 0 [(4, .dat (.int .i64) t)], []⟩ : St))))) (by
  rintro (t | t) f K h
  · exact h
  · exact h) (fun s => link_map (spec_TreeOk_n16_l x918 x931 s.1 s.2) (Sum.elim (fun (t : Int × Int) => Sum.inl (t.1, t.2)) (Sum.elim (fun (t : Bool) => Sum.inr (Sum.inl t)) (fun (t : Int) => Sum.inr (Sum.inr t)))) (by
  rintro (t | t | t)
  · kernel_rfl
  · kernel_rfl
  · kernel_rfl)) (0, 0))

theorem spec_TreeOk_n18_l (x918 : List Int) (x931 : Int) : Link spec_TreeOk_ctx LL (Code.snd (Code.fst (Code.snd (Code.snd (Code.snd (Code.snd (bodyOf Try.f12))))))) (Ann.snd (Ann.fst (Ann.snd (Ann.snd (Ann.snd (Ann.snd spec_TreeOk_an)))))) (⟨mkE 65 0 [(0, .dat (.list (.int .i64)) x918), (3, .dat (.int .i64) x931), (4, .dat (.int .i64) 0), (5, .dat (.int .i64) 0)], []⟩ : St) (spec_TreeOk_n18 x918 x931) (Sum.elim (fun (t : Int) => (Exit.normal, (⟨mkE 65 0 [(4, .dat (.int .i64) t)], []⟩ : St))) (fun (t : Bool) => (Exit.ret, (⟨mkE 65 0 [(2, .dat .bool t)], []⟩ : St)))) := by
  unfold spec_TreeOk_n18
  exact Link.cast (by kernel_rfl) (by kernel_rfl) (link_block (id := 0) (spec_TreeOk_n17_l x918 x931) (Sum.elim (fun (t : Bool) => (Sum.inr t)) (fun (t : Int) => (Sum.inl t))) (by
  rintro (t | t) K h
  · exact Eq.mp (by kernel_rfl) h
  · exact Eq.mp (by kernel_rfl) h))

theorem spec_TreeOk_n19_l (x918 : List Int) (x931 : Int) : Link spec_TreeOk_ctx LL (Code.fst (Code.snd (Code.snd (Code.snd (Code.snd (bodyOf Try.f12)))))) (Ann.fst (Ann.snd (Ann.snd (Ann.snd (Ann.snd spec_TreeOk_an))))) (⟨mkE 65 0 [(0, .dat (.list (.int .i64)) x918), (3, .dat (.int .i64) x931), (4, .dat (.int .i64) 0)], []⟩ : St) (spec_TreeOk_n19 x918 x931) (Sum.elim (fun (t : Int) => (Exit.normal, (⟨mkE 65 0 [(4, .dat (.int .i64) t)], []⟩ : St))) (fun (t : Bool) => (Exit.ret, (⟨mkE 65 0 [(2, .dat .bool t)], []⟩ : St)))) := by
  unfold spec_TreeOk_n19
  exact Link.cast (by kernel_rfl) (by kernel_rfl) (link_seq (b := (Code.snd (Code.fst (Code.snd (Code.snd (Code.snd (Code.snd (bodyOf Try.f12)))))))) (y := (Ann.snd (Ann.fst (Ann.snd (Ann.snd (Ann.snd (Ann.snd spec_TreeOk_an))))))) (spec_TreeOk_n2_l x918 x931) (fun (t : Unit) => (spec_TreeOk_n18_l x918 x931)))

theorem spec_TreeOk_n20_l (x998 : Int) : Link spec_TreeOk_ctx LL (Code.snd (Code.snd (Code.snd (Code.snd (Code.snd (bodyOf Try.f12)))))) (Ann.snd (Ann.snd (Ann.snd (Ann.snd (Ann.snd spec_TreeOk_an))))) (⟨mkE 65 0 [(4, .dat (.int .i64) x998)], []⟩ : St) (spec_TreeOk_n20 x998) (fun (t : Bool) => (Exit.ret, (⟨mkE 65 0 [(2, .dat .bool t)], []⟩ : St))) := by
  refine Link.of fun K h => ?_
  simp only [spec_TreeOk_n20, wpO_bind, wpO_cond, wpO_map, wpO_some] at h
  exact Awp.of (by kernel_rfl) h

theorem spec_TreeOk_n21_l (x918 : List Int) (x931 : Int) : Link spec_TreeOk_ctx LL (Code.snd (Code.snd (Code.snd (Code.snd (bodyOf Try.f12))))) (Ann.snd (Ann.snd (Ann.snd (Ann.snd spec_TreeOk_an)))) (⟨mkE 65 0 [(0, .dat (.list (.int .i64)) x918), (3, .dat (.int .i64) x931), (4, .dat (.int .i64) 0)], []⟩ : St) (spec_TreeOk_n21 x918 x931) (fun (t : Bool) => (Exit.ret, (⟨mkE 65 0 [(2, .dat .bool t)], []⟩ : St))) := by
  unfold spec_TreeOk_n21
  exact Link.cast (by kernel_rfl) (by kernel_rfl) (link_seq2 (b := (Code.snd (Code.snd (Code.snd (Code.snd (Code.snd (bodyOf Try.f12))))))) (y := (Ann.snd (Ann.snd (Ann.snd (Ann.snd (Ann.snd spec_TreeOk_an)))))) (spec_TreeOk_n19_l x918 x931) (fun (t : Int) => (spec_TreeOk_n20_l t)) (fun (t : Bool) => t) (by
  rintro t
  · kernel_rfl) (by
  rintro t f K h
  · exact h))

theorem spec_TreeOk_n22_l (x918 : List Int) : Link spec_TreeOk_ctx LL (bodyOf Try.f12) spec_TreeOk_an (⟨mkE 65 0 [(0, .dat (.list (.int .i64)) x918)], []⟩ : St) (spec_TreeOk_n22 x918) (fun (t : Bool) => (Exit.ret, (⟨mkE 65 0 [(2, .dat .bool t)], []⟩ : St))) := by
  unfold spec_TreeOk_n22
  exact Link.cast (by kernel_rfl) (by kernel_rfl) (link_group (c := (Code.fst (Code.snd (Code.snd (Code.snd (bodyOf Try.f12)))))) (a := (Ann.fst (Ann.snd (Ann.snd (Ann.snd spec_TreeOk_an))))) [(Code.fst (bodyOf Try.f12)), (Code.fst (Code.snd (bodyOf Try.f12))), (Code.fst (Code.snd (Code.snd (bodyOf Try.f12))))] [(Ann.fst spec_TreeOk_an), (Ann.fst (Ann.snd spec_TreeOk_an)), (Ann.fst (Ann.snd (Ann.snd spec_TreeOk_an)))] rfl (link_seq2 (b := (Code.snd (Code.snd (Code.snd (Code.snd (bodyOf Try.f12)))))) (y := (Ann.snd (Ann.snd (Ann.snd (Ann.snd spec_TreeOk_an))))) (spec_TreeOk_n1_l x918) (fun (t : Int) => (spec_TreeOk_n21_l x918 t)) (fun (t : Bool) => t) (by
  rintro t
  · kernel_rfl) (by
  rintro t f K h
  · exact h)))

theorem spec_TreeOk_e (x918 : List Int) {r : AV} {H' : Heap} (h : (Ans.mk _ (spec_TreeOk x918) (fun (t : Bool) => (.dat .bool t, []))).run = some (r, H')) : Awp spec_TreeOk_ctx LL (bodyOf Try.f12) spec_TreeOk_an (⟨mkE 65 0 [(0, .dat (.list (.int .i64)) x918)], []⟩ : St) (Ret (tlook tys) Try.f12.results.toList r H') :=
  ret_of' (spec_TreeOk_n22_l x918) (by unfold spec_TreeOk; kernel_rfl) (by
  intro t
  exact ret_mk [.dat .bool t] (by kernel_rfl) (by kernel_rfl) (by kernel_rfl) (by kernel_rfl)) h

def F_spec_TreeOk : Fun := fun avs H =>
  match avs, H with
  | [.dat (.list (.int .i64)) x918], [] => ⟨_, spec_TreeOk x918, fun (t : Bool) => (.dat .bool t, [])⟩
  | _, _ => Ans.no

theorem spec_TreeOk_sound : Sound Try.prog 12 F_spec_TreeOk := by
  refine fn_sound' (C := spec_TreeOk_ctx) (c := bodyOf Try.f12) (cok_of tys_ok (List.forall_mem_cons.2 ⟨spec_l1In_sound, by simp⟩) (List.forall_mem_cons.2 ⟨Try.call37, by simp⟩) (by kernel_rfl)) Try.func12 (by kernel_rfl) LL spec_TreeOk_an ?_
  intro avs H r H' h
  unfold F_spec_TreeOk at h
  split at h
  · refine Awp.cast ?_ ?_ ?_ (spec_TreeOk_e _ h) <;> kernel_rfl
  · simp [Ans.no, Ans.run] at h

/-! loop.example/headtrees/laws.alive -/

def laws_alive_an : Ann := (.seq (.leaf []) (.seq (.leaf [0]) (.leaf [0])))

noncomputable def laws_alive_ctx : Ctx := ⟨tlook tys, olook [(11, F_impl_TreeOk)], ioF, 0⟩

theorem laws_alive_n1_l : Link laws_alive_ctx LL (bodyOf Try.f13) laws_alive_an (⟨mkE 8 0 [], []⟩ : St) (laws_alive_n1) (fun (t : Bool) => (Exit.ret, (⟨mkE 8 0 [(0, .dat .bool t)], []⟩ : St))) := by
  refine Link.of fun K h => ?_
  simp only [laws_alive_n1, wpO_bind, wpO_cond, wpO_map, wpO_some] at h
  exact Awp.of (by kernel_rfl) h

theorem laws_alive_e {r : AV} {H' : Heap} (h : (Ans.mk _ (laws_alive) (fun (t : Bool) => (.dat .bool t, []))).run = some (r, H')) : Awp laws_alive_ctx LL (bodyOf Try.f13) laws_alive_an (⟨mkE 8 0 [], []⟩ : St) (Ret (tlook tys) Try.f13.results.toList r H') :=
  ret_of' (laws_alive_n1_l) (by unfold laws_alive; kernel_rfl) (by
  intro t
  exact ret_mk [.dat .bool t] (by kernel_rfl) (by kernel_rfl) (by kernel_rfl) (by kernel_rfl)) h

def F_laws_alive : Fun := fun avs H =>
  match avs, H with
  | [], [] => ⟨_, laws_alive, fun (t : Bool) => (.dat .bool t, [])⟩
  | _, _ => Ans.no

theorem laws_alive_sound : Sound Try.prog 13 F_laws_alive := by
  refine fn_sound' (C := laws_alive_ctx) (c := bodyOf Try.f13) (cok_of tys_ok (List.forall_mem_cons.2 ⟨impl_TreeOk_sound, by simp⟩) (List.forall_mem_cons.2 ⟨Try.call11, by simp⟩) (by kernel_rfl)) Try.func13 (by kernel_rfl) LL laws_alive_an ?_
  intro avs H r H' h
  unfold F_laws_alive at h
  split at h
  · refine Awp.cast ?_ ?_ ?_ (laws_alive_e h) <;> kernel_rfl
  · simp [Ans.no, Ans.run] at h

/-! loop.example/headtrees/laws.FnTreeOk -/

def laws_FnTreeOk_an : Ann := (.seq (.leaf [0]) (.seq (.seq (.leaf [0, 8]) (.cond (.seq (.leaf [2]) (.leaf [2])) (.leaf [0]))) (.seq (.leaf [3]) (.seq (.leaf [3, 4]) (.seq (.seq (.leaf [3, 4, 16]) (.cond (.seq (.leaf [2]) (.leaf [2])) (.leaf [3, 4]))) (.seq (.seq (.leaf [3, 4, 5]) (.block (.loop (.seq (.seq (.leaf [3, 4, 5, 28]) (.cond (.leaf [3, 4, 5]) (.leaf []))) (.seq (.block (.seq (.leaf [3, 4, 5, 38]) (.cond (.seq (.leaf [2]) (.leaf [2])) (.leaf [3, 4, 5])))) (.leaf [3, 4, 5])))))) (.seq (.leaf [2]) (.leaf [2]))))))))

noncomputable def laws_FnTreeOk_ctx : Ctx := ⟨tlook tys, olook [(10, F_spec_DrawTreeOk), (11, F_impl_TreeOk), (12, F_spec_TreeOk), (13, F_laws_alive)], ioF, 0⟩

theorem laws_FnTreeOk_n1_l (x2 : List Int) : Link laws_FnTreeOk_ctx LL (Code.seq (Code.fst (bodyOf Try.f3)) (Code.seq (Code.fst (Code.snd (bodyOf Try.f3))) (Code.seq (Code.fst (Code.snd (Code.snd (bodyOf Try.f3)))) (Code.seq (Code.fst (Code.snd (Code.snd (Code.snd (bodyOf Try.f3))))) (Code.fst (Code.snd (Code.snd (Code.snd (Code.snd (bodyOf Try.f3)))))))))) (Ann.seq (Ann.fst laws_FnTreeOk_an) (Ann.seq (Ann.fst (Ann.snd laws_FnTreeOk_an)) (Ann.seq (Ann.fst (Ann.snd (Ann.snd laws_FnTreeOk_an))) (Ann.seq (Ann.fst (Ann.snd (Ann.snd (Ann.snd laws_FnTreeOk_an)))) (Ann.fst (Ann.snd (Ann.snd (Ann.snd (Ann.snd laws_FnTreeOk_an))))))))) (⟨mkE 49 0 [(0, .dat (.list (.int .u8)) x2)], []⟩ : St) (laws_FnTreeOk_n1 x2) (Sum.elim (fun (t : Bool × (List Int)) => (Exit.normal, (⟨mkE 49 0 [(3, .slc 0), (4, .dat .bool t.1)], [some (.seq (.int .i64) t.2)]⟩ : St))) (fun (t : Bool) => (Exit.ret, (⟨mkE 49 0 [(2, .dat .bool t)], []⟩ : St)))) := by
  refine Link.of fun K h => ?_
  simp only [laws_FnTreeOk_n1, wpO_bind, wpO_cond, wpO_map, wpO_some] at h
  exact Awp.of (by kernel_rfl) h

theorem laws_FnTreeOk_n2_l (x917 : Bool) (x916 : List Int) : Link laws_FnTreeOk_ctx LL (Code.fst (Code.fst (Code.snd (Code.snd (Code.snd (Code.snd (Code.snd (bodyOf Try.f3)))))))) (Ann.fst (Ann.fst (Ann.snd (Ann.snd (Ann.snd (Ann.snd (Ann.snd laws_FnTreeOk_an))))))) (⟨mkE 49 0 [(3, .slc 0), (4, .dat .bool x917)], [some (.seq (.int .i64) x916)]⟩ : St) (laws_FnTreeOk_n2) (fun (t : Unit) => (Exit.normal, (⟨mkE 49 0 [(3, .slc 0), (4, .dat .bool x917), (5, .dat (.int .i64) 1)], [some (.seq (.int .i64) x916)]⟩ : St))) := by
  refine Link.of fun K h => ?_
  simp only [laws_FnTreeOk_n2, wpO_bind, wpO_cond, wpO_map, wpO_some] at h
  exact Awp.of (by kernel_rfl) h

theorem laws_FnTreeOk_n3_l (x917 : Bool) (x1100 : Int) (x916 : List Int) : Link laws_FnTreeOk_ctx LL (Code.fst (Code.fst (Code.snd (Code.fst (Code.snd (Code.snd (Code.snd (Code.snd (Code.snd (bodyOf Try.f3)))))))))) (Ann.fst (Ann.fst (Ann.snd (Ann.fst (Ann.snd (Ann.snd (Ann.snd (Ann.snd (Ann.snd laws_FnTreeOk_an))))))))) (⟨mkE 49 0 [(3, .slc 0), (4, .dat .bool x917), (5, .dat (.int .i64) x1100)], [some (.seq (.int .i64) x916)]⟩ : St) (laws_FnTreeOk_n3 x917 x1100 x916) (Sum.elim (fun (t : Int) => (Exit.normal, (⟨mkE 49 0 [(3, .slc 0), (4, .dat .bool x917), (5, .dat (.int .i64) t)], [some (.seq (.int .i64) x916)]⟩ : St))) (Sum.elim (fun (t : Bool) => (Exit.ret, (⟨mkE 49 0 [(2, .dat .bool t)], []⟩ : St))) (fun (t : Unit) => ((Exit.exit 0), (⟨mkE 49 0 [], []⟩ : St))))) := by
  refine Link.of fun K h => ?_
  simp only [laws_FnTreeOk_n3, wpO_bind, wpO_cond, wpO_map, wpO_some] at h
  exact Awp.of (by kernel_rfl) h

theorem laws_FnTreeOk_n4_l (x917 : Bool) (x916 : List Int) : Link laws_FnTreeOk_ctx LL (Code.fst (Code.snd (Code.fst (Code.snd (Code.snd (Code.snd (Code.snd (Code.snd (bodyOf Try.f3))))))))) (Ann.fst (Ann.snd (Ann.fst (Ann.snd (Ann.snd (Ann.snd (Ann.snd (Ann.snd laws_FnTreeOk_an)))))))) (⟨mkE 49 0 [(3, .slc 0), (4, .dat .bool x917), (5, .dat (.int .i64) 1)], [some (.seq (.int .i64) x916)]⟩ : St) (laws_FnTreeOk_n4 x917 x916) (Sum.elim (fun (t : Bool) => (Exit.ret, (⟨mkE 49 0 [(2, .dat .bool t)], []⟩ : St))) (fun (t : Unit) => ((Exit.exit 0), (⟨mkE 49 0 [], []⟩ : St)))) := by
  unfold laws_FnTreeOk_n4
  exact Link.cast (by kernel_rfl) (by kernel_rfl) (link_loop (mk := fun (s : Int) => (⟨mkE 49 0 [(3, .slc 0), (4, .dat .bool x917), (5, .dat (.int .i64) s)], [some (.seq (.int .i64) x916)]⟩ : St)) (fin := (Sum.elim (fun (t : Bool) => (Exit.ret, (⟨mkE 49 0 [(2, .dat .bool t)], []⟩ : St))) (fun (t : Unit) => ((Exit.exit 0), (⟨mkE 49 0 [], []⟩ : St))))) (by
  rintro (t | t) f K h
  · exact h
  · exact h) (fun s => link_map (laws_FnTreeOk_n3_l x917 s x916) (Sum.elim (fun (t : Int) => Sum.inl t) (Sum.elim (fun (t : Bool) => Sum.inr (Sum.inl t)) (fun (t : Unit) => Sum.inr (Sum.inr t)))) (by
  rintro (t | t | t)
  · kernel_rfl
  · kernel_rfl
  · kernel_rfl)) 1)

theorem laws_FnTreeOk_n5_l (x917 : Bool) (x916 : List Int) : Link laws_FnTreeOk_ctx LL (Code.snd (Code.fst (Code.snd (Code.snd (Code.snd (Code.snd (Code.snd (bodyOf Try.f3)))))))) (Ann.snd (Ann.fst (Ann.snd (Ann.snd (Ann.snd (Ann.snd (Ann.snd laws_FnTreeOk_an))))))) (⟨mkE 49 0 [(3, .slc 0), (4, .dat .bool x917), (5, .dat (.int .i64) 1)], [some (.seq (.int .i64) x916)]⟩ : St) (laws_FnTreeOk_n5 x917 x916) (Sum.elim (fun (t : Unit) => (Exit.normal, (⟨mkE 49 0 [], []⟩ : St))) (fun (t : Bool) => (Exit.ret, (⟨mkE 49 0 [(2, .dat .bool t)], []⟩ : St)))) := by
  unfold laws_FnTreeOk_n5
  exact Link.cast (by kernel_rfl) (by kernel_rfl) (link_block (id := 0) (laws_FnTreeOk_n4_l x917 x916) (Sum.elim (fun (t : Bool) => (Sum.inr t)) (fun (t : Unit) => (Sum.inl ()))) (by
  rintro (t | t) K h
  · exact Eq.mp (by kernel_rfl) h
  · exact Eq.mp (by kernel_rfl) h))

theorem laws_FnTreeOk_n6_l (x917 : Bool) (x916 : List Int) : Link laws_FnTreeOk_ctx LL (Code.fst (Code.snd (Code.snd (Code.snd (Code.snd (Code.snd (bodyOf Try.f3))))))) (Ann.fst (Ann.snd (Ann.snd (Ann.snd (Ann.snd (Ann.snd laws_FnTreeOk_an)))))) (⟨mkE 49 0 [(3, .slc 0), (4, .dat .bool x917)], [some (.seq (.int .i64) x916)]⟩ : St) (laws_FnTreeOk_n6 x917 x916) (Sum.elim (fun (t : Unit) => (Exit.normal, (⟨mkE 49 0 [], []⟩ : St))) (fun (t : Bool) => (Exit.ret, (⟨mkE 49 0 [(2, .dat .bool t)], []⟩ : St)))) := by
  unfold laws_FnTreeOk_n6
  exact Link.cast (by kernel_rfl) (by kernel_rfl) (link_seq (b := (Code.snd (Code.fst (Code.snd (Code.snd (Code.snd (Code.snd (Code.snd (bodyOf Try.f3))))))))) (y := (Ann.snd (Ann.fst (Ann.snd (Ann.snd (Ann.snd (Ann.snd (Ann.snd laws_FnTreeOk_an)))))))) (laws_FnTreeOk_n2_l x917 x916) (fun (t : Unit) => (laws_FnTreeOk_n5_l x917 x916)))

theorem laws_FnTreeOk_n7_l : Link laws_FnTreeOk_ctx LL (Code.snd (Code.snd (Code.snd (Code.snd (Code.snd (Code.snd (bodyOf Try.f3))))))) (Ann.snd (Ann.snd (Ann.snd (Ann.snd (Ann.snd (Ann.snd laws_FnTreeOk_an)))))) (⟨mkE 49 0 [], []⟩ : St) (laws_FnTreeOk_n7) (fun (t : Bool) => (Exit.ret, (⟨mkE 49 0 [(2, .dat .bool t)], []⟩ : St))) := by
  refine Link.of fun K h => ?_
  simp only [laws_FnTreeOk_n7, wpO_bind, wpO_cond, wpO_map, wpO_some] at h
  exact Awp.of (by kernel_rfl) h

theorem laws_FnTreeOk_n8_l (x917 : Bool) (x916 : List Int) : Link laws_FnTreeOk_ctx LL (Code.snd (Code.snd (Code.snd (Code.snd (Code.snd (bodyOf Try.f3)))))) (Ann.snd (Ann.snd (Ann.snd (Ann.snd (Ann.snd laws_FnTreeOk_an))))) (⟨mkE 49 0 [(3, .slc 0), (4, .dat .bool x917)], [some (.seq (.int .i64) x916)]⟩ : St) (laws_FnTreeOk_n8 x917 x916) (fun (t : Bool) => (Exit.ret, (⟨mkE 49 0 [(2, .dat .bool t)], []⟩ : St))) := by
  unfold laws_FnTreeOk_n8
  exact Link.cast (by kernel_rfl) (by kernel_rfl) (link_seq2 (b := (Code.snd (Code.snd (Code.snd (Code.snd (Code.snd (Code.snd (bodyOf Try.f3)))))))) (y := (Ann.snd (Ann.snd (Ann.snd (Ann.snd (Ann.snd (Ann.snd laws_FnTreeOk_an))))))) (laws_FnTreeOk_n6_l x917 x916) (fun (t : Unit) => (laws_FnTreeOk_n7_l)) (fun (t : Bool) => t) (by
  rintro t
  · kernel_rfl) (by
  rintro t f K h
  · exact h))

theorem laws_FnTreeOk_n9_l (x2 : List Int) : Link laws_FnTreeOk_ctx LL (bodyOf Try.f3) laws_FnTreeOk_an (⟨mkE 49 0 [(0, .dat (.list (.int .u8)) x2)], []⟩ : St) (laws_FnTreeOk_n9 x2) (fun (t : Bool) => (Exit.ret, (⟨mkE 49 0 [(2, .dat .bool t)], []⟩ : St))) := by
  unfold laws_FnTreeOk_n9
  exact Link.cast (by kernel_rfl) (by kernel_rfl) (link_group (c := (Code.fst (Code.snd (Code.snd (Code.snd (Code.snd (bodyOf Try.f3))))))) (a := (Ann.fst (Ann.snd (Ann.snd (Ann.snd (Ann.snd laws_FnTreeOk_an)))))) [(Code.fst (bodyOf Try.f3)), (Code.fst (Code.snd (bodyOf Try.f3))), (Code.fst (Code.snd (Code.snd (bodyOf Try.f3)))), (Code.fst (Code.snd (Code.snd (Code.snd (bodyOf Try.f3)))))] [(Ann.fst laws_FnTreeOk_an), (Ann.fst (Ann.snd laws_FnTreeOk_an)), (Ann.fst (Ann.snd (Ann.snd laws_FnTreeOk_an))), (Ann.fst (Ann.snd (Ann.snd (Ann.snd laws_FnTreeOk_an))))] rfl (link_seq2 (b := (Code.snd (Code.snd (Code.snd (Code.snd (Code.snd (bodyOf Try.f3))))))) (y := (Ann.snd (Ann.snd (Ann.snd (Ann.snd (Ann.snd laws_FnTreeOk_an)))))) (laws_FnTreeOk_n1_l x2) (fun (t : Bool × (List Int)) => (laws_FnTreeOk_n8_l t.1 t.2)) (fun (t : Bool) => t) (by
  rintro t
  · kernel_rfl) (by
  rintro t f K h
  · exact h)))

theorem laws_FnTreeOk_e (x2 : List Int) {r : AV} {H' : Heap} (h : (Ans.mk _ (laws_FnTreeOk x2) (fun (t : Bool) => (.dat .bool t, []))).run = some (r, H')) : Awp laws_FnTreeOk_ctx LL (bodyOf Try.f3) laws_FnTreeOk_an (⟨mkE 49 0 [(0, .dat (.list (.int .u8)) x2)], []⟩ : St) (Ret (tlook tys) Try.f3.results.toList r H') :=
  ret_of' (laws_FnTreeOk_n9_l x2) (by unfold laws_FnTreeOk; kernel_rfl) (by
  intro t
  exact ret_mk [.dat .bool t] (by kernel_rfl) (by kernel_rfl) (by kernel_rfl) (by kernel_rfl)) h

def F_laws_FnTreeOk : Fun := fun avs H =>
  match avs, H with
  | [.dat (.list (.int .u8)) x2], [] => ⟨_, laws_FnTreeOk x2, fun (t : Bool) => (.dat .bool t, [])⟩
  | _, _ => Ans.no

theorem laws_FnTreeOk_sound : Sound Try.prog 3 F_laws_FnTreeOk := by
  refine fn_sound' (C := laws_FnTreeOk_ctx) (c := bodyOf Try.f3) (cok_of tys_ok (List.forall_mem_cons.2 ⟨spec_DrawTreeOk_sound, List.forall_mem_cons.2 ⟨impl_TreeOk_sound, List.forall_mem_cons.2 ⟨spec_TreeOk_sound, List.forall_mem_cons.2 ⟨laws_alive_sound, by simp⟩⟩⟩⟩) (List.forall_mem_cons.2 ⟨Try.call10, List.forall_mem_cons.2 ⟨Try.call11, List.forall_mem_cons.2 ⟨Try.call12, List.forall_mem_cons.2 ⟨Try.call13, by simp⟩⟩⟩⟩) (by kernel_rfl)) Try.func3 (by kernel_rfl) LL laws_FnTreeOk_an ?_
  intro avs H r H' h
  unfold F_laws_FnTreeOk at h
  split at h
  · refine Awp.cast ?_ ?_ ?_ (laws_FnTreeOk_e _ h) <;> kernel_rfl
  · simp [Ans.no, Ans.run] at h

/-! loop.example/headtrees/spec.DrawRootOf -/

def spec_DrawRootOf_an : Ann := (.seq (.leaf [0]) (.seq (.leaf [2]) (.leaf [2])))

noncomputable def spec_DrawRootOf_ctx : Ctx := ⟨tlook tys, olook [(34, F_spec_l20Open), (33, F_spec_l20Tree)], ioF, 0⟩

theorem spec_DrawRootOf_n1_l (x1162 : List Int) : Link spec_DrawRootOf_ctx LL (bodyOf Try.f14) spec_DrawRootOf_an (⟨mkE 6 0 [(0, .dat (.list (.int .u8)) x1162)], []⟩ : St) (spec_DrawRootOf_n1 x1162) (fun (t : (List Int)) => (Exit.ret, (⟨mkE 6 0 [(2, .slc 0)], [some (.seq (.int .i64) t)]⟩ : St))) := by
  refine Link.of fun K h => ?_
  simp only [spec_DrawRootOf_n1, wpO_bind, wpO_cond, wpO_map, wpO_some] at h
  exact Awp.of (by kernel_rfl) h

theorem spec_DrawRootOf_e (x1162 : List Int) {r : AV} {H' : Heap} (h : (Ans.mk _ (spec_DrawRootOf x1162) (fun (t : (List Int)) => (.slc 0, [some (.seq (.int .i64) t)]))).run = some (r, H')) : Awp spec_DrawRootOf_ctx LL (bodyOf Try.f14) spec_DrawRootOf_an (⟨mkE 6 0 [(0, .dat (.list (.int .u8)) x1162)], []⟩ : St) (Ret (tlook tys) Try.f14.results.toList r H') :=
  ret_of' (spec_DrawRootOf_n1_l x1162) (by unfold spec_DrawRootOf; kernel_rfl) (by
  intro t
  exact ret_mk [.slc 0] (by kernel_rfl) (by kernel_rfl) (by kernel_rfl) (by kernel_rfl)) h

def F_spec_DrawRootOf : Fun := fun avs H =>
  match avs, H with
  | [.dat (.list (.int .u8)) x1162], [] => ⟨_, spec_DrawRootOf x1162, fun (t : (List Int)) => (.slc 0, [some (.seq (.int .i64) t)])⟩
  | _, _ => Ans.no

theorem spec_DrawRootOf_sound : Sound Try.prog 14 F_spec_DrawRootOf := by
  refine fn_sound' (C := spec_DrawRootOf_ctx) (c := bodyOf Try.f14) (cok_of tys_ok (List.forall_mem_cons.2 ⟨spec_l20Open_sound, List.forall_mem_cons.2 ⟨spec_l20Tree_sound, by simp⟩⟩) (List.forall_mem_cons.2 ⟨Try.call34, List.forall_mem_cons.2 ⟨Try.call33, by simp⟩⟩) (by kernel_rfl)) Try.func14 (by kernel_rfl) LL spec_DrawRootOf_an ?_
  intro avs H r H' h
  unfold F_spec_DrawRootOf at h
  split at h
  · refine Awp.cast ?_ ?_ ?_ (spec_DrawRootOf_e _ h) <;> kernel_rfl
  · simp [Ans.no, Ans.run] at h

/-! loop.example/headtrees/impl.RootOf -/

def impl_RootOf_an : Ann := (.seq (.leaf [0]) (.seq (.seq (.leaf [0, 6]) (.cond (.seq (.leaf [2]) (.leaf [2])) (.leaf [0]))) (.seq (.leaf [3]) (.seq (.block (.loop (.seq (.seq (.leaf [3, 9]) (.cond (.leaf [3]) (.leaf [3]))) (.block (.leaf [3]))))) (.seq (.leaf [2]) (.leaf [2]))))))

noncomputable def impl_RootOf_ctx : Ctx := ⟨tlook tys, olook [(11, F_impl_TreeOk), (38, F_impl_walker_up)], ioF, 0⟩

theorem impl_RootOf_n1_l (x1176 : List Int) : Link impl_RootOf_ctx LL (Code.seq (Code.fst (bodyOf Try.f15)) (Code.seq (Code.fst (Code.snd (bodyOf Try.f15))) (Code.fst (Code.snd (Code.snd (bodyOf Try.f15)))))) (Ann.seq (Ann.fst impl_RootOf_an) (Ann.seq (Ann.fst (Ann.snd impl_RootOf_an)) (Ann.fst (Ann.snd (Ann.snd impl_RootOf_an))))) (⟨mkE 12 0 [(0, .dat (.list (.int .i64)) x1176)], []⟩ : St) (impl_RootOf_n1 x1176) (Sum.elim (fun (t : Unit) => (Exit.normal, (⟨mkE 12 0 [(3, .ptr 0 0)], [some (.box [.dat (.list (.int .i64)) x1176, .dat (.int .i64) 1, .dat (.int .i64) 0])]⟩ : St))) (fun (t : Int) => (Exit.ret, (⟨mkE 12 0 [(2, .dat (.int .i64) t)], []⟩ : St)))) := by
  refine Link.of fun K h => ?_
  simp only [impl_RootOf_n1, wpO_bind, wpO_cond, wpO_map, wpO_some] at h
  exact Awp.of (by kernel_rfl) h

theorem impl_RootOf_n2_l (x1176 : List Int) (x1189 : Int) (x1190 : Int) : Link impl_RootOf_ctx LL (Code.fst (Code.fst (Code.fst (Code.snd (Code.snd (Code.snd (bodyOf Try.f15))))))) (Ann.fst (Ann.fst (Ann.fst (Ann.snd (Ann.snd (Ann.snd impl_RootOf_an)))))) (⟨mkE 12 0 [(3, .ptr 0 0)], [some (.box [.dat (.list (.int .i64)) x1176, .dat (.int .i64) x1189, .dat (.int .i64) x1190])]⟩ : St) (impl_RootOf_n2 x1176 x1189 x1190) (Sum.elim (fun (t : Int × Int) => (Exit.normal, (⟨mkE 12 0 [(3, .ptr 0 0)], [some (.box [.dat (.list (.int .i64)) x1176, .dat (.int .i64) t.1, .dat (.int .i64) t.2])]⟩ : St))) (fun (t : Int × Int) => ((Exit.exit 0), (⟨mkE 12 0 [(3, .ptr 0 0)], [some (.box [.dat (.list (.int .i64)) x1176, .dat (.int .i64) t.1, .dat (.int .i64) t.2])]⟩ : St)))) := by
  refine Link.of fun K h => ?_
  simp only [impl_RootOf_n2, wpO_bind, wpO_cond, wpO_map, wpO_some] at h
  exact Awp.of (by kernel_rfl) h

theorem impl_RootOf_n3_l (x1176 : List Int) : Link impl_RootOf_ctx LL (Code.fst (Code.fst (Code.snd (Code.snd (Code.snd (bodyOf Try.f15)))))) (Ann.fst (Ann.fst (Ann.snd (Ann.snd (Ann.snd impl_RootOf_an))))) (⟨mkE 12 0 [(3, .ptr 0 0)], [some (.box [.dat (.list (.int .i64)) x1176, .dat (.int .i64) 1, .dat (.int .i64) 0])]⟩ : St) (impl_RootOf_n3 x1176) (fun (t : Int × Int) => ((Exit.exit 0), (⟨mkE 12 0 [(3, .ptr 0 0)], [some (.box [.dat (.list (.int .i64)) x1176, .dat (.int .i64) t.1, .dat (.int .i64) t.2])]⟩ : St))) := by
  unfold impl_RootOf_n3
  exact Link.cast (by kernel_rfl) (by kernel_rfl) (link_loop (mk := fun (s : Int × Int) => (⟨mkE 12 0 [(3, .ptr 0 0)], [some (.box [.dat (.list (.int .i64)) x1176, .dat (.int .i64) s.1, .dat (.int .i64) s.2])]⟩ : St)) (fin := (fun (t : Int × Int) => ((Exit.exit 0), (⟨mkE 12 0 [(3, .ptr 0 0)], [some (.box [.dat (.list (.int .i64)) x1176, .dat (.int .i64) t.1, .dat (.int .i64) t.2])]⟩ : St)))) (by
  rintro t f K h
  · exact h) (fun s => link_map (impl_RootOf_n2_l x1176 s.1 s.2) (Sum.elim (fun (t : Int × Int) => Sum.inl (t.1, t.2)) (fun (t : Int × Int) => Sum.inr t)) (by
  rintro (t | t)
  · kernel_rfl
  · kernel_rfl)) (1, 0))

theorem impl_RootOf_n4_l (x1176 : List Int) : Link impl_RootOf_ctx LL (Code.fst (Code.snd (Code.snd (Code.snd (bodyOf Try.f15))))) (Ann.fst (Ann.snd (Ann.snd (Ann.snd impl_RootOf_an)))) (⟨mkE 12 0 [(3, .ptr 0 0)], [some (.box [.dat (.list (.int .i64)) x1176, .dat (.int .i64) 1, .dat (.int .i64) 0])]⟩ : St) (impl_RootOf_n4 x1176) (fun (t : Int × Int) => (Exit.normal, (⟨mkE 12 0 [(3, .ptr 0 0)], [some (.box [.dat (.list (.int .i64)) x1176, .dat (.int .i64) t.1, .dat (.int .i64) t.2])]⟩ : St))) := by
  unfold impl_RootOf_n4
  exact Link.cast (by kernel_rfl) (by kernel_rfl) (link_block (id := 0) (impl_RootOf_n3_l x1176) (fun (t : Int × Int) => (t.1, t.2)) (by
  rintro t K h
  · exact Eq.mp (by kernel_rfl) h))

theorem impl_RootOf_n5_l (x1176 : List Int) (x1197 : Int) (x1198 : Int) : Link impl_RootOf_ctx LL (Code.snd (Code.snd (Code.snd (Code.snd (bodyOf Try.f15))))) (Ann.snd (Ann.snd (Ann.snd (Ann.snd impl_RootOf_an)))) (⟨mkE 12 0 [(3, .ptr 0 0)], [some (.box [.dat (.list (.int .i64)) x1176, .dat (.int .i64) x1197, .dat (.int .i64) x1198])]⟩ : St) (impl_RootOf_n5 x1197) (fun (t : Int) => (Exit.ret, (⟨mkE 12 0 [(2, .dat (.int .i64) t)], []⟩ : St))) := by
  refine Link.of fun K h => ?_
  simp only [impl_RootOf_n5, wpO_bind, wpO_cond, wpO_map, wpO_some] at h
  exact Awp.of (by kernel_rfl) h

theorem impl_RootOf_n6_l (x1176 : List Int) : Link impl_RootOf_ctx LL (Code.snd (Code.snd (Code.snd (bodyOf Try.f15)))) (Ann.snd (Ann.snd (Ann.snd impl_RootOf_an))) (⟨mkE 12 0 [(3, .ptr 0 0)], [some (.box [.dat (.list (.int .i64)) x1176, .dat (.int .i64) 1, .dat (.int .i64) 0])]⟩ : St) (impl_RootOf_n6 x1176) (fun (t : Int) => (Exit.ret, (⟨mkE 12 0 [(2, .dat (.int .i64) t)], []⟩ : St))) := by
  unfold impl_RootOf_n6
  exact Link.cast (by kernel_rfl) (by kernel_rfl) (link_seq (b := (Code.snd (Code.snd (Code.snd (Code.snd (bodyOf Try.f15)))))) (y := (Ann.snd (Ann.snd (Ann.snd (Ann.snd impl_RootOf_an))))) (impl_RootOf_n4_l x1176) (fun (t : Int × Int) => (impl_RootOf_n5_l x1176 t.1 t.2)))

theorem impl_RootOf_n7_l (x1176 : List Int) : Link impl_RootOf_ctx LL (bodyOf Try.f15) impl_RootOf_an (⟨mkE 12 0 [(0, .dat (.list (.int .i64)) x1176)], []⟩ : St) (impl_RootOf_n7 x1176) (fun (t : Int) => (Exit.ret, (⟨mkE 12 0 [(2, .dat (.int .i64) t)], []⟩ : St))) := by
  unfold impl_RootOf_n7
  exact Link.cast (by kernel_rfl) (by kernel_rfl) (link_group (c := (Code.fst (Code.snd (Code.snd (bodyOf Try.f15))))) (a := (Ann.fst (Ann.snd (Ann.snd impl_RootOf_an)))) [(Code.fst (bodyOf Try.f15)), (Code.fst (Code.snd (bodyOf Try.f15)))] [(Ann.fst impl_RootOf_an), (Ann.fst (Ann.snd impl_RootOf_an))] rfl (link_seq2 (b := (Code.snd (Code.snd (Code.snd (bodyOf Try.f15))))) (y := (Ann.snd (Ann.snd (Ann.snd impl_RootOf_an)))) (impl_RootOf_n1_l x1176) (fun (t : Unit) => (impl_RootOf_n6_l x1176)) (fun (t : Int) => t) (by
  rintro t
  · kernel_rfl) (by
  rintro t f K h
  · exact h)))

theorem impl_RootOf_e (x1176 : List Int) {r : AV} {H' : Heap} (h : (Ans.mk _ (impl_RootOf x1176) (fun (t : Int) => (.dat (.int .i64) t, []))).run = some (r, H')) : Awp impl_RootOf_ctx LL (bodyOf Try.f15) impl_RootOf_an (⟨mkE 12 0 [(0, .dat (.list (.int .i64)) x1176)], []⟩ : St) (Ret (tlook tys) Try.f15.results.toList r H') :=
  ret_of' (impl_RootOf_n7_l x1176) (by unfold impl_RootOf; kernel_rfl) (by
  intro t
  exact ret_mk [.dat (.int .i64) t] (by kernel_rfl) (by kernel_rfl) (by kernel_rfl) (by kernel_rfl)) h

def F_impl_RootOf : Fun := fun avs H =>
  match avs, H with
  | [.dat (.list (.int .i64)) x1176], [] => ⟨_, impl_RootOf x1176, fun (t : Int) => (.dat (.int .i64) t, [])⟩
  | _, _ => Ans.no

theorem impl_RootOf_sound : Sound Try.prog 15 F_impl_RootOf := by
  refine fn_sound' (C := impl_RootOf_ctx) (c := bodyOf Try.f15) (cok_of tys_ok (List.forall_mem_cons.2 ⟨impl_TreeOk_sound, List.forall_mem_cons.2 ⟨impl_walker_up_sound, by simp⟩⟩) (List.forall_mem_cons.2 ⟨Try.call11, List.forall_mem_cons.2 ⟨Try.call38, by simp⟩⟩) (by kernel_rfl)) Try.func15 (by kernel_rfl) LL impl_RootOf_an ?_
  intro avs H r H' h
  unfold F_impl_RootOf at h
  split at h
  · refine Awp.cast ?_ ?_ ?_ (impl_RootOf_e _ h) <;> kernel_rfl
  · simp [Ans.no, Ans.run] at h

/-! loop.example/headtrees/spec.RootOf -/

def spec_RootOf_an : Ann := (.seq (.leaf [0]) (.seq (.seq (.leaf [0, 3]) (.block (.loop (.seq (.seq (.leaf [0, 3, 11]) (.cond (.leaf [0, 3]) (.leaf []))) (.seq (.block (.seq (.leaf [0, 3, 18]) (.cond (.seq (.leaf [2]) (.leaf [2])) (.leaf [0, 3])))) (.leaf [0, 3])))))) (.seq (.leaf [2]) (.leaf [2]))))

noncomputable def spec_RootOf_ctx : Ctx := ⟨tlook tys, olook [(12, F_spec_TreeOk)], ioF, 0⟩

theorem spec_RootOf_n1_l (x1205 : List Int) : Link spec_RootOf_ctx LL (Code.fst (bodyOf Try.f16)) (Ann.fst spec_RootOf_an) (⟨mkE 21 0 [(0, .dat (.list (.int .i64)) x1205)], []⟩ : St) (spec_RootOf_n1) (fun (t : Unit) => (Exit.normal, (⟨mkE 21 0 [(0, .dat (.list (.int .i64)) x1205)], []⟩ : St))) := by
  refine Link.of fun K h => ?_
  simp only [spec_RootOf_n1, wpO_bind, wpO_cond, wpO_map, wpO_some] at h
  exact Awp.of (by kernel_rfl) h

theorem spec_RootOf_n2_l (x1205 : List Int) : Link spec_RootOf_ctx LL (Code.fst (Code.fst (Code.snd (bodyOf Try.f16)))) (Ann.fst (Ann.fst (Ann.snd spec_RootOf_an))) (⟨mkE 21 0 [(0, .dat (.list (.int .i64)) x1205)], []⟩ : St) (spec_RootOf_n2) (fun (t : Unit) => (Exit.normal, (⟨mkE 21 0 [(0, .dat (.list (.int .i64)) x1205), (3, .dat (.int .i64) 0)], []⟩ : St))) := by
  refine Link.of fun K h => ?_
  simp only [spec_RootOf_n2, wpO_bind, wpO_cond, wpO_map, wpO_some] at h
  exact Awp.of (by kernel_rfl) h

theorem spec_RootOf_n3_l (x1205 : List Int) (x1222 : Int) : Link spec_RootOf_ctx LL (Code.fst (Code.fst (Code.snd (Code.fst (Code.snd (bodyOf Try.f16)))))) (Ann.fst (Ann.fst (Ann.snd (Ann.fst (Ann.snd spec_RootOf_an))))) (⟨mkE 21 0 [(0, .dat (.list (.int .i64)) x1205), (3, .dat (.int .i64) x1222)], []⟩ : St) (spec_RootOf_n3 x1205 x1222) (Sum.elim (fun (t : Int) => (Exit.normal, (⟨mkE 21 0 [(0, .dat (.list (.int .i64)) x1205), (3, .dat (.int .i64) t)], []⟩ : St))) (Sum.elim (fun (t : Int) => (Exit.ret, (⟨mkE 21 0 [(2, .dat (.int .i64) t)], []⟩ : St))) (fun (t : Unit) => ((Exit.exit 0), (⟨mkE 21 0 [], []⟩ : St))))) := by
  refine Link.of fun K h => ?_
  simp only [spec_RootOf_n3, wpO_bind, wpO_cond, wpO_map, wpO_some] at h
  exact Awp.of (by kernel_rfl) h

theorem spec_RootOf_n4_l (x1205 : List Int) : Link spec_RootOf_ctx LL (Code.fst (Code.snd (Code.fst (Code.snd (bodyOf Try.f16))))) (Ann.fst (Ann.snd (Ann.fst (Ann.snd spec_RootOf_an)))) (⟨mkE 21 0 [(0, .dat (.list (.int .i64)) x1205), (3, .dat (.int .i64) 0)], []⟩ : St) (spec_RootOf_n4 x1205) (Sum.elim (fun (t : Int) => (Exit.ret, (⟨mkE 21 0 [(2, .dat (.int .i64) t)], []⟩ : St))) (fun (t : Unit) => ((Exit.exit 0), (⟨mkE 21 0 [], []⟩ : St)))) := by
  unfold spec_RootOf_n4
  exact Link.cast (by kernel_rfl) (by kernel_rfl) (link_loop (mk := fun (s : Int) => (⟨mkE 21 0 [(0, .dat (.list (.int .i64)) x1205), (3, .dat (.int .i64) s)], []⟩ : St)) (fin := (Sum.elim (fun (t : Int) => (Exit.ret, (⟨mkE 21 0 [(2, .dat (.int .i64) t)], []⟩ : St))) (fun (t : Unit) => ((Exit.exit 0), (⟨mkE 21 0 [], []⟩ : St))))) (by
  rintro (t | t) f K h
  · exact h
  · exact h) (fun s => link_map (spec_RootOf_n3_l x1205 s) (Sum.elim (fun (t : Int) => Sum.inl t) (Sum.elim (fun (t : Int) => Sum.inr (Sum.inl t)) (fun (t : Unit) => Sum.inr (Sum.inr t)))) (by
  rintro (t | t | t)
  · kernel_rfl
  · kernel_rfl
  · kernel_rfl)) 0)

theorem spec_RootOf_n5_l (x1205 : List Int) : Link spec_RootOf_ctx LL (Code.snd (Code.fst (Code.snd (bodyOf Try.f16)))) (Ann.snd (Ann.fst (Ann.snd spec_RootOf_an))) (⟨mkE 21 0 [(0, .dat (.list (.int .i64)) x1205), (3, .dat (.int .i64) 0)], []⟩ : St) (spec_RootOf_n5 x1205) (Sum.elim (fun (t : Unit) => (Exit.normal, (⟨mkE 21 0 [], []⟩ : St))) (fun (t : Int) => (Exit.ret, (⟨mkE 21 0 [(2, .dat (.int .i64) t)], []⟩ : St)))) := by
  unfold spec_RootOf_n5
  exact Link.cast (by kernel_rfl) (by kernel_rfl) (link_block (id := 0) (spec_RootOf_n4_l x1205) (Sum.elim (fun (t : Int) => (Sum.inr t)) (fun (t : Unit) => (Sum.inl ()))) (by
  rintro (t | t) K h
  · exact Eq.mp (by kernel_rfl) h
  · exact Eq.mp (by kernel_rfl) h))

theorem spec_RootOf_n6_l (x1205 : List Int) : Link spec_RootOf_ctx LL (Code.fst (Code.snd (bodyOf Try.f16))) (Ann.fst (Ann.snd spec_RootOf_an)) (⟨mkE 21 0 [(0, .dat (.list (.int .i64)) x1205)], []⟩ : St) (spec_RootOf_n6 x1205) (Sum.elim (fun (t : Unit) => (Exit.normal, (⟨mkE 21 0 [], []⟩ : St))) (fun (t : Int) => (Exit.ret, (⟨mkE 21 0 [(2, .dat (.int .i64) t)], []⟩ : St)))) := by
  unfold spec_RootOf_n6
  exact Link.cast (by kernel_rfl) (by kernel_rfl) (link_seq (b := (Code.snd (Code.fst (Code.snd (bodyOf Try.f16))))) (y := (Ann.snd (Ann.fst (Ann.snd spec_RootOf_an)))) (spec_RootOf_n2_l x1205) (fun (t : Unit) => (spec_RootOf_n5_l x1205)))

theorem spec_RootOf_n7_l : Link spec_RootOf_ctx LL (Code.snd (Code.snd (bodyOf Try.f16))) (Ann.snd (Ann.snd spec_RootOf_an)) (⟨mkE 21 0 [], []⟩ : St) (spec_RootOf_n7) (fun (t : Int) => (Exit.ret, (⟨mkE 21 0 [(2, .dat (.int .i64) t)], []⟩ : St))) := by
  refine Link.of fun K h => ?_
  simp only [spec_RootOf_n7, wpO_bind, wpO_cond, wpO_map, wpO_some] at h
  exact Awp.of (by kernel_rfl) h

theorem spec_RootOf_n8_l (x1205 : List Int) : Link spec_RootOf_ctx LL (Code.snd (bodyOf Try.f16)) (Ann.snd spec_RootOf_an) (⟨mkE 21 0 [(0, .dat (.list (.int .i64)) x1205)], []⟩ : St) (spec_RootOf_n8 x1205) (fun (t : Int) => (Exit.ret, (⟨mkE 21 0 [(2, .dat (.int .i64) t)], []⟩ : St))) := by
  unfold spec_RootOf_n8
  exact Link.cast (by kernel_rfl) (by kernel_rfl) (link_seq2 (b := (Code.snd (Code.snd (bodyOf Try.f16)))) (y := (Ann.snd (Ann.snd spec_RootOf_an))) (spec_RootOf_n6_l x1205) (fun (t : Unit) => (spec_RootOf_n7_l)) (fun (t : Int) => t) (by
  rintro t
  · kernel_rfl) (by
  rintro t f K h
  · exact h))

theorem spec_RootOf_n9_l (x1205 : List Int) : Link spec_RootOf_ctx LL (bodyOf Try.f16) spec_RootOf_an (⟨mkE 21 0 [(0, .dat (.list (.int .i64)) x1205)], []⟩ : St) (spec_RootOf_n9 x1205) (fun (t : Int) => (Exit.ret, (⟨mkE 21 0 [(2, .dat (.int .i64) t)], []⟩ : St))) := by
  unfold spec_RootOf_n9
  exact Link.cast (by kernel_rfl) (by kernel_rfl) (link_seq (b := (Code.snd (bodyOf Try.f16))) (y := (Ann.snd spec_RootOf_an)) (spec_RootOf_n1_l x1205) (fun (t : Unit) => (spec_RootOf_n8_l x1205)))

theorem spec_RootOf_e (x1205 : List Int) {r : AV} {H' : Heap} (h : (Ans.mk _ (spec_RootOf x1205) (fun (t : Int) => (.dat (.int .i64) t, []))).run = some (r, H')) : Awp spec_RootOf_ctx LL (bodyOf Try.f16) spec_RootOf_an (⟨mkE 21 0 [(0, .dat (.list (.int .i64)) x1205)], []⟩ : St) (Ret (tlook tys) Try.f16.results.toList r H') :=
  ret_of' (spec_RootOf_n9_l x1205) (by unfold spec_RootOf; kernel_rfl) (by
  intro t
  exact ret_mk [.dat (.int .i64) t] (by kernel_rfl) (by kernel_rfl) (by kernel_rfl) (by kernel_rfl)) h

def F_spec_RootOf : Fun := fun avs H =>
  match avs, H with
  | [.dat (.list (.int .i64)) x1205], [] => ⟨_, spec_RootOf x1205, fun (t : Int) => (.dat (.int .i64) t, [])⟩
  | _, _ => Ans.no

theorem spec_RootOf_sound : Sound Try.prog 16 F_spec_RootOf := by
  refine fn_sound' (C := spec_RootOf_ctx) (c := bodyOf Try.f16) (cok_of tys_ok (List.forall_mem_cons.2 ⟨spec_TreeOk_sound, by simp⟩) (List.forall_mem_cons.2 ⟨Try.call12, by simp⟩) (by kernel_rfl)) Try.func16 (by kernel_rfl) LL spec_RootOf_an ?_
  intro avs H r H' h
  unfold F_spec_RootOf at h
  split at h
  · refine Awp.cast ?_ ?_ ?_ (spec_RootOf_e _ h) <;> kernel_rfl
  · simp [Ans.no, Ans.run] at h

/-! loop.example/headtrees/impl.DepthOf -/

def impl_DepthOf_an : Ann := (.seq (.leaf [0]) (.seq (.seq (.leaf [0, 7]) (.cond (.seq (.leaf [2]) (.leaf [2])) (.leaf [0]))) (.seq (.leaf [0, 3]) (.seq (.seq (.leaf [0, 3, 12, 13]) (.block (.loop (.seq (.leaf [0, 3, 12, 13, 14]) (.seq (.cond (.leaf [0, 3, 12, 13]) (.leaf [3])) (.seq (.block (.seq (.leaf [0, 3, 4, 12, 13]) (.leaf [0, 3, 12, 13]))) (.leaf [0, 3, 12, 13]))))))) (.seq (.leaf [2]) (.leaf [2]))))))

noncomputable def impl_DepthOf_ctx : Ctx := ⟨tlook tys, olook [(11, F_impl_TreeOk), (36, F_impl_stepsToRoot)], ioF, 0⟩

theorem impl_DepthOf_n1_l (x1264 : List Int) : Link impl_DepthOf_ctx LL (Code.seq (Code.fst (bodyOf Try.f17)) (Code.seq (Code.fst (Code.snd (bodyOf Try.f17))) (Code.fst (Code.snd (Code.snd (bodyOf Try.f17)))))) (Ann.seq (Ann.fst impl_DepthOf_an) (Ann.seq (Ann.fst (Ann.snd impl_DepthOf_an)) (Ann.fst (Ann.snd (Ann.snd impl_DepthOf_an))))) (⟨mkE 28 0 [(0, .dat (.list (.int .i64)) x1264)], []⟩ : St) (impl_DepthOf_n1 x1264) (Sum.elim (fun (t : (List Int)) => (Exit.normal, (⟨mkE 28 0 [(0, .dat (.list (.int .i64)) x1264), (3, .slc 0)], [some (.seq (.int .i64) t)]⟩ : St))) (fun (t : (List Int)) => (Exit.ret, (⟨mkE 28 0 [(2, .slc 0)], [some (.seq (.int .i64) t)]⟩ : St)))) := by
  refine Link.of fun K h => ?_
  simp only [impl_DepthOf_n1, wpO_bind, wpO_cond, wpO_map, wpO_some] at h
  exact Awp.of (by kernel_rfl) h

theorem impl_DepthOf_n2_l (x1264 : List Int) (x1271 : List Int) : Link impl_DepthOf_ctx LL (Code.fst (Code.fst (Code.snd (Code.snd (Code.snd (bodyOf Try.f17)))))) (Ann.fst (Ann.fst (Ann.snd (Ann.snd (Ann.snd impl_DepthOf_an))))) (⟨mkE 28 0 [(0, .dat (.list (.int .i64)) x1264), (3, .slc 0)], [some (.seq (.int .i64) x1271)]⟩ : St) (impl_DepthOf_n2 x1264) (fun (t : Int) => (Exit.normal, (⟨mkE 28 0 [(0, .dat (.list (.int .i64)) x1264), (3, .slc 0), (12, .dat (.int .i64) t), (13, .dat (.int .i64) 0)], [some (.seq (.int .i64) x1271)]⟩ : St))) := by
  refine Link.of fun K h => ?_
  simp only [impl_DepthOf_n2, wpO_bind, wpO_cond, wpO_map, wpO_some] at h
  exact Awp.of (by kernel_rfl) h

theorem impl_DepthOf_n3_l (x1264 : List Int) (x1272 : Int) (x1290 : Int) (x1291 : List Int) : Link impl_DepthOf_ctx LL (Code.fst (Code.fst (Code.snd (Code.fst (Code.snd (Code.snd (Code.snd (bodyOf Try.f17)))))))) (Ann.fst (Ann.fst (Ann.snd (Ann.fst (Ann.snd (Ann.snd (Ann.snd impl_DepthOf_an))))))) (⟨mkE 28 0 [(0, .dat (.list (.int .i64)) x1264), (3, .slc 0), (12, .dat (.int .i64) x1272), (13, .dat (.int .i64) x1290)], [some (.seq (.int .i64) x1291)]⟩ : St) (impl_DepthOf_n3 x1264 x1272 x1290 x1291) (Sum.elim (fun (t : Int × (List Int)) => (Exit.normal, (⟨mkE 28 0 [(0, .dat (.list (.int .i64)) x1264), (3, .slc 0), (12, .dat (.int .i64) x1272), (13, .dat (.int .i64) t.1)], [some (.seq (.int .i64) t.2)]⟩ : St))) (fun (t : (List Int)) => ((Exit.exit 0), (⟨mkE 28 0 [(3, .slc 0)], [some (.seq (.int .i64) t)]⟩ : St)))) := by
  refine Link.of fun K h => ?_
  simp only [impl_DepthOf_n3, wpO_bind, wpO_cond, wpO_map, wpO_some] at h
  exact Awp.of (by kernel_rfl) h

theorem impl_DepthOf_n4_l (x1264 : List Int) (x1272 : Int) (x1271 : List Int) : Link impl_DepthOf_ctx LL (Code.fst (Code.snd (Code.fst (Code.snd (Code.snd (Code.snd (bodyOf Try.f17))))))) (Ann.fst (Ann.snd (Ann.fst (Ann.snd (Ann.snd (Ann.snd impl_DepthOf_an)))))) (⟨mkE 28 0 [(0, .dat (.list (.int .i64)) x1264), (3, .slc 0), (12, .dat (.int .i64) x1272), (13, .dat (.int .i64) 0)], [some (.seq (.int .i64) x1271)]⟩ : St) (impl_DepthOf_n4 x1264 x1272 x1271) (fun (t : (List Int)) => ((Exit.exit 0), (⟨mkE 28 0 [(3, .slc 0)], [some (.seq (.int .i64) t)]⟩ : St))) := by
  unfold impl_DepthOf_n4
  exact Link.cast (by kernel_rfl) (by kernel_rfl) (link_loop (mk := fun (s : Int × (List Int)) => (⟨mkE 28 0 [(0, .dat (.list (.int .i64)) x1264), (3, .slc 0), (12, .dat (.int .i64) x1272), (13, .dat (.int .i64) s.1)], [some (.seq (.int .i64) s.2)]⟩ : St)) (fin := (fun (t : (List Int)) => ((Exit.exit 0), (⟨mkE 28 0 [(3, .slc 0)], [some (.seq (.int .i64) t)]⟩ : St)))) (by
  rintro t f K h
  · exact h) (fun s => link_map (impl_DepthOf_n3_l x1264 x1272 s.1 s.2) (Sum.elim (fun (t : Int × (List Int)) => Sum.inl (t.1, t.2)) (fun (t : (List Int)) => Sum.inr t)) (by
  rintro (t | t)
  · kernel_rfl
  · kernel_rfl)) (0, x1271))

theorem impl_DepthOf_n5_l (x1264 : List Int) (x1272 : Int) (x1271 : List Int) : Link impl_DepthOf_ctx LL (Code.snd (Code.fst (Code.snd (Code.snd (Code.snd (bodyOf Try.f17)))))) (Ann.snd (Ann.fst (Ann.snd (Ann.snd (Ann.snd impl_DepthOf_an))))) (⟨mkE 28 0 [(0, .dat (.list (.int .i64)) x1264), (3, .slc 0), (12, .dat (.int .i64) x1272), (13, .dat (.int .i64) 0)], [some (.seq (.int .i64) x1271)]⟩ : St) (impl_DepthOf_n5 x1264 x1272 x1271) (fun (t : (List Int)) => (Exit.normal, (⟨mkE 28 0 [(3, .slc 0)], [some (.seq (.int .i64) t)]⟩ : St))) := by
  unfold impl_DepthOf_n5
  exact Link.cast (by kernel_rfl) (by kernel_rfl) (link_block (id := 0) (impl_DepthOf_n4_l x1264 x1272 x1271) (fun (t : (List Int)) => t) (by
  rintro t K h
  · exact Eq.mp (by kernel_rfl) h))

theorem impl_DepthOf_n6_l (x1264 : List Int) (x1271 : List Int) : Link impl_DepthOf_ctx LL (Code.fst (Code.snd (Code.snd (Code.snd (bodyOf Try.f17))))) (Ann.fst (Ann.snd (Ann.snd (Ann.snd impl_DepthOf_an)))) (⟨mkE 28 0 [(0, .dat (.list (.int .i64)) x1264), (3, .slc 0)], [some (.seq (.int .i64) x1271)]⟩ : St) (impl_DepthOf_n6 x1264 x1271) (fun (t : (List Int)) => (Exit.normal, (⟨mkE 28 0 [(3, .slc 0)], [some (.seq (.int .i64) t)]⟩ : St))) := by
  unfold impl_DepthOf_n6
  exact Link.cast (by kernel_rfl) (by kernel_rfl) (link_seq (b := (Code.snd (Code.fst (Code.snd (Code.snd (Code.snd (bodyOf Try.f17))))))) (y := (Ann.snd (Ann.fst (Ann.snd (Ann.snd (Ann.snd impl_DepthOf_an)))))) (impl_DepthOf_n2_l x1264 x1271) (fun (t : Int) => (impl_DepthOf_n5_l x1264 t x1271)))

theorem impl_DepthOf_n7_l (x1291 : List Int) : Link impl_DepthOf_ctx LL (Code.snd (Code.snd (Code.snd (Code.snd (bodyOf Try.f17))))) (Ann.snd (Ann.snd (Ann.snd (Ann.snd impl_DepthOf_an)))) (⟨mkE 28 0 [(3, .slc 0)], [some (.seq (.int .i64) x1291)]⟩ : St) (impl_DepthOf_n7 x1291) (fun (t : (List Int)) => (Exit.ret, (⟨mkE 28 0 [(2, .slc 0)], [some (.seq (.int .i64) t)]⟩ : St))) := by
  refine Link.of fun K h => ?_
  simp only [impl_DepthOf_n7, wpO_bind, wpO_cond, wpO_map, wpO_some] at h
  exact Awp.of (by kernel_rfl) h

theorem impl_DepthOf_n8_l (x1264 : List Int) (x1271 : List Int) : Link impl_DepthOf_ctx LL (Code.snd (Code.snd (Code.snd (bodyOf Try.f17)))) (Ann.snd (Ann.snd (Ann.snd impl_DepthOf_an))) (⟨mkE 28 0 [(0, .dat (.list (.int .i64)) x1264), (3, .slc 0)], [some (.seq (.int .i64) x1271)]⟩ : St) (impl_DepthOf_n8 x1264 x1271) (fun (t : (List Int)) => (Exit.ret, (⟨mkE 28 0 [(2, .slc 0)], [some (.seq (.int .i64) t)]⟩ : St))) := by
  unfold impl_DepthOf_n8
  exact Link.cast (by kernel_rfl) (by kernel_rfl) (link_seq (b := (Code.snd (Code.snd (Code.snd (Code.snd (bodyOf Try.f17)))))) (y := (Ann.snd (Ann.snd (Ann.snd (Ann.snd impl_DepthOf_an))))) (impl_DepthOf_n6_l x1264 x1271) (fun (t : (List Int)) => (impl_DepthOf_n7_l t)))

theorem impl_DepthOf_n9_l (x1264 : List Int) : Link impl_DepthOf_ctx LL (bodyOf Try.f17) impl_DepthOf_an (⟨mkE 28 0 [(0, .dat (.list (.int .i64)) x1264)], []⟩ : St) (impl_DepthOf_n9 x1264) (fun (t : (List Int)) => (Exit.ret, (⟨mkE 28 0 [(2, .slc 0)], [some (.seq (.int .i64) t)]⟩ : St))) := by
  unfold impl_DepthOf_n9
  exact Link.cast (by kernel_rfl) (by kernel_rfl) (link_group (c := (Code.fst (Code.snd (Code.snd (bodyOf Try.f17))))) (a := (Ann.fst (Ann.snd (Ann.snd impl_DepthOf_an)))) [(Code.fst (bodyOf Try.f17)), (Code.fst (Code.snd (bodyOf Try.f17)))] [(Ann.fst impl_DepthOf_an), (Ann.fst (Ann.snd impl_DepthOf_an))] rfl (link_seq2 (b := (Code.snd (Code.snd (Code.snd (bodyOf Try.f17))))) (y := (Ann.snd (Ann.snd (Ann.snd impl_DepthOf_an)))) (impl_DepthOf_n1_l x1264) (fun (t : (List Int)) => (impl_DepthOf_n8_l x1264 t)) (fun (t : (List Int)) => t) (by
  rintro t
  · kernel_rfl) (by
  rintro t f K h
  · exact h)))

theorem impl_DepthOf_e (x1264 : List Int) {r : AV} {H' : Heap} (h : (Ans.mk _ (impl_DepthOf x1264) (fun (t : (List Int)) => (.slc 0, [some (.seq (.int .i64) t)]))).run = some (r, H')) : Awp impl_DepthOf_ctx LL (bodyOf Try.f17) impl_DepthOf_an (⟨mkE 28 0 [(0, .dat (.list (.int .i64)) x1264)], []⟩ : St) (Ret (tlook tys) Try.f17.results.toList r H') :=
  ret_of' (impl_DepthOf_n9_l x1264) (by unfold impl_DepthOf; kernel_rfl) (by
  intro t
  exact ret_mk [.slc 0] (by kernel_rfl) (by kernel_rfl) (by kernel_rfl) (by kernel_rfl)) h

def F_impl_DepthOf : Fun := fun avs H =>
  match avs, H with
  | [.dat (.list (.int .i64)) x1264], [] => ⟨_, impl_DepthOf x1264, fun (t : (List Int)) => (.slc 0, [some (.seq (.int .i64) t)])⟩
  | _, _ => Ans.no

theorem impl_DepthOf_sound : Sound Try.prog 17 F_impl_DepthOf := by
  refine fn_sound' (C := impl_DepthOf_ctx) (c := bodyOf Try.f17) (cok_of tys_ok (List.forall_mem_cons.2 ⟨impl_TreeOk_sound, List.forall_mem_cons.2 ⟨impl_stepsToRoot_sound, by simp⟩⟩) (List.forall_mem_cons.2 ⟨Try.call11, List.forall_mem_cons.2 ⟨Try.call36, by simp⟩⟩) (by kernel_rfl)) Try.func17 (by kernel_rfl) LL impl_DepthOf_an ?_
  intro avs H r H' h
  unfold F_impl_DepthOf at h
  split at h
  · refine Awp.cast ?_ ?_ ?_ (impl_DepthOf_e _ h) <;> kernel_rfl
  · simp [Ans.no, Ans.run] at h

/-! loop.example/headtrees/laws.FnRootOf -/

def laws_FnRootOf_an : Ann := (.seq (.leaf [0]) (.seq (.seq (.leaf [0, 9]) (.cond (.seq (.leaf [2]) (.leaf [2])) (.leaf [0]))) (.seq (.leaf [3]) (.seq (.leaf [3, 4]) (.seq (.seq (.leaf [3, 4, 17]) (.cond (.seq (.leaf [2]) (.leaf [2])) (.leaf [3, 4]))) (.seq (.seq (.leaf [3, 4, 19]) (.cond (.seq (.leaf [2]) (.leaf [2])) (.leaf [3, 4]))) (.seq (.leaf [3, 4, 5]) (.seq (.seq (.leaf [3, 4, 5, 36]) (.cond (.seq (.leaf [2]) (.leaf [2])) (.leaf [3, 4, 5]))) (.seq (.seq (.leaf [3, 4, 5, 6]) (.block (.loop (.seq (.seq (.leaf [3, 4, 5, 6, 40]) (.cond (.leaf [3, 4, 5, 6]) (.leaf []))) (.seq (.block (.seq (.leaf [3, 4, 5, 6, 64]) (.cond (.seq (.leaf [2]) (.leaf [2])) (.leaf [3, 4, 5, 6])))) (.leaf [3, 4, 5, 6])))))) (.seq (.leaf [2]) (.leaf [2])))))))))))

noncomputable def laws_FnRootOf_ctx : Ctx := ⟨tlook tys, olook [(14, F_spec_DrawRootOf), (15, F_impl_RootOf), (16, F_spec_RootOf), (11, F_impl_TreeOk), (13, F_laws_alive), (17, F_impl_DepthOf)], ioF, 0⟩

theorem laws_FnRootOf_n1_l (x1157 : List Int) : Link laws_FnRootOf_ctx LL (Code.seq (Code.fst (bodyOf Try.f4)) (Code.seq (Code.fst (Code.snd (bodyOf Try.f4))) (Code.seq (Code.fst (Code.snd (Code.snd (bodyOf Try.f4)))) (Code.seq (Code.fst (Code.snd (Code.snd (Code.snd (bodyOf Try.f4))))) (Code.seq (Code.fst (Code.snd (Code.snd (Code.snd (Code.snd (bodyOf Try.f4)))))) (Code.seq (Code.fst (Code.snd (Code.snd (Code.snd (Code.snd (Code.snd (bodyOf Try.f4))))))) (Code.seq (Code.fst (Code.snd (Code.snd (Code.snd (Code.snd (Code.snd (Code.snd (bodyOf Try.f4)))))))) (Code.fst (Code.snd (Code.snd (Code.snd (Code.snd (Code.snd (Code.snd (Code.snd (bodyOf Try.f4)))))))))))))))) (Ann.seq (Ann.fst laws_FnRootOf_an) (Ann.seq (Ann.fst (Ann.snd laws_FnRootOf_an)) (Ann.seq (Ann.fst (Ann.snd (Ann.snd laws_FnRootOf_an))) (Ann.seq (Ann.fst (Ann.snd (Ann.snd (Ann.snd laws_FnRootOf_an)))) (Ann.seq (Ann.fst (Ann.snd (Ann.snd (Ann.snd (Ann.snd laws_FnRootOf_an))))) (Ann.seq (Ann.fst (Ann.snd (Ann.snd (Ann.snd (Ann.snd (Ann.snd laws_FnRootOf_an)))))) (Ann.seq (Ann.fst (Ann.snd (Ann.snd (Ann.snd (Ann.snd (Ann.snd (Ann.snd laws_FnRootOf_an))))))) (Ann.fst (Ann.snd (Ann.snd (Ann.snd (Ann.snd (Ann.snd (Ann.snd (Ann.snd laws_FnRootOf_an))))))))))))))) (⟨mkE 65 0 [(0, .dat (.list (.int .u8)) x1157)], []⟩ : St) (laws_FnRootOf_n1 x1157) (Sum.elim (fun (t : Int × (List Int) × (List Int)) => (Exit.normal, (⟨mkE 65 0 [(3, .slc 0), (4, .dat (.int .i64) t.1), (5, .slc 1)], [some (.seq (.int .i64) t.2.1), some (.seq (.int .i64) t.2.2)]⟩ : St))) (fun (t : Bool) => (Exit.ret, (⟨mkE 65 0 [(2, .dat .bool t)], []⟩ : St)))) := by
  refine Link.of fun K h => ?_
  simp only [laws_FnRootOf_n1, wpO_bind, wpO_cond, wpO_map, wpO_some] at h
  exact Awp.of (by kernel_rfl) h

theorem laws_FnRootOf_n2_l (x1314 : Int) (x1313 : List Int) (x1322 : List Int) : Link laws_FnRootOf_ctx LL (Code.fst (Code.fst (Code.snd (Code.snd (Code.snd (Code.snd (Code.snd (Code.snd (Code.snd (Code.snd (bodyOf Try.f4))))))))))) (Ann.fst (Ann.fst (Ann.snd (Ann.snd (Ann.snd (Ann.snd (Ann.snd (Ann.snd (Ann.snd (Ann.snd laws_FnRootOf_an)))))))))) (⟨mkE 65 0 [(3, .slc 0), (4, .dat (.int .i64) x1314), (5, .slc 1)], [some (.seq (.int .i64) x1313), some (.seq (.int .i64) x1322)]⟩ : St) (laws_FnRootOf_n2) (fun (t : Unit) => (Exit.normal, (⟨mkE 65 0 [(3, .slc 0), (4, .dat (.int .i64) x1314), (5, .slc 1), (6, .dat (.int .i64) 0)], [some (.seq (.int .i64) x1313), some (.seq (.int .i64) x1322)]⟩ : St))) := by
  refine Link.of fun K h => ?_
  simp only [laws_FnRootOf_n2, wpO_bind, wpO_cond, wpO_map, wpO_some] at h
  exact Awp.of (by kernel_rfl) h

theorem laws_FnRootOf_n3_l (x1314 : Int) (x1357 : Int) (x1313 : List Int) (x1322 : List Int) : Link laws_FnRootOf_ctx LL (Code.fst (Code.fst (Code.snd (Code.fst (Code.snd (Code.snd (Code.snd (Code.snd (Code.snd (Code.snd (Code.snd (Code.snd (bodyOf Try.f4))))))))))))) (Ann.fst (Ann.fst (Ann.snd (Ann.fst (Ann.snd (Ann.snd (Ann.snd (Ann.snd (Ann.snd (Ann.snd (Ann.snd (Ann.snd laws_FnRootOf_an)))))))))))) (⟨mkE 65 0 [(3, .slc 0), (4, .dat (.int .i64) x1314), (5, .slc 1), (6, .dat (.int .i64) x1357)], [some (.seq (.int .i64) x1313), some (.seq (.int .i64) x1322)]⟩ : St) (laws_FnRootOf_n3 x1314 x1357 x1313 x1322) (Sum.elim (fun (t : Int) => (Exit.normal, (⟨mkE 65 0 [(3, .slc 0), (4, .dat (.int .i64) x1314), (5, .slc 1), (6, .dat (.int .i64) t)], [some (.seq (.int .i64) x1313), some (.seq (.int .i64) x1322)]⟩ : St))) (Sum.elim (fun (t : Bool) => (Exit.ret, (⟨mkE 65 0 [(2, .dat .bool t)], []⟩ : St))) (fun (t : Unit) => ((Exit.exit 0), (⟨mkE 65 0 [], []⟩ : St))))) := by
  refine Link.of fun K h => ?_
  simp only [laws_FnRootOf_n3, wpO_bind, wpO_cond, wpO_map, wpO_some] at h
  exact Awp.of (by kernel_rfl) h

theorem laws_FnRootOf_n4_l (x1314 : Int) (x1313 : List Int) (x1322 : List Int) : Link laws_FnRootOf_ctx LL (Code.fst (Code.snd (Code.fst (Code.snd (Code.snd (Code.snd (Code.snd (Code.snd (Code.snd (Code.snd (Code.snd (bodyOf Try.f4)))))))))))) (Ann.fst (Ann.snd (Ann.fst (Ann.snd (Ann.snd (Ann.snd (Ann.snd (Ann.snd (Ann.snd (Ann.snd (Ann.snd laws_FnRootOf_an))))))))))) (⟨mkE 65 0 [(3, .slc 0), (4, .dat (.int .i64) x1314), (5, .slc 1), (6, .dat (.int .i64) 0)], [some (.seq (.int .i64) x1313), some (.seq (.int .i64) x1322)]⟩ : St) (laws_FnRootOf_n4 x1314 x1313 x1322) (Sum.elim (fun (t : Bool) => (Exit.ret, (⟨mkE 65 0 [(2, .dat .bool t)], []⟩ : St))) (fun (t : Unit) => ((Exit.exit 0), (⟨mkE 65 0 [], []⟩ : St)))) := by
  unfold laws_FnRootOf_n4
  exact Link.cast (by kernel_rfl) (by kernel_rfl) (link_loop (mk := fun (s : Int) => (⟨mkE 65 0 [(3, .slc 0), (4, .dat (.int .i64) x1314), (5, .slc 1), (6, .dat (.int .i64) s)], [some (.seq (.int .i64) x1313), some (.seq (.int .i64) x1322)]⟩ : St)) (fin := (Sum.elim (fun (t : Bool) => (Exit.ret, (⟨mkE 65 0 [(2, .dat .bool t)], []⟩ : St))) (fun (t : Unit) => ((Exit.exit 0), (⟨mkE 65 0 [], []⟩ : St))))) (by
  rintro (t | t) f K h
  · exact h
  · exact h) (fun s => link_map (laws_FnRootOf_n3_l x1314 s x1313 x1322) (Sum.elim (fun (t : Int) => Sum.inl t) (Sum.elim (fun (t : Bool) => Sum.inr (Sum.inl t)) (fun (t : Unit) => Sum.inr (Sum.inr t)))) (by
  rintro (t | t | t)
  · kernel_rfl
  · kernel_rfl
  · kernel_rfl)) 0)

theorem laws_FnRootOf_n5_l (x1314 : Int) (x1313 : List Int) (x1322 : List Int) : Link laws_FnRootOf_ctx LL (Code.snd (Code.fst (Code.snd (Code.snd (Code.snd (Code.snd (Code.snd (Code.snd (Code.snd (Code.snd (bodyOf Try.f4))))))))))) (Ann.snd (Ann.fst (Ann.snd (Ann.snd (Ann.snd (Ann.snd (Ann.snd (Ann.snd (Ann.snd (Ann.snd laws_FnRootOf_an)))))))))) (⟨mkE 65 0 [(3, .slc 0), (4, .dat (.int .i64) x1314), (5, .slc 1), (6, .dat (.int .i64) 0)], [some (.seq (.int .i64) x1313), some (.seq (.int .i64) x1322)]⟩ : St) (laws_FnRootOf_n5 x1314 x1313 x1322) (Sum.elim (fun (t : Unit) => (Exit.normal, (⟨mkE 65 0 [], []⟩ : St))) (fun (t : Bool) => (Exit.ret, (⟨mkE 65 0 [(2, .dat .bool t)], []⟩ : St)))) := by
  unfold laws_FnRootOf_n5
  exact Link.cast (by kernel_rfl) (by kernel_rfl) (link_block (id := 0) (laws_FnRootOf_n4_l x1314 x1313 x1322) (Sum.elim (fun (t : Bool) => (Sum.inr t)) (fun (t : Unit) => (Sum.inl ()))) (by
  rintro (t | t) K h
  · exact Eq.mp (by kernel_rfl) h
  · exact Eq.mp (by kernel_rfl) h))

theorem laws_FnRootOf_n6_l (x1314 : Int) (x1313 : List Int) (x1322 : List Int) : Link laws_FnRootOf_ctx LL (Code.fst (Code.snd (Code.snd (Code.snd (Code.snd (Code.snd (Code.snd (Code.snd (Code.snd (bodyOf Try.f4)))))))))) (Ann.fst (Ann.snd (Ann.snd (Ann.snd (Ann.snd (Ann.snd (Ann.snd (Ann.snd (Ann.snd laws_FnRootOf_an))))))))) (⟨mkE 65 0 [(3, .slc 0), (4, .dat (.int .i64) x1314), (5, .slc 1)], [some (.seq (.int .i64) x1313), some (.seq (.int .i64) x1322)]⟩ : St) (laws_FnRootOf_n6 x1314 x1313 x1322) (Sum.elim (fun (t : Unit) => (Exit.normal, (⟨mkE 65 0 [], []⟩ : St))) (fun (t : Bool) => (Exit.ret, (⟨mkE 65 0 [(2, .dat .bool t)], []⟩ : St)))) := by
  unfold laws_FnRootOf_n6
  exact Link.cast (by kernel_rfl) (by kernel_rfl) (link_seq (b := (Code.snd (Code.fst (Code.snd (Code.snd (Code.snd (Code.snd (Code.snd (Code.snd (Code.snd (Code.snd (bodyOf Try.f4)))))))))))) (y := (Ann.snd (Ann.fst (Ann.snd (Ann.snd (Ann.snd (Ann.snd (Ann.snd (Ann.snd (Ann.snd (Ann.snd laws_FnRootOf_an))))))))))) (laws_FnRootOf_n2_l x1314 x1313 x1322) (fun (t : Unit) => (laws_FnRootOf_n5_l x1314 x1313 x1322)))

theorem laws_FnRootOf_n7_l : Link laws_FnRootOf_ctx LL (Code.snd (Code.snd (Code.snd (Code.snd (Code.snd (Code.snd (Code.snd (Code.snd (Code.snd (bodyOf Try.f4)))))))))) (Ann.snd (Ann.snd (Ann.snd (Ann.snd (Ann.snd (Ann.snd (Ann.snd (Ann.snd (Ann.snd laws_FnRootOf_an))))))))) (⟨mkE 65 0 [], []⟩ : St) (laws_FnRootOf_n7) (fun (t : Bool) => (Exit.ret, (⟨mkE 65 0 [(2, .dat .bool t)], []⟩ : St))) := by
  refine Link.of fun K h => ?_
  simp only [laws_FnRootOf_n7, wpO_bind, wpO_cond, wpO_map, wpO_some] at h
  exact Awp.of (by kernel_rfl) h

theorem laws_FnRootOf_n8_l (x1314 : Int) (x1313 : List Int) (x1322 : List Int) : Link laws_FnRootOf_ctx LL (Code.snd (Code.snd (Code.snd (Code.snd (Code.snd (Code.snd (Code.snd (Code.snd (bodyOf Try.f4))))))))) (Ann.snd (Ann.snd (Ann.snd (Ann.snd (Ann.snd (Ann.snd (Ann.snd (Ann.snd laws_FnRootOf_an)))))))) (⟨mkE 65 0 [(3, .slc 0), (4, .dat (.int .i64) x1314), (5, .slc 1)], [some (.seq (.int .i64) x1313), some (.seq (.int .i64) x1322)]⟩ : St) (laws_FnRootOf_n8 x1314 x1313 x1322) (fun (t : Bool) => (Exit.ret, (⟨mkE 65 0 [(2, .dat .bool t)], []⟩ : St))) := by
  unfold laws_FnRootOf_n8
  exact Link.cast (by kernel_rfl) (by kernel_rfl) (link_seq2 (b := (Code.snd (Code.snd (Code.snd (Code.snd (Code.snd (Code.snd (Code.snd (Code.snd (Code.snd (bodyOf Try.f4))))))))))) (y := (Ann.snd (Ann.snd (Ann.snd (Ann.snd (Ann.snd (Ann.snd (Ann.snd (Ann.snd (Ann.snd laws_FnRootOf_an)))))))))) (laws_FnRootOf_n6_l x1314 x1313 x1322) (fun (t : Unit) => (laws_FnRootOf_n7_l)) (fun (t : Bool) => t) (by
  rintro t
  · kernel_rfl) (by
  rintro t f K h
  · exact h))

theorem laws_FnRootOf_n9_l (x1157 : List Int) : Link laws_FnRootOf_ctx LL (bodyOf Try.f4) laws_FnRootOf_an (⟨mkE 65 0 [(0, .dat (.list (.int .u8)) x1157)], []⟩ : St) (laws_FnRootOf_n9 x1157) (fun (t : Bool) => (Exit.ret, (⟨mkE 65 0 [(2, .dat .bool t)], []⟩ : St))) := by
  unfold laws_FnRootOf_n9
  exact Link.cast (by kernel_rfl) (by kernel_rfl) (link_group (c := (Code.fst (Code.snd (Code.snd (Code.snd (Code.snd (Code.snd (Code.snd (Code.snd (bodyOf Try.f4)))))))))) (a := (Ann.fst (Ann.snd (Ann.snd (Ann.snd (Ann.snd (Ann.snd (Ann.snd (Ann.snd laws_FnRootOf_an))))))))) [(Code.fst (bodyOf Try.f4)), (Code.fst (Code.snd (bodyOf Try.f4))), (Code.fst (Code.snd (Code.snd (bodyOf Try.f4)))), (Code.fst (Code.snd (Code.snd (Code.snd (bodyOf Try.f4))))), (Code.fst (Code.snd (Code.snd (Code.snd (Code.snd (bodyOf Try.f4)))))), (Code.fst (Code.snd (Code.snd (Code.snd (Code.snd (Code.snd (bodyOf Try.f4))))))), (Code.fst (Code.snd (Code.snd (Code.snd (Code.snd (Code.snd (Code.snd (bodyOf Try.f4))))))))] [(Ann.fst laws_FnRootOf_an), (Ann.fst (Ann.snd laws_FnRootOf_an)), (Ann.fst (Ann.snd (Ann.snd laws_FnRootOf_an))), (Ann.fst (Ann.snd (Ann.snd (Ann.snd laws_FnRootOf_an)))), (Ann.fst (Ann.snd (Ann.snd (Ann.snd (Ann.snd laws_FnRootOf_an))))), (Ann.fst (Ann.snd (Ann.snd (Ann.snd (Ann.snd (Ann.snd laws_FnRootOf_an)))))), (Ann.fst (Ann.snd (Ann.snd (Ann.snd (Ann.snd (Ann.snd (Ann.snd laws_FnRootOf_an)))))))] rfl (link_seq2 (b := (Code.snd (Code.snd (Code.snd (Code.snd (Code.snd (Code.snd (Code.snd (Code.snd (bodyOf Try.f4)))))))))) (y := (Ann.snd (Ann.snd (Ann.snd (Ann.snd (Ann.snd (Ann.snd (Ann.snd (Ann.snd laws_FnRootOf_an))))))))) (laws_FnRootOf_n1_l x1157) (fun (t : Int × (List Int) × (List Int)) => (laws_FnRootOf_n8_l t.1 t.2.1 t.2.2)) (fun (t : Bool) => t) (by
  rintro t
  · kernel_rfl) (by
  rintro t f K h
  · exact h)))

theorem laws_FnRootOf_e (x1157 : List Int) {r : AV} {H' : Heap} (h : (Ans.mk _ (laws_FnRootOf x1157) (fun (t : Bool) => (.dat .bool t, []))).run = some (r, H')) : Awp laws_FnRootOf_ctx LL (bodyOf Try.f4) laws_FnRootOf_an (⟨mkE 65 0 [(0, .dat (.list (.int .u8)) x1157)], []⟩ : St) (Ret (tlook tys) Try.f4.results.toList r H') :=
  ret_of' (laws_FnRootOf_n9_l x1157) (by unfold laws_FnRootOf; kernel_rfl) (by
  intro t
  exact ret_mk [.dat .bool t] (by kernel_rfl) (by kernel_rfl) (by kernel_rfl) (by kernel_rfl)) h

def F_laws_FnRootOf : Fun := fun avs H =>
  match avs, H with
  | [.dat (.list (.int .u8)) x1157], [] => ⟨_, laws_FnRootOf x1157, fun (t : Bool) => (.dat .bool t, [])⟩
  | _, _ => Ans.no

theorem laws_FnRootOf_sound : Sound Try.prog 4 F_laws_FnRootOf := by
  refine fn_sound' (C := laws_FnRootOf_ctx) (c := bodyOf Try.f4) (cok_of tys_ok (List.forall_mem_cons.2 ⟨spec_DrawRootOf_sound, List.forall_mem_cons.2 ⟨impl_RootOf_sound, List.forall_mem_cons.2 ⟨spec_RootOf_sound, List.forall_mem_cons.2 ⟨impl_TreeOk_sound, List.forall_mem_cons.2 ⟨laws_alive_sound, List.forall_mem_cons.2 ⟨impl_DepthOf_sound, by simp⟩⟩⟩⟩⟩⟩) (List.forall_mem_cons.2 ⟨Try.call14, List.forall_mem_cons.2 ⟨Try.call15, List.forall_mem_cons.2 ⟨Try.call16, List.forall_mem_cons.2 ⟨Try.call11, List.forall_mem_cons.2 ⟨Try.call13, List.forall_mem_cons.2 ⟨Try.call17, by simp⟩⟩⟩⟩⟩⟩) (by kernel_rfl)) Try.func4 (by kernel_rfl) LL laws_FnRootOf_an ?_
  intro avs H r H' h
  unfold F_laws_FnRootOf at h
  split at h
  · refine Awp.cast ?_ ?_ ?_ (laws_FnRootOf_e _ h) <;> kernel_rfl
  · simp [Ans.no, Ans.run] at h

/-! loop.example/headtrees/spec.DrawDepthOf -/

def spec_DrawDepthOf_an : Ann := (.seq (.leaf [0]) (.seq (.leaf [2]) (.leaf [2])))

noncomputable def spec_DrawDepthOf_ctx : Ctx := ⟨tlook tys, olook [(34, F_spec_l20Open), (33, F_spec_l20Tree)], ioF, 0⟩

theorem spec_DrawDepthOf_n1_l (x1396 : List Int) : Link spec_DrawDepthOf_ctx LL (bodyOf Try.f18) spec_DrawDepthOf_an (⟨mkE 6 0 [(0, .dat (.list (.int .u8)) x1396)], []⟩ : St) (spec_DrawDepthOf_n1 x1396) (fun (t : (List Int)) => (Exit.ret, (⟨mkE 6 0 [(2, .slc 0)], [some (.seq (.int .i64) t)]⟩ : St))) := by
  refine Link.of fun K h => ?_
  simp only [spec_DrawDepthOf_n1, wpO_bind, wpO_cond, wpO_map, wpO_some] at h
  exact Awp.of (by kernel_rfl) h

theorem spec_DrawDepthOf_e (x1396 : List Int) {r : AV} {H' : Heap} (h : (Ans.mk _ (spec_DrawDepthOf x1396) (fun (t : (List Int)) => (.slc 0, [some (.seq (.int .i64) t)]))).run = some (r, H')) : Awp spec_DrawDepthOf_ctx LL (bodyOf Try.f18) spec_DrawDepthOf_an (⟨mkE 6 0 [(0, .dat (.list (.int .u8)) x1396)], []⟩ : St) (Ret (tlook tys) Try.f18.results.toList r H') :=
  ret_of' (spec_DrawDepthOf_n1_l x1396) (by unfold spec_DrawDepthOf; kernel_rfl) (by
  intro t
  exact ret_mk [.slc 0] (by kernel_rfl) (by kernel_rfl) (by kernel_rfl) (by kernel_rfl)) h

def F_spec_DrawDepthOf : Fun := fun avs H =>
  match avs, H with
  | [.dat (.list (.int .u8)) x1396], [] => ⟨_, spec_DrawDepthOf x1396, fun (t : (List Int)) => (.slc 0, [some (.seq (.int .i64) t)])⟩
  | _, _ => Ans.no

theorem spec_DrawDepthOf_sound : Sound Try.prog 18 F_spec_DrawDepthOf := by
  refine fn_sound' (C := spec_DrawDepthOf_ctx) (c := bodyOf Try.f18) (cok_of tys_ok (List.forall_mem_cons.2 ⟨spec_l20Open_sound, List.forall_mem_cons.2 ⟨spec_l20Tree_sound, by simp⟩⟩) (List.forall_mem_cons.2 ⟨Try.call34, List.forall_mem_cons.2 ⟨Try.call33, by simp⟩⟩) (by kernel_rfl)) Try.func18 (by kernel_rfl) LL spec_DrawDepthOf_an ?_
  intro avs H r H' h
  unfold F_spec_DrawDepthOf at h
  split at h
  · refine Awp.cast ?_ ?_ ?_ (spec_DrawDepthOf_e _ h) <;> kernel_rfl
  · simp [Ans.no, Ans.run] at h

/-! loop.example/headtrees/spec.DepthOf -/

def spec_DepthOf_an : Ann := (.seq (.leaf [0]) (.seq (.leaf [0, 3]) (.seq (.seq (.leaf [0, 3, 4]) (.block (.loop (.seq (.seq (.leaf [0, 3, 4, 15]) (.cond (.leaf [0, 3, 4]) (.leaf [3]))) (.seq (.block (.seq (.leaf [0, 3, 4, 5]) (.seq (.seq (.leaf [0, 3, 4, 5, 6]) (.block (.loop (.seq (.seq (.leaf [0, 3, 4, 5, 6, 25]) (.cond (.leaf [0, 3, 4, 5, 6]) (.leaf [0, 3, 4, 5]))) (.seq (.block (.leaf [0, 3, 4, 5, 6])) (.leaf [0, 3, 4, 5, 6])))))) (.leaf [0, 3, 4])))) (.leaf [0, 3, 4])))))) (.seq (.leaf [2]) (.leaf [2])))))

noncomputable def spec_DepthOf_ctx : Ctx := ⟨tlook tys, olook [(12, F_spec_TreeOk)], ioF, 0⟩

theorem spec_DepthOf_n1_l (x1414 : List Int) : Link spec_DepthOf_ctx LL (Code.seq (Code.fst (bodyOf Try.f20)) (Code.fst (Code.snd (bodyOf Try.f20)))) (Ann.seq (Ann.fst spec_DepthOf_an) (Ann.fst (Ann.snd spec_DepthOf_an))) (⟨mkE 38 0 [(0, .dat (.list (.int .i64)) x1414)], []⟩ : St) (spec_DepthOf_n1) (fun (t : Unit) => (Exit.normal, (⟨mkE 38 0 [(0, .dat (.list (.int .i64)) x1414), (3, .slc 0)], [some (.seq (.int .i64) ([] : List Int))]⟩ : St))) := by
  refine Link.of fun K h => ?_
  simp only [spec_DepthOf_n1, wpO_bind, wpO_cond, wpO_map, wpO_some] at h
  exact Awp.of (by kernel_rfl) h

theorem spec_DepthOf_n2_l (x1414 : List Int) : Link spec_DepthOf_ctx LL (Code.fst (Code.fst (Code.snd (Code.snd (bodyOf Try.f20))))) (Ann.fst (Ann.fst (Ann.snd (Ann.snd spec_DepthOf_an)))) (⟨mkE 38 0 [(0, .dat (.list (.int .i64)) x1414), (3, .slc 0)], [some (.seq (.int .i64) ([] : List Int))]⟩ : St) (spec_DepthOf_n2) (fun (t : Unit) => (Exit.normal, (⟨mkE 38 0 [(0, .dat (.list (.int .i64)) x1414), (3, .slc 0), (4, .dat (.int .i64) 0)], [some (.seq (.int .i64) ([] : List Int))]⟩ : St))) := by
  refine Link.of fun K h => ?_
  simp only [spec_DepthOf_n2, wpO_bind, wpO_cond, wpO_map, wpO_some] at h
  exact Awp.of (by kernel_rfl) h

theorem spec_DepthOf_n3_l (x1414 : List Int) (x1452 : Int) (x1453 : List Int) : Link spec_DepthOf_ctx LL (Code.fst (Code.fst (Code.fst (Code.snd (Code.fst (Code.snd (Code.snd (bodyOf Try.f20)))))))) (Ann.fst (Ann.fst (Ann.fst (Ann.snd (Ann.fst (Ann.snd (Ann.snd spec_DepthOf_an))))))) (⟨mkE 38 0 [(0, .dat (.list (.int .i64)) x1414), (3, .slc 0), (4, .dat (.int .i64) x1452)], [some (.seq (.int .i64) x1453)]⟩ : St) (spec_DepthOf_n3 x1414 x1452 x1453) (Sum.elim (fun (t : Unit) => (Exit.normal, (⟨mkE 38 0 [(0, .dat (.list (.int .i64)) x1414), (3, .slc 0), (4, .dat (.int .i64) x1452)], [some (.seq (.int .i64) x1453)]⟩ : St))) (fun (t : (List Int)) => ((Exit.exit 0), (⟨mkE 38 0 [(3, .slc 0)], [some (.seq (.int .i64) t)]⟩ : St)))) := by
  refine Link.of fun K h => ?_
  simp only [spec_DepthOf_n3, wpO_bind, wpO_cond, wpO_map, wpO_some] at h
  exact Awp.of (by kernel_rfl) h

theorem spec_DepthOf_n4_l (x1414 : List Int) (x1452 : Int) (x1453 : List Int) : Link spec_DepthOf_ctx LL (Code.fst (Code.fst (Code.fst (Code.snd (Code.fst (Code.fst (Code.snd (Code.fst (Code.snd (Code.snd (bodyOf Try.f20))))))))))) (Ann.fst (Ann.fst (Ann.fst (Ann.snd (Ann.fst (Ann.fst (Ann.snd (Ann.fst (Ann.snd (Ann.snd spec_DepthOf_an)))))))))) (⟨mkE 38 0 [(0, .dat (.list (.int .i64)) x1414), (3, .slc 0), (4, .dat (.int .i64) x1452)], [some (.seq (.int .i64) x1453)]⟩ : St) (spec_DepthOf_n4) (fun (t : Unit) => (Exit.normal, (⟨mkE 38 0 [(0, .dat (.list (.int .i64)) x1414), (3, .slc 0), (4, .dat (.int .i64) x1452), (5, .dat (.int .i64) 0)], [some (.seq (.int .i64) x1453)]⟩ : St))) := by
  refine Link.of fun K h => ?_
  simp only [spec_DepthOf_n4, wpO_bind, wpO_cond, wpO_map, wpO_some] at h
  exact Awp.of (by kernel_rfl) h

theorem spec_DepthOf_n5_l (x1414 : List Int) (x1452 : Int) (x1453 : List Int) : Link spec_DepthOf_ctx LL (Code.fst (Code.fst (Code.snd (Code.fst (Code.fst (Code.snd (Code.fst (Code.fst (Code.snd (Code.fst (Code.snd (Code.snd (bodyOf Try.f20))))))))))))) (Ann.fst (Ann.fst (Ann.snd (Ann.fst (Ann.fst (Ann.snd (Ann.fst (Ann.fst (Ann.snd (Ann.fst (Ann.snd (Ann.snd spec_DepthOf_an)))))))))))) (⟨mkE 38 0 [(0, .dat (.list (.int .i64)) x1414), (3, .slc 0), (4, .dat (.int .i64) x1452), (5, .dat (.int .i64) 0)], [some (.seq (.int .i64) x1453)]⟩ : St) (spec_DepthOf_n5 x1452) (fun (t : Int) => (Exit.normal, (⟨mkE 38 0 [(0, .dat (.list (.int .i64)) x1414), (3, .slc 0), (4, .dat (.int .i64) x1452), (5, .dat (.int .i64) 0), (6, .dat (.int .i64) t)], [some (.seq (.int .i64) x1453)]⟩ : St))) := by
  refine Link.of fun K h => ?_
  simp only [spec_DepthOf_n5, wpO_bind, wpO_cond, wpO_map, wpO_some] at h
  exact Awp.of (by kernel_rfl) h

theorem spec_DepthOf_n6_l (x1414 : List Int) (x1452 : Int) (x1471 : Int) (x1472 : Int) (x1453 : List Int) : Link spec_DepthOf_ctx LL (Code.fst (Code.fst (Code.snd (Code.fst (Code.snd (Code.fst (Code.fst (Code.snd (Code.fst (Code.fst (Code.snd (Code.fst (Code.snd (Code.snd (bodyOf Try.f20))))))))))))))) (Ann.fst (Ann.fst (Ann.snd (Ann.fst (Ann.snd (Ann.fst (Ann.fst (Ann.snd (Ann.fst (Ann.fst (Ann.snd (Ann.fst (Ann.snd (Ann.snd spec_DepthOf_an)))))))))))))) (⟨mkE 38 0 [(0, .dat (.list (.int .i64)) x1414), (3, .slc 0), (4, .dat (.int .i64) x1452), (5, .dat (.int .i64) x1471), (6, .dat (.int .i64) x1472)], [some (.seq (.int .i64) x1453)]⟩ : St) (spec_DepthOf_n6 x1414 x1471 x1472) (Sum.elim (fun (t : Int × Int) => (Exit.normal, (⟨mkE 38 0 [(0, .dat (.list (.int .i64)) x1414), (3, .slc 0), (4, .dat (.int .i64) x1452), (5, .dat (.int .i64) t.1), (6, .dat (.int .i64) t.2)], [some (.seq (.int .i64) x1453)]⟩ : St))) (fun (t : Int) => ((Exit.exit 2), (⟨mkE 38 0 [(0, .dat (.list (.int .i64)) x1414), (3, .slc 0), (4, .dat (.int .i64) x1452), (5, .dat (.int .i64) t)], [some (.seq (.int .i64) x1453)]⟩ : St)))) := by
  refine Link.of fun K h => ?_
  simp only [spec_DepthOf_n6, wpO_bind, wpO_cond, wpO_map, wpO_some] at h
  exact Awp.of (by kernel_rfl) h

theorem spec_DepthOf_n7_l (x1414 : List Int) (x1452 : Int) (x1457 : Int) (x1453 : List Int) : Link spec_DepthOf_ctx LL (Code.fst (Code.snd (Code.fst (Code.snd (Code.fst (Code.fst (Code.snd (Code.fst (Code.fst (Code.snd (Code.fst (Code.snd (Code.snd (bodyOf Try.f20)))))))))))))) (Ann.fst (Ann.snd (Ann.fst (Ann.snd (Ann.fst (Ann.fst (Ann.snd (Ann.fst (Ann.fst (Ann.snd (Ann.fst (Ann.snd (Ann.snd spec_DepthOf_an))))))))))))) (⟨mkE 38 0 [(0, .dat (.list (.int .i64)) x1414), (3, .slc 0), (4, .dat (.int .i64) x1452), (5, .dat (.int .i64) 0), (6, .dat (.int .i64) x1457)], [some (.seq (.int .i64) x1453)]⟩ : St) (spec_DepthOf_n7 x1414 x1457) (fun (t : Int) => ((Exit.exit 2), (⟨mkE 38 0 [(0, .dat (.list (.int .i64)) x1414), (3, .slc 0), (4, .dat (.int .i64) x1452), (5, .dat (.int .i64) t)], [some (.seq (.int .i64) x1453)]⟩ : St))) := by
  unfold spec_DepthOf_n7
  exact Link.cast (by kernel_rfl) (by kernel_rfl) (link_loop (mk := fun (s : Int × Int) => (⟨mkE 38 0 [(0, .dat (.list (.int .i64)) x1414), (3, .slc 0), (4, .dat (.int .i64) x1452), (5, .dat (.int .i64) s.1), (6, .dat (.int .i64) s.2)], [some (.seq (.int .i64) x1453)]⟩ : St)) (fin := (fun (t : Int) => ((Exit.exit 2), (⟨mkE 38 0 [(0, .dat (.list (.int .i64)) x1414), (3, .slc 0), (4, .dat (.int .i64) x1452), (5, .dat (.int .i64) t)], [some (.seq (.int .i64) x1453)]⟩ : St)))) (by
  rintro t f K h
  · exact h) (fun s => link_map (spec_DepthOf_n6_l x1414 x1452 s.1 s.2 x1453) (Sum.elim (fun (t : Int × Int) => Sum.inl (t.1, t.2)) (fun (t : Int) => Sum.inr t)) (by
  rintro (t | t)
  · kernel_rfl
  · kernel_rfl)) (0, x1457))

theorem spec_DepthOf_n8_l (x1414 : List Int) (x1452 : Int) (x1457 : Int) (x1453 : List Int) : Link spec_DepthOf_ctx LL (Code.snd (Code.fst (Code.snd (Code.fst (Code.fst (Code.snd (Code.fst (Code.fst (Code.snd (Code.fst (Code.snd (Code.snd (bodyOf Try.f20))))))))))))) (Ann.snd (Ann.fst (Ann.snd (Ann.fst (Ann.fst (Ann.snd (Ann.fst (Ann.fst (Ann.snd (Ann.fst (Ann.snd (Ann.snd spec_DepthOf_an)))))))))))) (⟨mkE 38 0 [(0, .dat (.list (.int .i64)) x1414), (3, .slc 0), (4, .dat (.int .i64) x1452), (5, .dat (.int .i64) 0), (6, .dat (.int .i64) x1457)], [some (.seq (.int .i64) x1453)]⟩ : St) (spec_DepthOf_n8 x1414 x1457) (fun (t : Int) => (Exit.normal, (⟨mkE 38 0 [(0, .dat (.list (.int .i64)) x1414), (3, .slc 0), (4, .dat (.int .i64) x1452), (5, .dat (.int .i64) t)], [some (.seq (.int .i64) x1453)]⟩ : St))) := by
  unfold spec_DepthOf_n8
  exact Link.cast (by kernel_rfl) (by kernel_rfl) (link_block (id := 2) (spec_DepthOf_n7_l x1414 x1452 x1457 x1453) (fun (t : Int) => t) (by
  rintro t K h
  · exact Eq.mp (by kernel_rfl) h))

theorem spec_DepthOf_n9_l (x1414 : List Int) (x1452 : Int) (x1453 : List Int) : Link spec_DepthOf_ctx LL (Code.fst (Code.snd (Code.fst (Code.fst (Code.snd (Code.fst (Code.fst (Code.snd (Code.fst (Code.snd (Code.snd (bodyOf Try.f20)))))))))))) (Ann.fst (Ann.snd (Ann.fst (Ann.fst (Ann.snd (Ann.fst (Ann.fst (Ann.snd (Ann.fst (Ann.snd (Ann.snd spec_DepthOf_an))))))))))) (⟨mkE 38 0 [(0, .dat (.list (.int .i64)) x1414), (3, .slc 0), (4, .dat (.int .i64) x1452), (5, .dat (.int .i64) 0)], [some (.seq (.int .i64) x1453)]⟩ : St) (spec_DepthOf_n9 x1414 x1452) (fun (t : Int) => (Exit.normal, (⟨mkE 38 0 [(0, .dat (.list (.int .i64)) x1414), (3, .slc 0), (4, .dat (.int .i64) x1452), (5, .dat (.int .i64) t)], [some (.seq (.int .i64) x1453)]⟩ : St))) := by
  unfold spec_DepthOf_n9
  exact Link.cast (by kernel_rfl) (by kernel_rfl) (link_seq (b := (Code.snd (Code.fst (Code.snd (Code.fst (Code.fst (Code.snd (Code.fst (Code.fst (Code.snd (Code.fst (Code.snd (Code.snd (bodyOf Try.f20)))))))))))))) (y := (Ann.snd (Ann.fst (Ann.snd (Ann.fst (Ann.fst (Ann.snd (Ann.fst (Ann.fst (Ann.snd (Ann.fst (Ann.snd (Ann.snd spec_DepthOf_an))))))))))))) (spec_DepthOf_n5_l x1414 x1452 x1453) (fun (t : Int) => (spec_DepthOf_n8_l x1414 x1452 t x1453)))

theorem spec_DepthOf_n10_l (x1414 : List Int) (x1452 : Int) (x1471 : Int) (x1453 : List Int) : Link spec_DepthOf_ctx LL (Code.snd (Code.snd (Code.fst (Code.fst (Code.snd (Code.fst (Code.fst (Code.snd (Code.fst (Code.snd (Code.snd (bodyOf Try.f20)))))))))))) (Ann.snd (Ann.snd (Ann.fst (Ann.fst (Ann.snd (Ann.fst (Ann.fst (Ann.snd (Ann.fst (Ann.snd (Ann.snd spec_DepthOf_an))))))))))) (⟨mkE 38 0 [(0, .dat (.list (.int .i64)) x1414), (3, .slc 0), (4, .dat (.int .i64) x1452), (5, .dat (.int .i64) x1471)], [some (.seq (.int .i64) x1453)]⟩ : St) (spec_DepthOf_n10 x1471 x1453) (fun (t : (List Int)) => (Exit.normal, (⟨mkE 38 0 [(0, .dat (.list (.int .i64)) x1414), (3, .slc 0), (4, .dat (.int .i64) x1452)], [some (.seq (.int .i64) t)]⟩ : St))) := by
  refine Link.of fun K h => ?_
  simp only [spec_DepthOf_n10, wpO_bind, wpO_cond, wpO_map, wpO_some] at h
  exact Awp.of (by kernel_rfl) h

theorem spec_DepthOf_n11_l (x1414 : List Int) (x1452 : Int) (x1453 : List Int) : Link spec_DepthOf_ctx LL (Code.snd (Code.fst (Code.fst (Code.snd (Code.fst (Code.fst (Code.snd (Code.fst (Code.snd (Code.snd (bodyOf Try.f20))))))))))) (Ann.snd (Ann.fst (Ann.fst (Ann.snd (Ann.fst (Ann.fst (Ann.snd (Ann.fst (Ann.snd (Ann.snd spec_DepthOf_an)))))))))) (⟨mkE 38 0 [(0, .dat (.list (.int .i64)) x1414), (3, .slc 0), (4, .dat (.int .i64) x1452), (5, .dat (.int .i64) 0)], [some (.seq (.int .i64) x1453)]⟩ : St) (spec_DepthOf_n11 x1414 x1452 x1453) (fun (t : (List Int)) => (Exit.normal, (⟨mkE 38 0 [(0, .dat (.list (.int .i64)) x1414), (3, .slc 0), (4, .dat (.int .i64) x1452)], [some (.seq (.int .i64) t)]⟩ : St))) := by
  unfold spec_DepthOf_n11
  exact Link.cast (by kernel_rfl) (by kernel_rfl) (link_seq (b := (Code.snd (Code.snd (Code.fst (Code.fst (Code.snd (Code.fst (Code.fst (Code.snd (Code.fst (Code.snd (Code.snd (bodyOf Try.f20))))))))))))) (y := (Ann.snd (Ann.snd (Ann.fst (Ann.fst (Ann.snd (Ann.fst (Ann.fst (Ann.snd (Ann.fst (Ann.snd (Ann.snd spec_DepthOf_an)))))))))))) (spec_DepthOf_n9_l x1414 x1452 x1453) (fun (t : Int) => (spec_DepthOf_n10_l x1414 x1452 t x1453)))

theorem spec_DepthOf_n12_l (x1414 : List Int) (x1452 : Int) (x1453 : List Int) : Link spec_DepthOf_ctx LL (Code.fst (Code.fst (Code.snd (Code.fst (Code.fst (Code.snd (Code.fst (Code.snd (Code.snd (bodyOf Try.f20)))))))))) (Ann.fst (Ann.fst (Ann.snd (Ann.fst (Ann.fst (Ann.snd (Ann.fst (Ann.snd (Ann.snd spec_DepthOf_an))))))))) (⟨mkE 38 0 [(0, .dat (.list (.int .i64)) x1414), (3, .slc 0), (4, .dat (.int .i64) x1452)], [some (.seq (.int .i64) x1453)]⟩ : St) (spec_DepthOf_n12 x1414 x1452 x1453) (fun (t : (List Int)) => (Exit.normal, (⟨mkE 38 0 [(0, .dat (.list (.int .i64)) x1414), (3, .slc 0), (4, .dat (.int .i64) x1452)], [some (.seq (.int .i64) t)]⟩ : St))) := by
  unfold spec_DepthOf_n12
  exact Link.cast (by kernel_rfl) (by kernel_rfl) (link_seq (b := (Code.snd (Code.fst (Code.fst (Code.snd (Code.fst (Code.fst (Code.snd (Code.fst (Code.snd (Code.snd (bodyOf Try.f20)))))))))))) (y := (Ann.snd (Ann.fst (Ann.fst (Ann.snd (Ann.fst (Ann.fst (Ann.snd (Ann.fst (Ann.snd (Ann.snd spec_DepthOf_an))))))))))) (spec_DepthOf_n4_l x1414 x1452 x1453) (fun (t : Unit) => (spec_DepthOf_n11_l x1414 x1452 x1453)))

theorem spec_DepthOf_n13_l (x1414 : List Int) (x1452 : Int) (x1453 : List Int) : Link spec_DepthOf_ctx LL (Code.fst (Code.snd (Code.fst (Code.fst (Code.snd (Code.fst (Code.snd (Code.snd (bodyOf Try.f20))))))))) (Ann.fst (Ann.snd (Ann.fst (Ann.fst (Ann.snd (Ann.fst (Ann.snd (Ann.snd spec_DepthOf_an)))))))) (⟨mkE 38 0 [(0, .dat (.list (.int .i64)) x1414), (3, .slc 0), (4, .dat (.int .i64) x1452)], [some (.seq (.int .i64) x1453)]⟩ : St) (spec_DepthOf_n13 x1414 x1452 x1453) (fun (t : (List Int)) => (Exit.normal, (⟨mkE 38 0 [(0, .dat (.list (.int .i64)) x1414), (3, .slc 0), (4, .dat (.int .i64) x1452)], [some (.seq (.int .i64) t)]⟩ : St))) := by
  unfold spec_DepthOf_n13
  exact Link.cast (by kernel_rfl) (by kernel_rfl) (link_block (id := 1) (spec_DepthOf_n12_l x1414 x1452 x1453) (fun (t : (List Int)) => t) (by
  rintro t K h
  · exact Eq.mp (by kernel_rfl) h))

theorem spec_DepthOf_n14_l (x1414 : List Int) (x1452 : Int) (x1489 : List Int) : Link spec_DepthOf_ctx LL (Code.snd (Code.snd (Code.fst (Code.fst (Code.snd (Code.fst (Code.snd (Code.snd (bodyOf Try.f20))))))))) (Ann.snd (Ann.snd (Ann.fst (Ann.fst (Ann.snd (Ann.fst (Ann.snd (Ann.snd spec_DepthOf_an)))))))) (⟨mkE 38 0 [(0, .dat (.list (.int .i64)) x1414), (3, .slc 0), (4, .dat (.int .i64) x1452)], [some (.seq (.int .i64) x1489)]⟩ : St) (spec_DepthOf_n14 x1452) (fun (t : Int) => (Exit.normal, (⟨mkE 38 0 [(0, .dat (.list (.int .i64)) x1414), (3, .slc 0), (4, .dat (.int .i64) t)], [some (.seq (.int .i64) x1489)]⟩ : St))) := by
  refine Link.of fun K h => ?_
  simp only [spec_DepthOf_n14, wpO_bind, wpO_cond, wpO_map, wpO_some] at h
  exact Awp.of (by kernel_rfl) h

theorem spec_DepthOf_n15_l (x1414 : List Int) (x1452 : Int) (x1453 : List Int) : Link spec_DepthOf_ctx LL (Code.snd (Code.fst (Code.fst (Code.snd (Code.fst (Code.snd (Code.snd (bodyOf Try.f20)))))))) (Ann.snd (Ann.fst (Ann.fst (Ann.snd (Ann.fst (Ann.snd (Ann.snd spec_DepthOf_an))))))) (⟨mkE 38 0 [(0, .dat (.list (.int .i64)) x1414), (3, .slc 0), (4, .dat (.int .i64) x1452)], [some (.seq (.int .i64) x1453)]⟩ : St) (spec_DepthOf_n15 x1414 x1452 x1453) (fun (t : Int × (List Int)) => (Exit.normal, (⟨mkE 38 0 [(0, .dat (.list (.int .i64)) x1414), (3, .slc 0), (4, .dat (.int .i64) t.1)], [some (.seq (.int .i64) t.2)]⟩ : St))) := by
  unfold spec_DepthOf_n15
  exact Link.cast (by kernel_rfl) (by kernel_rfl) (link_seq (b := (Code.snd (Code.snd (Code.fst (Code.fst (Code.snd (Code.fst (Code.snd (Code.snd (bodyOf Try.f20)))))))))) (y := (Ann.snd (Ann.snd (Ann.fst (Ann.fst (Ann.snd (Ann.fst (Ann.snd (Ann.snd spec_DepthOf_an))))))))) (spec_DepthOf_n13_l x1414 x1452 x1453) (fun (t : (List Int)) => (link_map (spec_DepthOf_n14_l x1414 x1452 t) (fun (u : Int) => (u, t)) (by
  rintro t
  · kernel_rfl))))

end Go.Rv
